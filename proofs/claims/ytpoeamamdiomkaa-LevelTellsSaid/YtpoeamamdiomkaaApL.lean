/- append of structs that a slice reads as, nil or not, to a row of the call's own: up to a million. -/
import Derived.Test.YtpoeamamdiomkaaOwnEls
import Derived.Laws.AppendOwnNone
import Derived.Deep.RegionLaw
namespace Go.Proofs.Ytpoeamamdiomkaa
open Go.RowKit
set_option linter.unusedVariables false
set_option linter.unusedSimpArgs false
set_option maxRecDepth 100000

section
variable {α : Type} {k : Nat} {enc : α → List Value}
theorem flatL (hk : ∀ x, (enc x).length = k) (l : List α) : (l.flatMap enc).length = l.length * k := by
  induction l with
  | nil => simp
  | cons x l ih => rw [List.flatMap_cons, List.length_append, hk, ih, List.length_cons, Nat.add_mul]; omega
theorem elsL_src (hk : ∀ x, (enc x).length = k) (h0 : 0 < k) {w : World} {A : Option Addr} {r : List α} (h : Els k enc w A r) (hr : 0 < r.length) : ∃ ad, A = some ad ∧ ∀ j u, (r.flatMap enc)[j]? = some u → w.cell? (ad.add j) = some u := by
  obtain ⟨b, off, e, _, hc⟩ := h hr
  refine ⟨_, e, fun j u hu => ?_⟩
  have hadd : (⟨b, off, none⟩ : Addr).add j = ⟨b, off + j, none⟩ := by unfold Addr.add; split <;> simp_all
  rw [hadd]
  have hj : j < r.length * k := by
    have := (List.getElem?_eq_some_iff.1 hu).1
    rwa [flatL hk] at this
  have hdm := Nat.div_add_mod j k
  have hm := Nat.mod_lt j h0
  have hq : j / k < r.length := (Nat.div_lt_iff_lt_mul h0).2 hj
  have hjk : j / k * k + j % k = j := by rw [Nat.mul_comm]; exact hdm
  have := hc (j / k) hq (j % k) u (by
    rw [← flat_at k enc hk r (j / k) hq (j % k) hm, hjk]
    exact hu)
  rw [show off + j / k * k + j % k = off + j by omega] at this
  exact this
theorem elsL_chg {w w' : World} {A : Option Addr} {r : List α} {X : Nat → Prop} (h : Els k enc w A r) (hc : Chg X w w') (hn : ∀ a, A = some a → ¬ X a.block) : Els k enc w' A r := by
  intro h0
  obtain ⟨b, off, e, hlt, hcell⟩ := h h0
  refine ⟨b, off, e, Nat.lt_of_lt_of_le hlt hc.size, fun i hi j v hv => ?_⟩
  rw [World.cell?_of_block (w := w) (a := ⟨b, off + i * k + j, none⟩) (hc.block b hlt (hn _ e))]
  exact hcell i hi j v hv
/-- what append does -/
theorem run_appL {P : Program} {w : World} (hk : ∀ x, (enc x).length = k) (h1 : ∀ x, ∀ u ∈ enc x, u.oneCell' = true) (h0 : 0 < k) (base : Nat) (t ty e : TypeId) (i : TypeInfo) (z : Value) (bytes : Nat) (ht : P.underlying t = some (.slice e)) (hi : P.info? e = some i) (hz : i.zero = some z)
    (hsize : i.size = k) (hby : i.bytes = bytes) (hzs : z.cells.size = k) (v : Value) (l : List α) (hown : w.ownsRow base e k v l.length (l.flatMap enc)) (A : Option Addr) (c : Nat) (r : List α) (hA : A = none → c = 0) (hE : Els k enc w A r)
    (hlen : l.length + r.length ≤ 1000000) (hb : bytes ≤ 1000) (hbase : base ≤ w.heap.size) :
    ∃ v' w', (Builtin.append_ #[t, t] ty #[v, .slice A r.length c]).run P w = .ok v' w' ∧ w'.ownsRow base e k v' (l ++ r).length ((l ++ r).flatMap enc) ∧ w.grownBy w' v.ownBlock ∧ (v'.ownBlock = v.ownBlock ∨ v'.ownBlock = some w.heap.size) := by
  have key : ∀ ad, A = some ad → (∀ j u, (r.flatMap enc)[j]? = some u → w.cell? (ad.add j) = some u) → ∃ v' w', (Builtin.append_ #[t, t] ty #[v, .slice A r.length c]).run P w = .ok v' w' ∧ w'.ownsRow base e k v' (l ++ r).length ((l ++ r).flatMap enc) ∧ w.grownBy w' v.ownBlock ∧ (v'.ownBlock = v.ownBlock ∨ v'.ownBlock = some w.heap.size) := by
    rintro ad rfl hc
    have hbb : (l.length + r.length) * bytes ≤ 1000000 * 1000 := Nat.mul_le_mul hlen hb
    obtain ⟨v', w', hr, h2, h3, _, h5⟩ := run_append_own_at (P := P) w base t ty e i z k bytes ht hi hz hsize hby hzs h0 v l.length (l.flatMap enc) hown ad r.length c (r.flatMap enc) (flatL hk r) hc
      (fun u hu => by obtain ⟨x, _, hx⟩ := List.mem_flatMap.1 hu; exact h1 x u hx) (by unfold maxLen; omega) (by omega) hbase
    refine ⟨v', w', hr, ?_, h3, h5⟩
    rw [List.length_append, List.flatMap_append]
    exact h2
  rcases Nat.eq_zero_or_pos r.length with e0 | e0
  · have hr0 : r = [] := List.eq_nil_of_length_eq_zero e0
    subst hr0
    cases A with
    | none =>
      obtain rfl := hA rfl
      refine ⟨v, w, run_append_owned_none (P := P) (w := w) base t ty e i k ht hi v l.length (l.flatMap enc) hown, ?_, ⟨rfl, rfl, rfl, Nat.le_refl _, fun _ _ _ => rfl⟩, .inl rfl⟩
      simpa using hown
    | some ad => exact key ad rfl (by simp)
  · obtain ⟨ad, e, hc⟩ := elsL_src hk h0 hE e0
    exact key ad e hc
/-- append, as a step of a list -/
theorem wpl_appL {P : Program} {w : World} {ops : Array Oper} {rest : List Oper} {o : Oper} {a : Act} {Q : Exit → Act → World → Prop} (hgd : o.guard = none) (s x : Operand) (t : TypeId)
    (ho : o.op = .call { callee := .builtin .append, args := #[s, x], argTypes := #[t, t] })
    (hk : ∀ x, (enc x).length = k) (h1 : ∀ x, ∀ u ∈ enc x, u.oneCell' = true) (h0 : 0 < k) (base : Nat) (e : TypeId) (i : TypeInfo) (z : Value) (bytes : Nat) (ht : P.underlying t = some (.slice e)) (hi : P.info? e = some i ∧ i.zero = some z ∧ i.size = k ∧ i.bytes = bytes)
    (hzs : z.cells.size = k) (v : Value) (l : List α) (hs : a.eval s = v) (hown : w.ownsRow base e k v l.length (l.flatMap enc)) (A : Option Addr) (n c : Nat) (r : List α) (hn : r.length = n) (hx : a.eval x = .slice A n c) (hA : A = none → c = 0) (hE : Els k enc w A r)
    (hlen : l.length + r.length ≤ 1000000) (hb : bytes ≤ 1000) (hbase : base ≤ w.heap.size)
    (h : ∀ v' w', w'.ownsRow base e k v' (l ++ r).length ((l ++ r).flatMap enc) → w.grownBy w' v.ownBlock → (v'.ownBlock = v.ownBlock ∨ v'.ownBlock = some w.heap.size) → wpList P ops Q rest (a.put o.dst v') w') :
    wpList P ops Q (o :: rest) a w :=
  wpList_plain hgd fun _ hK => by
    subst hn
    obtain ⟨v', w', hr, h2, h3, h4⟩ := run_appL (P := P) (w := w) hk h1 h0 base t o.type e i z bytes ht hi.1 hi.2.1 hi.2.2.1 hi.2.2.2 hzs v l hown A c r hA hE hlen hb hbase
    unfold Oper.wp execOp
    simp only [ho, resolve, invoke, builtin, Sem.run_bind, Sem.run_pure, Result.andThen_ok, List.map_toArray, List.map_cons, List.map_nil, hs, hx, hr]
    exact hK _ _ (h _ _ h2 h3 h4)
/-- append, as a step of a region that draws -/
theorem step_appL {P : Program} {w : World} {ops : Array Oper} {o : Oper} {a : Act} {K : Act → World → Prop} {Q : Exit → Act → World → Prop} {E : Prop} (hgd : o.guard = none) (s x : Operand) (t : TypeId)
    (ho : o.op = .call { callee := .builtin .append, args := #[s, x], argTypes := #[t, t] })
    (hk : ∀ x, (enc x).length = k) (h1 : ∀ x, ∀ u ∈ enc x, u.oneCell' = true) (h0 : 0 < k) (base : Nat) (e : TypeId) (i : TypeInfo) (z : Value) (bytes : Nat) (ht : P.underlying t = some (.slice e)) (hi : P.info? e = some i ∧ i.zero = some z ∧ i.size = k ∧ i.bytes = bytes)
    (hzs : z.cells.size = k) (v : Value) (l : List α) (hs : a.eval s = v) (hown : w.ownsRow base e k v l.length (l.flatMap enc)) (A : Option Addr) (n c : Nat) (r : List α) (hn : r.length = n) (hx : a.eval x = .slice A n c) (hA : A = none → c = 0) (hE : Els k enc w A r)
    (hlen : l.length + r.length ≤ 1000000) (hb : bytes ≤ 1000) (hbase : base ≤ w.heap.size)
    (h : ∀ v' w', w'.ownsRow base e k v' (l ++ r).length ((l ++ r).flatMap enc) → w.grownBy w' v.ownBlock → (v'.ownBlock = v.ownBlock ∨ v'.ownBlock = some w.heap.size) → K (a.put o.dst v') w') :
    if Region.wanted o (yielded ops a.tmps) = true then Oper.wp P o a w K Q else E := by
  have hw : Region.wanted o (yielded ops a.tmps) = true := by simp [Region.wanted, hgd]
  rw [if_pos hw]
  subst hn
  obtain ⟨v', w', hr, h2, h3, h4⟩ := run_appL (P := P) (w := w) hk h1 h0 base t o.type e i z bytes ht hi.1 hi.2.1 hi.2.2.1 hi.2.2.2 hzs v l hown A c r hA hE hlen hb hbase
  unfold Oper.wp execOp
  simp only [ho, resolve, invoke, builtin, Sem.run_bind, Sem.run_pure, Result.andThen_ok, List.map_toArray, List.map_cons, List.map_nil, hs, hx, hr]
  exact h _ _ h2 h3 h4
end
theorem own_fullL {α : Type} {k : Nat} {enc : α → List Value} (hk : ∀ x, (enc x).length = k) {w : World} {base : Nat} {t : TypeId} {v : Value} {l : List α} (h : w.ownsRow base t k v l.length (l.flatMap enc)) :
    ∃ A c, v = .slice A l.length c ∧ Els k enc w A l ∧ l.length ≤ c ∧ (A = none → c = 0) ∧ ∀ a, A = some a → base ≤ a.block ∧ a.block < w.heap.size := by
  obtain ⟨A, c, rfl, hE, _⟩ := own_elsB hk h
  refine ⟨A, c, rfl, hE, ?_⟩
  rcases h.2 with ⟨e, h0⟩ | ⟨g, cap, cur, e, hb, hg, h1, h2, h3, h4⟩
  · simp only [Value.slice.injEq] at e
    exact ⟨by omega, fun _ => e.2.2, fun a ha => by rw [e.1] at ha; cases ha⟩
  · simp only [Value.slice.injEq] at e
    refine ⟨by omega, fun ha => (by rw [e.1] at ha; cases ha), fun a ha => ?_⟩
    rw [e.1] at ha
    cases ha
    exact ⟨hb, (Array.getElem?_eq_some_iff.1 hg).1⟩
end Go.Proofs.Ytpoeamamdiomkaa
