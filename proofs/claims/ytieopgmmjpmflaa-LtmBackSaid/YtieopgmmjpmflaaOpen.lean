/- Steps of regions that draw; arguments opened. -/
import Derived.Test.YtieopgmmjpmflaaStr
import Derived.OpenShut
import Derived.ShutString
import Derived.ChangeOld
import Derived.Deep.RegionLaw
import Derived.Deep.Slices
import Derived.Deep.Fields
import Derived.ChangeSame
namespace Go.Proofs.Ytieopgmmjpmflaa
open Go.ChangeShapes Go.WideShapes Go.ChangeAt Go.RowKit
open Go.ChangeMaps (open_string shut_string)
set_option linter.unusedVariables false
set_option linter.unusedSimpArgs false
set_option maxRecDepth 100000

theorem Byt.drew {w : World} {A : Option Addr} {l : List UInt8} (h : Byt w A l) : Byt w.drew A l := h
theorem OwnB.nil_ (w : World) (base : Nat) : OwnB w base (.slice none 0 0) [] := World.ownsRow_nil w base 5 1
theorem Str.convs {w : World} {v : Value} {l : List UInt8} (h : Str w v l) : ∀ W', Below w.heap.size w W' → (convert 58 9 v).run Try.prog W' = .ok (.string ⟨l.toArray⟩) W' := fun W' hb => (h.below hb).conv
theorem Str.drew {w : World} {v : Value} {l : List UInt8} (h : Str w v l) : Str w.drew v l := h
/- The operation append, as a step of a region that draws its order. -/
theorem step_append_bytes {w : World} {ops : Array Oper} {o : Oper} {a : Act} {K : Act → World → Prop} {Q : Exit → Act → World → Prop} {E : Prop} (hgd : o.guard = none) (s x : Operand)
    (ho : o.op = .call { callee := .builtin .append, args := #[s, x], argTypes := #[58, 58] })
    (base : Nat) (v : Value) (l : List UInt8) (hs : a.eval s = v) (hown : OwnB w base v l)
    (A : Option Addr) (m c : Nat) (r : List UInt8) (hx : a.eval x = .slice A m c) (hm : m = r.length) (hz : A = none → c = 0) (hr : Byt w A r)
    (hlen : l.length + r.length ≤ 140737488355328) (hbase : base ≤ w.heap.size)
    (h : ∀ v' w', OwnB w' base v' (l ++ r) → w.grownBy w' v.ownBlock → K (a.put o.dst v') w') :
    if Region.wanted o (yielded ops a.tmps) = true then Oper.wp Try.prog o a w K Q else E := by
  have hw : Region.wanted o (yielded ops a.tmps) = true := by simp [Region.wanted, hgd]
  rw [if_pos hw]
  obtain ⟨i, hi, hz0, hz1, hz2⟩ := info_parts u8_info
  subst hm
  have key : ∀ ad, A = some ad → (∀ j u, (bvals r)[j]? = some u → w.cell? (ad.add j) = some u) → Oper.wp Try.prog o a w K Q := by
    rintro ad rfl hc
    obtain ⟨v', w', hr, h2, h3, _, _⟩ := run_append_own_at (P := Try.prog) w base _ o.type 5 i _ 1 1 Try.underlying58 hi hz0 hz1 hz2 rfl (by omega) v l.length (bvals l) hown ad r.length c (bvals r) (by simp [bvals]) hc (bvals_one r)
      (by simp only [maxLen]; omega) (by omega) hbase
    unfold Oper.wp execOp
    simp only [ho, resolve, invoke, builtin, Sem.run_bind, Sem.run_pure, Result.andThen_ok, List.map_toArray, List.map_cons, List.map_nil, hs, hx, hr]
    exact h _ _ (by unfold OwnB; rw [List.length_append, bvals_app]; exact h2) h3
  rcases Nat.eq_zero_or_pos r.length with h0 | h0
  · have hr0 : r = [] := List.eq_nil_of_length_eq_zero h0
    subst hr0
    cases A with
    | none =>
      have hc := hz rfl
      subst hc
      have hrun := run_append_owned_none (P := Try.prog) (w := w) base 58 o.type 5 i 1 Try.underlying58 hi v l.length (bvals l) hown
      unfold Oper.wp
      simp [execOp, ho, resolve, invoke, builtin, hs, hx, hrun, Result.andThen]
      exact h v w (by simpa using hown) ⟨rfl, rfl, rfl, Nat.le_refl _, fun _ _ _ => rfl⟩
    | some ad => exact key ad rfl (by simp [bvals])
  · obtain ⟨ad, hA, hc⟩ := hr h0
    exact key ad hA hc

/-- the slice argument read as bytes -/
theorem open_bytes {H : Type} {enc : TypeId × Value → H} {W : World} {base : Nat} {v : Value} {d : DataW H} {p : List MemPlace} (o : Value.okWide Try.prog W .any base 58 v)
    (h : DataW.Trod enc Try.prog W 0 (fun _ => true) true 58 v d p) : ∃ A c l, v = .slice A l.length c ∧ (A = none → c = 0) ∧ Byt W A l ∧ l.length ≤ maxLen := by
  obtain ⟨a0, len0, cap0, rfl⟩ := okWide_slice Try.underlying58 o
  obtain ⟨fuel, hf⟩ := h
  rcases open_ints Try.underlying58 Try.underlying5 (by kernel_rfl) hf with ⟨hcs, _⟩ | ⟨x, l, c, zs, hcs, _, hl, hm, hz, _, hcell, hwz⟩
  · simp [Value.cells] at hcs
    obtain ⟨rfl, rfl, rfl⟩ := hcs
    exact ⟨none, 0, [], rfl, fun _ => rfl, Byt.nil_ _ _, by simp⟩
  · simp [Value.cells] at hcs
    obtain ⟨rfl, rfl, rfl⟩ := hcs
    simp at hz
    refine ⟨some x, cap0, (zs.take len0).map (fun n => UInt8.ofNat n.toNat), by simp [hz, hl], by simp, ?_, by simp; omega⟩
    intro _
    refine ⟨x, rfl, fun j u hu => ?_⟩
    have hj : j < len0 := by
      have := (List.getElem?_eq_some_iff.1 hu).1
      simp [bvals] at this
      omega
    have hjz : j < zs.length := by omega
    rw [hcell j hjz]
    have hw := hwz (zs[j]) (List.getElem_mem hjz)
    have hb : 0 ≤ zs[j] ∧ zs[j] ≤ 255 := by
      simp [Lit.wf, IntKind.min, IntKind.max, IntKind.signed, IntKind.bits] at hw
      omega
    simp [bvals, bval, hj, List.getElem?_take, hjz] at hu
    rw [← hu]
    simp [hjz]
    omega


/-- a slice argument, element by element: the cells of each, and that they read as the element's type -/
theorem open_rows {H : Type} {enc : TypeId × Value → H} {W : World} {base : Nat} {v : Value} {d : DataW H} {p : List MemPlace} {t e : TypeId}
    (ht : Try.prog.underlying t = some (.slice e)) (hsz : 0 < Try.prog.cellsOf e) (o : Value.okWide Try.prog W .any base t v)
    (h : DataW.Trod enc Try.prog W 0 (fun _ => true) true t v d p) : ∃ A n c, v = .slice A n c ∧ n ≤ maxLen ∧ (A = none → n = 0 ∧ c = 0) ∧ (0 < n → ∃ b off, A = some ⟨b, off, none⟩ ∧ b < W.heap.size ∧ ∀ i, i < n → ∃ (cs : List Value) (fuel : Nat) (x : DataW H × List MemPlace),
      cs.length = Try.prog.cellsOf e ∧ (∀ j, j < Try.prog.cellsOf e → W.cell? ⟨b, off + (i * Try.prog.cellsOf e + j), none⟩ = cs[j]?) ∧ DataW.trod enc Try.prog W 0 (fun _ => true) true fuel e cs = some x) := by
  obtain ⟨a0, len0, cap0, rfl⟩ := okWide_slice ht o
  obtain ⟨fuel, hf⟩ := h
  rcases Go.Deep.open_slice ht hf with ⟨hcs, _⟩ | ⟨a, l, c, m, n, D, Pl, hcs, _, hl, hm, hmm, _, hel⟩
  · simp [Value.cells] at hcs
    obtain ⟨rfl, rfl, rfl⟩ := hcs
    exact ⟨none, 0, 0, rfl, by simp, fun _ => ⟨rfl, rfl⟩, fun h => absurd h (by omega)⟩
  · simp [Value.cells] at hcs
    obtain ⟨rfl, rfl, rfl⟩ := hcs
    simp at hmm
    subst hmm
    refine ⟨some a, _, _, rfl, by omega, by simp, fun h0 => ?_⟩
    have key : ∀ i, i < len0 → ∃ (cs : List Value) (x : DataW H × List MemPlace), cs.length = Try.prog.cellsOf e ∧ (∀ j, j < Try.prog.cellsOf e → W.cell? (a.add (i * Try.prog.cellsOf e + j)) = cs[j]?) ∧ DataW.trod enc Try.prog W 0 (fun _ => true) true n e cs = some x := by
      intro i hi
      obtain ⟨cs, hc, htr⟩ := hel i (by omega)
      obtain ⟨_, hlen, hat⟩ := World.cells?_some hc
      refine ⟨cs, _, hlen, fun j hj => ?_, htr⟩
      rw [← hat j hj, Go.Deep.add_add]
    obtain ⟨cs, x, hlen, hat, _⟩ := key 0 h0
    have h00 := hat 0 hsz
    simp only [Nat.zero_mul, Nat.zero_add] at h00
    have hsome : cs[0]? = some (cs[0]'(by omega)) := List.getElem?_eq_getElem (by omega)
    have hsp := World.cell?_spot (h00.trans hsome)
    obtain ⟨b, off, spot⟩ := a
    simp only [Addr.add, ↓reduceIte] at hsp
    subst hsp
    refine ⟨b, off, rfl, World.block_lt_of_cell? W _ (by simpa [Addr.add] using h00.trans hsome), fun i hi => ?_⟩
    obtain ⟨cs, x, hlen, hat, htr⟩ := key i hi
    refine ⟨cs, n, x, hlen, fun j hj => ?_, htr⟩
    rw [← hat j hj]
    simp only [Addr.add]
    split <;> simp_all

/-- the slice at A reads as pairs of numbers, two cells each -/
def Prs (W : World) (A : Option Addr) (k1 k2 : IntKind) (l : List (Int × Int)) : Prop :=
  0 < l.length → ∃ b off, A = some ⟨b, off, none⟩ ∧ b < W.heap.size ∧ ∀ i (h : i < l.length), W.cell? ⟨b, off + i * 2, none⟩ = some (.int k1 l[i].1) ∧ W.cell? ⟨b, off + i * 2 + 1, none⟩ = some (.int k2 l[i].2) ∧
    (Lit.int k1 l[i].1).wf = true ∧ (Lit.int k2 l[i].2).wf = true

/-- out of one number for each place, a list -/
theorem list_of {α : Type} [Inhabited α] (n : Nat) (P : Nat → α → Prop) (h : ∀ i, i < n → ∃ x, P i x) : ∃ l : List α, l.length = n ∧ ∀ i (hi : i < l.length), P i l[i] := by
  induction n with
  | zero => exact ⟨[], rfl, fun i hi => absurd hi (by simp)⟩
  | succ n ih =>
    obtain ⟨l, hl, hp⟩ := ih (fun i hi => h i (by omega))
    obtain ⟨x, hx⟩ := h n (by omega)
    refine ⟨l ++ [x], by simp [hl], fun i hi => ?_⟩
    by_cases hin : i < l.length
    · rw [List.getElem_append_left hin]; exact hp i hin
    · have : i = n := by simp at hi; omega
      subst this
      simp [← hl]
      rw [hl]; exact hx

theorem open_pairs {H : Type} {enc : TypeId × Value → H} {W : World} {base : Nat} {v : Value} {d : DataW H} {p : List MemPlace} {t e : TypeId} {k1 k2 : IntKind} {f1 f2 : Field}
    (ht : Try.prog.underlying t = some (.slice e)) (he : Try.prog.underlying e = some (.struct #[f1, f2])) (hk1 : Try.prog.underlying f1.type = some (.int k1)) (hk2 : Try.prog.underlying f2.type = some (.int k2))
    (hone : Go.Deep.oneCellFields Try.prog #[f1, f2] = true) (hC : Try.prog.cellsOf e = 2)
    (o : Value.okWide Try.prog W .any base t v)
    (h : DataW.Trod enc Try.prog W 0 (fun _ => true) true t v d p) : ∃ A c l, v = .slice A l.length c ∧ Prs W A k1 k2 l ∧ l.length ≤ maxLen := by
  obtain ⟨A, n, c, rfl, hn, _, hel⟩ := open_rows ht (by omega) o h
  rcases Nat.eq_zero_or_pos n with h0 | h0
  · subst h0
    exact ⟨A, c, [], rfl, fun h => absurd h (by simp), by simp⟩
  obtain ⟨b, off, rfl, hb, hel⟩ := hel h0
  rw [hC] at hel
  obtain ⟨l, hl, hp⟩ := list_of (α := Int × Int) n (fun i x => W.cell? ⟨b, off + i * 2, none⟩ = some (.int k1 x.1) ∧ W.cell? ⟨b, off + i * 2 + 1, none⟩ = some (.int k2 x.2) ∧ (Lit.int k1 x.1).wf = true ∧ (Lit.int k2 x.2).wf = true) (by
    intro i hi
    obtain ⟨cs, fuel, x, hlen, hat, htr⟩ := hel i hi
    obtain ⟨y0, y1, m, _, _, hy0, hy1⟩ := trod_struct2 he htr
    obtain ⟨ho0, hc0⟩ := Go.Deep.hone_of hone 0 f1 rfl
    obtain ⟨ho1, hc1⟩ := Go.Deep.hone_of hone 1 f2 rfl
    match cs, hlen with
    | [c0, c1], _ =>
      rw [ho0, hc0] at hy0
      rw [ho1, hc1] at hy1
      obtain ⟨x0, e0, _, w0⟩ := DataW.trod_int hk1 hy0
      obtain ⟨x1, e1, _, w1⟩ := DataW.trod_int hk2 hy1
      simp at e0 e1
      subst e0 e1
      exact ⟨(x0, x1), by simpa using hat 0 (by omega), by simpa [Nat.add_assoc] using hat 1 (by omega), w0, w1⟩)
  subst hl
  exact ⟨_, c, l, rfl, fun _ => ⟨b, off, rfl, hb, hp⟩, hn⟩

theorem Prs.below {W W' : World} {A : Option Addr} {k1 k2 : IntKind} {l : List (Int × Int)} (h : Prs W A k1 k2 l) (hb : Below W.heap.size W W') : Prs W' A k1 k2 l := by
  intro h0
  obtain ⟨b, off, e, hlt, hc⟩ := h h0
  refine ⟨b, off, e, Nat.lt_of_lt_of_le hlt hb.size, fun i hi => ?_⟩
  obtain ⟨c1, c2, w1, w2⟩ := hc i hi
  exact ⟨(hb.cell (p := ⟨b, off + i * 2, none⟩) hlt).trans c1, (hb.cell (p := ⟨b, off + i * 2 + 1, none⟩) hlt).trans c2, w1, w2⟩
end Go.Proofs.Ytieopgmmjpmflaa
