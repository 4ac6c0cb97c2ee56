/- A row that grew by append in this call: the append as a step of a plain walk; a row of single cells as a list. -/
import Derived.Test.YtpoeamamdiomkaaOpenS
import Derived.Test.YtpoeamamdiomkaaApp
import Derived.Test.YtpoeamamdiomkaaChn
namespace Go.Proofs.Ytpoeamamdiomkaa
open Go.RowKit
set_option linter.unusedVariables false
set_option linter.unusedSimpArgs false
set_option maxRecDepth 100000

theorem wpl_append_own {P : Program} {w : World} {ops : Array Oper} {rest : List Oper} {o : Oper} {a : Act} {Q : Exit → Act → World → Prop} (hgd : o.guard = none) (s x : Operand) (t : TypeId)
    (ho : o.op = .call { callee := .builtin .append, args := #[s, x], argTypes := #[t, t] })
    (base : Nat) (e : TypeId) (i : TypeInfo) (z : Value) (size bytes : Nat) (ht : P.underlying t = some (.slice e)) (hi : P.info? e = some i) (hz : i.zero = some z)
    (hsize : i.size = size) (hby : i.bytes = bytes) (hzs : z.cells.size = size) (hsz : 0 < size)
    (v : Value) (n : Nat) (xs : List Value) (hs : a.eval s = v) (hown : w.ownsRow base e size v n xs)
    (ad : Addr) (m c : Nat) (news : List Value) (hx : a.eval x = .slice (some ad) m c) (hl : news.length = m * size) (hnews : ∀ j u, news[j]? = some u → w.cell? (ad.add j) = some u) (h1 : ∀ u ∈ news, u.oneCell' = true)
    (h63 : n + m ≤ maxLen) (hbytes : (n + m) * bytes ≤ 140737488355328) (hbase : base ≤ w.heap.size)
    (h : ∀ v' w', w'.ownsRow base e size v' (n + m) (xs ++ news) → w.grownBy w' v.ownBlock → wpList P ops Q rest (a.put o.dst v') w') :
    wpList P ops Q (o :: rest) a w :=
  wpList_plain hgd fun _ hK => by
    obtain ⟨v', w', hr, h2, h3, _, _⟩ := run_append_own_at (P := P) w base t o.type e i z size bytes ht hi hz hsize hby hzs hsz v n xs hown ad m c news hl hnews h1 h63 hbytes hbase
    unfold Oper.wp execOp
    simp only [ho, resolve, invoke, builtin, Sem.run_bind, Sem.run_pure, Result.andThen_ok, List.map_toArray, List.map_cons, List.map_nil, hs, hx, hr]
    exact hK _ _ (h _ _ h2 h3)

theorem newcells (w : World) (cs : List Value) (t : TypeId) : ∀ j u, cs[j]? = some u → (w.alloc (.cells cs.toArray t)).cell? ((⟨w.heap.size, 0, none⟩ : Addr).add j) = some u := by
  intro j u hj
  have hadd : (⟨w.heap.size, 0, none⟩ : Addr).add j = ⟨w.heap.size, j, none⟩ := by unfold Addr.add; split <;> simp_all
  rw [hadd, (Blk.new w t cs.toArray).cell j]
  simpa using hj
/-- a thing of one cell -/
def one (v : Value) : List Value := [v]
theorem flat_one (L : List Value) : L.flatMap one = L := by
  induction L with
  | nil => rfl
  | cons x L ih => simp only [List.flatMap_cons, one, ih]; rfl
/-- a row of one's own of single cells, as a list -/
theorem own_ones {w : World} {base : Nat} {t : TypeId} {v : Value} {n : Nat} {L : List Value} (hn : L.length = n) (h : w.ownsRow base t 1 v n L) :
    ∃ A c, v = .slice A n c ∧ Els 1 one w A L := by
  rcases h.2 with ⟨rfl, h0⟩ | ⟨g, cap, cur, rfl, hb, hg, _⟩
  · exact ⟨none, 0, by rw [h0], fun hL => absurd hL (by omega)⟩
  · refine ⟨_, cap, rfl, fun hL => ⟨g, 0, rfl, (Array.getElem?_eq_some_iff.1 hg).1, fun i hi j v hv => ?_⟩⟩
    obtain rfl : j = 0 := by
      have := (List.getElem?_eq_some_iff.1 hv).1
      simp only [one, List.length_cons, List.length_nil] at this
      omega
    have hv' : L[i]? = some v := by
      simp only [one, List.getElem?_cons_zero, Option.some.injEq] at hv
      rw [← hv]; exact List.getElem?_eq_getElem hi
    have := World.ownsRow.cells h (g := g) rfl i v hv'
    have hadd : (⟨g, 0, none⟩ : Addr).add i = ⟨g, 0 + i * 1 + 0, none⟩ := by unfold Addr.add; split <;> simp_all
    rw [hadd] at this
    exact this
theorem Els.at {w : World} {A : Option Addr} {L : List Value} (h : Els 1 one w A L) (h0 : 0 < L.length) : ∃ b off, A = some ⟨b, off, none⟩ ∧ b < w.heap.size ∧ ∀ i v, L[i]? = some v → w.cell? ⟨b, off + i, none⟩ = some v := by
  obtain ⟨b, off, e, hlt, hc⟩ := h h0
  refine ⟨b, off, e, hlt, fun i v hv => ?_⟩
  have hi : i < L.length := (List.getElem?_eq_some_iff.1 hv).1
  have := hc i hi 0 v (by rw [(List.getElem?_eq_some_iff.1 hv).2]; rfl)
  simpa using this
/-- a channel changed: rows of cells are as they were -/
theorem Els.chan {α : Type} {k : Nat} {enc : α → List Value} {w w' : World} {A : Option Addr} {l : List α} (h : Els k enc w A l) (hk : ∀ x, 0 < (enc x).length) {c cap : Nat} {L : List Value} (hc : Chn w c cap L) (hg : Chg (fun j => j = c) w w') : Els k enc w' A l := by
  intro h0
  obtain ⟨b, off, e, hlt, hcl⟩ := h h0
  have hne : b ≠ c := by
    rintro rfl
    obtain ⟨s, r, hb⟩ := hc
    have := hcl 0 h0 0 _ (List.getElem?_eq_getElem (hk _))
    simp [World.cell?, hb] at this
  exact ⟨b, off, e, Nat.lt_of_lt_of_le hlt hg.size, fun i hi j v hv => (hg.cell (p := ⟨b, off + i * k + j, none⟩) hlt hne).trans (hcl i hi j v hv)⟩
theorem own_chan {w w' : World} {base : Nat} {t : TypeId} {n : Nat} {v : Value} {xs : List Value} (h : w.ownsRow base t 1 v n xs) {c : Nat} (hcb : c < base) (hg : Chg (fun j => j = c) w w') : w'.ownsRow base t 1 v n xs := by
  refine ⟨h.1, ?_⟩
  rcases h.2 with hn | ⟨g, cap, cur, hv, hgb, hgg, rest⟩
  · exact .inl hn
  · exact .inr ⟨g, cap, cur, hv, hgb, (hg.block g (Array.getElem?_eq_some_iff.1 hgg).1 (by omega)).trans hgg, rest⟩
theorem chg_grown {S : Nat → Prop} {w0 w w' : World} {e : TypeId} {size n : Nat} {v : Value} {xs : List Value} (hB : Chg S w0 w) (h : w.ownsRow w0.heap.size e size v n xs) (hg : w.grownBy w' v.ownBlock) : Chg S w0 w' :=
  ⟨hg.os.trans hB.os, hg.tape.trans hB.tape, hg.output.trans hB.output, Nat.le_trans hB.size hg.size, fun k hk hs =>
    (hg.block k (Nat.lt_of_lt_of_le hk hB.size) (fun e => by have := (h.lt k e.symm).1; omega)).trans (hB.block k hk hs)⟩
theorem que_grown {w w' : World} {p c cap : Nat} {t : TypeId} {L : List Value} {base : Nat} {e : TypeId} {size n : Nat} {v : Value} {xs : List Value} (hq : Que w p c t cap L) (h : w.ownsRow base e size v n xs) (hp : p < base) (hc : c < base) (hg : w.grownBy w' v.ownBlock) : Que w' p c t cap L := by
  obtain ⟨s, r, hh⟩ := hq.ch
  exact ⟨(hg.block p hq.blk.lt (fun e => by have := (h.lt p e.symm).1; omega)).trans hq.blk, s, r, (hg.block c hq.ch.lt (fun e => by have := (h.lt c e.symm).1; omega)).trans hh⟩
theorem que_alloc {w : World} {p c cap : Nat} {t : TypeId} {L : List Value} (hq : Que w p c t cap L) (o : Obj) : Que (w.alloc o) p c t cap L := by
  have hl := hq.ch.lt
  obtain ⟨s, r, hh⟩ := hq.ch
  exact ⟨hq.blk.alloc o, s, r, (Below.heap_alloc w o c hl).trans hh⟩
end Go.Proofs.Ytpoeamamdiomkaa
