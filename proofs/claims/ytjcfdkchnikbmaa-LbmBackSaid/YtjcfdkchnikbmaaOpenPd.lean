/- Layer 12: a message as an argument. -/
import Derived.Test.YtjcfdkchnikbmaaLaw12
import Derived.Test.YtjcfdkchnikbmaaR12
namespace Go.Proofs.Ytjcfdkchnikbmaa
open Go.ChangeShapes Go.WideShapes Go.ChangeAt Go.RowKit
open Go.ChangeMaps (open_string)
set_option linter.unusedVariables false
set_option linter.unusedSimpArgs false
set_option maxRecDepth 100000

/-- a slice that stands as a struct's field, element by element -/
theorem open_cellsT {H : Type} {enc : TypeId × Value → H} {P : Program} {W : World} {fuel : Nat} {t e : TypeId} {u : Value} {x : DataW H × List MemPlace}
    (ht : P.underlying t = some (.slice e)) (hsz : 0 < P.cellsOf e)
    (hf : DataW.trod enc P W 0 (fun _ => true) true fuel t [u] = some x) : ∃ A n c, u = .slice A n c ∧ n ≤ maxLen ∧ (A = none → n = 0 ∧ c = 0) ∧ (0 < n → ∃ b off, A = some ⟨b, off, none⟩ ∧ b < W.heap.size ∧ ∀ i, i < n → ∃ (cs : List Value) (fuel : Nat) (x : DataW H × List MemPlace),
      cs.length = P.cellsOf e ∧ (∀ j u, cs[j]? = some u → W.cell? ⟨b, off + i * P.cellsOf e + j, none⟩ = some u) ∧ DataW.trod enc P W 0 (fun _ => true) true fuel e cs = some x) := by
  rcases Go.Deep.open_slice ht hf with ⟨hcs, _⟩ | ⟨a, l, c, m, n, D, Pl, hcs, _, hl, hm, hmm, _, hel⟩
  · simp at hcs
    subst hcs
    exact ⟨none, 0, 0, rfl, by simp, fun _ => ⟨rfl, rfl⟩, fun h => absurd h (by omega)⟩
  · simp at hcs
    subst hcs
    simp at hmm
    subst hmm
    refine ⟨some a, _, _, rfl, by omega, by simp, fun h0 => ?_⟩
    have key : ∀ i, i < l → ∃ (cs : List Value) (x : DataW H × List MemPlace), cs.length = P.cellsOf e ∧ (∀ j, j < P.cellsOf e → W.cell? (a.add (i * P.cellsOf e + j)) = cs[j]?) ∧ DataW.trod enc P W 0 (fun _ => true) true n e cs = some x := by
      intro i hi
      obtain ⟨cs, hc, htr⟩ := hel i (by omega)
      obtain ⟨_, hlen, hat⟩ := World.cells?_some hc
      refine ⟨cs, _, hlen, fun j hj => ?_, htr⟩
      rw [← hat j hj, Go.Deep.add_add]
    obtain ⟨cs, x, hlen, hat, _⟩ := key 0 h0
    have h00 := hat 0 hsz
    simp only [Nat.zero_mul, Nat.zero_add] at h00
    have hsome : cs[0]? = some (cs[0]'(by omega)) := List.getElem?_eq_getElem (by omega)
    have hsp := World.cell?_spot (h00.trans hsome)
    obtain ⟨b, off, spot⟩ := a
    simp only [Addr.add, ↓reduceIte] at hsp
    subst hsp
    refine ⟨b, off, rfl, World.block_lt_of_cell? W _ (by simpa [Addr.add] using h00.trans hsome), fun i hi => ?_⟩
    obtain ⟨cs, x, hlen, hat, htr⟩ := key i hi
    refine ⟨cs, n, x, hlen, fun j u hu => ?_, htr⟩
    have hj : j < P.cellsOf e := by rw [← hlen]; exact (List.getElem?_eq_some_iff.1 hu).1
    rw [← hu, ← hat j hj, Nat.add_assoc]
    simp only [Addr.add]
    split <;> simp_all
/-- such a slice as a list -/
theorem open_elsT {H : Type} {enc : TypeId × Value → H} {P : Program} {W : World} {fuel : Nat} {t e : TypeId} {u : Value} {x : DataW H × List MemPlace} {α : Type} (k : Nat) (en : α → List Value)
    (ht : P.underlying t = some (.slice e)) (hk : P.cellsOf e = k) (hsz : 0 < k)
    (hone : ∀ (cs : List Value) (fuel : Nat) (x : DataW H × List MemPlace), cs.length = P.cellsOf e → DataW.trod enc P W 0 (fun _ => true) true fuel e cs = some x → ∃ a, cs = en a)
    (hf : DataW.trod enc P W 0 (fun _ => true) true fuel t [u] = some x) :
    ∃ (A : Option Addr) (c : Nat) (l : List α), u = .slice A l.length c ∧ l.length ≤ maxLen ∧ (A = none → l = [] ∧ c = 0) ∧ Els k en W A l := by
  obtain ⟨A, n, c, rfl, hn, hz, hel⟩ := open_cellsT ht (by omega) hf
  rcases Nat.eq_zero_or_pos n with h0 | h0
  · subst h0
    exact ⟨A, c, [], rfl, by simp, fun e => ⟨rfl, (hz e).2⟩, fun h => absurd h (by simp)⟩
  · obtain ⟨b, off, rfl, hb, hel⟩ := hel h0
    rw [hk] at hel
    obtain ⟨l, hl, hp⟩ := list_at (α := α) n (fun i a => ∀ j u, (en a)[j]? = some u → W.cell? ⟨b, off + i * k + j, none⟩ = some u) (by
      intro i hi
      obtain ⟨cs, fuel, x, hlen, hat, htr⟩ := hel i hi
      obtain ⟨a, rfl⟩ := hone cs fuel x (by rw [hk]; exact hlen) htr
      exact ⟨a, hat⟩)
    subst hl
    exact ⟨_, c, l, rfl, hn, by simp, fun _ => ⟨b, off, rfl, hb, fun i hi j u hu => hp i hi j u hu⟩⟩
/-- a message as an argument -/
theorem open_pd {H : Type} {enc : TypeId × Value → H} {W : World} {base : Nat} {v : Value} {d : DataW H} {pl : List MemPlace} (o : Value.okWide Try.prog W .any base 36 v) (h : DataW.Trod enc Try.prog W 0 (fun _ => true) true 36 v d pl) :
    ∃ (A : Option Addr) (c : Nat) (p : Pd), v = PdV p A c ∧ Els 2 tlV W A p.t := by
  have hs := Try.underlying36
  obtain ⟨l, fuel, x, rfl, hl, hx⟩ := open_struct hs o h
  obtain ⟨n0, e0, w0⟩ := trod_fldInt hs hx 0 _ rfl (k := .u8) Try.underlying5 (by kernel_rfl)
  obtain ⟨n1, e1, w1⟩ := trod_fldInt hs hx 1 _ rfl (k := .u8) Try.underlying5 (by kernel_rfl)
  obtain ⟨n2, e2, w2⟩ := trod_fldInt hs hx 2 _ rfl (k := .u8) Try.underlying5 (by kernel_rfl)
  obtain ⟨f3, y3, h3'⟩ := trod_fld hs hx 3 _ rfl
  obtain ⟨f4, y4, h4'⟩ := trod_fld hs hx 4 _ rfl
  have h3 : DataW.trod enc Try.prog W 0 (fun _ => true) true f3 9 ((l.drop 3).take (Try.prog.cellsOf 9)) = some y3 := h3'
  have h4 : DataW.trod enc Try.prog W 0 (fun _ => true) true f4 34 ((l.drop 4).take (Try.prog.cellsOf 34)) = some y4 := h4'
  replace e0 : l[0]? = some (.int .u8 n0) := e0
  replace e1 : l[1]? = some (.int .u8 n1) := e1
  replace e2 : l[2]? = some (.int .u8 n2) := e2
  clear h3' h4'
  have c3 : Try.prog.cellsOf 9 = 1 := by kernel_rfl
  have c4 : Try.prog.cellsOf 34 = 1 := by kernel_rfl
  have hl5 : l.length = 5 := hl.trans (by kernel_rfl)
  match l, hl5 with
  | [u0, u1, u2, u3, u4], _ =>
    simp at e0 e1 e2
    subst e0 e1 e2
    obtain ⟨v0, rfl⟩ := u8_ofL w0
    obtain ⟨v1, rfl⟩ := u8_ofL w1
    obtain ⟨v2, rfl⟩ := u8_ofL w2
    simp only [c3, List.drop_succ_cons, List.drop_zero, List.take_succ_cons, List.take_zero] at h3
    simp only [c4, List.drop_succ_cons, List.drop_zero, List.take_succ_cons, List.take_zero] at h4
    obtain ⟨s, es, _, _⟩ := DataW.trod_string Try.underlying9 h3
    simp at es
    subst es
    obtain ⟨⟨X⟩⟩ := s
    obtain ⟨A, c, L, rfl, _, _, hE⟩ := open_elsT 2 tlV Try.underlying34 (e := 53) (by kernel_rfl) (by omega)
      (fun cs fuel x hl h => by obtain ⟨v, _, hv⟩ := tl_trod Try.underlying53 ⟨rfl, rfl⟩ ⟨rfl, rfl⟩ hl h; exact ⟨v, hv⟩) h4
    exact ⟨A, c, ⟨v0, v1, v2, X, L⟩, rfl, hE⟩
theorem keep12 {W w w' : World} {g1 g2 n c1 c2 : Nat} {A1 A2 : Option Addr} {p : Pd} (h0 : w.cell? ⟨g1, 0, none⟩ = some (.int .u8 p.l.toNat)) (h1 : w.cell? ⟨g1, 1, none⟩ = some (.int .u8 p.o.toNat)) (h2 : w.cell? ⟨g1, 2, none⟩ = some (.int .u8 p.g.toNat)) (h3 : w.cell? ⟨g1, 3, none⟩ = some (.string ⟨p.x.toArray⟩)) (h4 : w.cell? ⟨g1, 4, none⟩ = some (.slice A1 n c1)) (h5 : w.cell? ⟨g2, 0, none⟩ = some (.int .u8 p.l.toNat)) (h6 : w.cell? ⟨g2, 1, none⟩ = some (.int .u8 p.o.toNat)) (h7 : w.cell? ⟨g2, 2, none⟩ = some (.int .u8 p.g.toNat)) (h8 : w.cell? ⟨g2, 3, none⟩ = some (.string ⟨p.x.toArray⟩)) (h9 : w.cell? ⟨g2, 4, none⟩ = some (.slice A2 n c2)) (hE : Hid (Els 2 tlV w A1 p.t)) (hF : Hid (Els 2 tlV w A2 p.t)) (hB : Hid (Below W.heap.size W w)) (hb : Below w.heap.size w w') : w'.cell? ⟨g1, 0, none⟩ = some (.int .u8 p.l.toNat) ∧ w'.cell? ⟨g1, 1, none⟩ = some (.int .u8 p.o.toNat) ∧ w'.cell? ⟨g1, 2, none⟩ = some (.int .u8 p.g.toNat) ∧ w'.cell? ⟨g1, 3, none⟩ = some (.string ⟨p.x.toArray⟩) ∧ w'.cell? ⟨g1, 4, none⟩ = some (.slice A1 n c1) ∧ w'.cell? ⟨g2, 0, none⟩ = some (.int .u8 p.l.toNat) ∧ w'.cell? ⟨g2, 1, none⟩ = some (.int .u8 p.o.toNat) ∧ w'.cell? ⟨g2, 2, none⟩ = some (.int .u8 p.g.toNat) ∧ w'.cell? ⟨g2, 3, none⟩ = some (.string ⟨p.x.toArray⟩) ∧ w'.cell? ⟨g2, 4, none⟩ = some (.slice A2 n c2) ∧ Hid (Els 2 tlV w' A1 p.t) ∧ Hid (Els 2 tlV w' A2 p.t) ∧ Hid (Below W.heap.size W w') := by
  have hk : ∀ {g i : Nat} {v : Value}, w.cell? ⟨g, i, none⟩ = some v → w'.cell? ⟨g, i, none⟩ = some v := fun {g i v} h => (hb.cell (p := ⟨g, i, none⟩) (World.block_lt_of_cell? w _ h)).trans h
  exact ⟨hk h0, hk h1, hk h2, hk h3, hk h4, hk h5, hk h6, hk h7, hk h8, hk h9, Lib.hid (hE.out.next hb), Lib.hid (hF.out.next hb), Lib.hid (hB.out.trans (hb.mono hB.out.size))⟩
theorem u16_of12 {n : Int} (h : (Lit.int .u16 n).wf = true) : ∃ u : UInt16, n = (u.toNat : Int) := by
  have hb : 0 ≤ n ∧ n ≤ 65535 := by
    simp [Lit.wf, IntKind.has, IntKind.min, IntKind.max, IntKind.signed, IntKind.bits] at h
    omega
  refine ⟨UInt16.ofNat n.toNat, ?_⟩
  have : n.toNat % 65536 = n.toNat := by omega
  simp [this]
  omega
/-- the first two cells of a message's block -/
def Bx2 (w : World) (g : Nat) (p : Pd) : Prop := w.cell? ⟨g, 0, none⟩ = some (.int .u8 p.l.toNat) ∧ w.cell? ⟨g, 1, none⟩ = some (.int .u8 p.o.toNat)
theorem Bx2.next {w w' : World} {g : Nat} {p : Pd} (h : Bx2 w g p) (hb : Below w.heap.size w w') : Bx2 w' g p :=
  ⟨(hb.cell (p := ⟨g, 0, none⟩) (World.block_lt_of_cell? w _ h.1)).trans h.1, (hb.cell (p := ⟨g, 1, none⟩) (World.block_lt_of_cell? w _ h.2)).trans h.2⟩
end Go.Proofs.Ytjcfdkchnikbmaa
