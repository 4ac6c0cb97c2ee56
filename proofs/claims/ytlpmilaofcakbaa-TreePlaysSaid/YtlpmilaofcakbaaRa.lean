/- Layer 9: acts as arguments; the bundle of TreePlays. -/
import Derived.Test.YtlpmilaofcakbaaR9
import Derived.Test.YtlpmilaofcakbaaWk
namespace Go.Proofs.Ytlpmilaofcakbaa
open Go.RowKit Go.Shelf
open Go.Sort (grow)
set_option linter.unusedVariables false
set_option linter.unusedSimpArgs false
set_option maxRecDepth 100000

/-- an act -/
structure At where
  d : Nat
  p : Nat
  b : Bp
  e : Bool
def encT (a : At) : List Value := .int .u8 (a.d : Nat) :: .int .u8 (a.p : Nat) :: (encBp a.b ++ [.bool a.e])
structure At.fit (a : At) : Prop where
  p : a.p < 256
  b : a.b.ok
theorem encT_len (a : At) : (encT a).length = 14 := rfl
theorem u8_nat {n : Int} (h : (Lit.int .u8 n).wf = true) : ∃ u : Nat, n = (u : Int) ∧ u < 256 := by
  have hb : 0 ≤ n ∧ n ≤ 255 := by
    simp [Lit.wf, IntKind.has, IntKind.min, IntKind.max, IntKind.signed, IntKind.bits] at h
    omega
  exact ⟨n.toNat, by omega, by omega⟩
theorem at_trod {H : Type} {enc : TypeId × Value → H} {w : World} {base : Nat} {spare : Nat → Bool} {held : Bool} {fuel : Nat} {cs : List Value} {x : DataW H × List MemPlace} (hl : cs.length = 14) (h : DataW.trod enc Try.prog w base spare held fuel 39 cs = some x) : ∃ v : At, v.fit ∧ cs = encT v := by
  have hs := Try.underlying39
  obtain ⟨n0, e0, w0⟩ := trod_fldInt hs h 0 _ rfl (k := .u8) Try.underlying5 (by kernel_rfl)
  obtain ⟨n1, e1, w1⟩ := trod_fldInt hs h 1 _ rfl (k := .u8) Try.underlying5 (by kernel_rfl)
  obtain ⟨n, y, hy⟩ := trod_fld hs h 2 _ rfl
  obtain ⟨b3, e3⟩ := trod_fldBool hs h 3 _ rfl Try.underlying4 (by kernel_rfl)
  obtain ⟨v0, rfl, l0⟩ := u8_nat w0
  obtain ⟨v1, rfl, l1⟩ := u8_nat w1
  match cs, hl with
  | [c0, c1, c2, c3, c4, c5, c6, c7, c8, c9, c10, c11, c12, c13], _ =>
    have hy' : DataW.trod enc Try.prog w base spare held n 37 [c2, c3, c4, c5, c6, c7, c8, c9, c10, c11, c12] = some y := hy
    obtain ⟨v, hv, e⟩ := rb_trod rfl hy'
    simp at e0 e1 e3
    subst e0 e1 e3
    refine ⟨⟨v0, v1, v, b3⟩, ⟨l1, hv⟩, ?_⟩
    show _ = _ :: _ :: (encBp v ++ [.bool b3])
    rw [← e]
    rfl
/-- what TreePlays holds: the program's machine, the document's, apart from each other and from what was there before -/
structure PlT (W : World) (g m pb fb c cf : Nat) (M D : Mch) (w : World) : Prop where
  mac : MaP w g M
  dm : DmP w m pb fb c cf D
  bel : Below W.heap.size W w
  lo : W.heap.size ≤ g ∧ W.heap.size ≤ m ∧ W.heap.size ≤ pb ∧ W.heap.size ≤ fb
  ne : g ≠ m ∧ g ≠ pb ∧ g ≠ fb
section
variable {W w w' : World} {g m pb fb c cf fb' cf' : Nat} {M D M' D' : Mch}
theorem PlT.next (h : PlT W g m pb fb c cf M D w) (hb : Below w.heap.size w w') : PlT W g m pb fb c cf M D w' :=
  ⟨h.mac.next hb, h.dm.next hb, h.bel.trans (hb.mono h.bel.size), h.lo, h.ne⟩
theorem PlT.gro (h : PlT W g m pb fb c cf M D w) (hb : Gro w w') : PlT W g m pb fb c cf M D w' := h.next hb.below
theorem PlT.prog (h : PlT W g m pb fb c cf M D w) (hM : MaP w' g M') (hc : Chg (· = g) w w') : PlT W g m pb fb c cf M' D w' :=
  ⟨hM, h.dm.chg hc (fun e => h.ne.1 (Eq.symm e)) (fun e => h.ne.2.1 (Eq.symm e)) (fun e => h.ne.2.2 (Eq.symm e)), h.bel.trans (hc.below h.bel.size (fun k hk e => by have e' : k = g := e; have := h.lo.1; omega)), h.lo, h.ne⟩
theorem PlT.xd (h : PlT W g m pb fb c cf M D w) : ¬ XD m pb fb g := by
  rintro (e | e | e)
  · exact h.ne.1 e
  · exact h.ne.2.1 e
  · exact h.ne.2.2 e
theorem PlT.xlo (h : PlT W g m pb fb c cf M D w) (k : Nat) (hk : k < W.heap.size) : ¬ XD m pb fb k := by
  have := h.lo
  rintro (e | e | e) <;> omega
theorem PlT.doc (h : PlT W g m pb fb c cf M D w) (hD : DmP w' m pb fb c cf D') (hc : Chg (XD m pb fb) w w') : PlT W g m pb fb c cf M D' w' :=
  ⟨Blk.chg h.mac hc h.xd, hD, h.bel.trans (hc.below h.bel.size h.xlo), h.lo, h.ne⟩
theorem PlT.flush (h : PlT W g m pb fb c cf M D w) (hD : DmP w' m pb fb' c cf' D') (hc : Chg (XD m pb fb) w w') (hf : w.heap.size ≤ fb') : PlT W g m pb fb' c cf' M D' w' :=
  ⟨Blk.chg h.mac hc h.xd, hD, h.bel.trans (hc.below h.bel.size h.xlo), ⟨h.lo.1, h.lo.2.1, h.lo.2.2.1, Nat.le_trans h.bel.size hf⟩, ⟨h.ne.1, h.ne.2.1, fun e => by have h1 := Blk.lt h.mac; omega⟩⟩
theorem PlT.blk (h : PlT W g m pb fb c cf M D w) {q : Nat} {t : TypeId} {cs : Array Value} (hq : Blk w q t cs) (hg : q ≠ g) (hc : Chg (· = g) w w') : Blk w' q t cs := hq.chg hc hg
end
theorem Mch.flush_sane {M : Mch} (h : M.sane) : ({ M with fl := M.fl.map fun _ => false } : Mch).sane :=
  ⟨Mch.fits_of h.fits rfl h.fits.port (by simp [h.fits.fl]), h.inn, h.lv⟩
theorem isAggA9 (w : World) : (isAgg 39).run Try.prog w = .ok true w := by kernel_rfl
theorem sizeA9 (w : World) : (Go.sizeOf 39).run Try.prog w = .ok 14 w := by kernel_rfl
end Go.Proofs.Ytlpmilaofcakbaa
