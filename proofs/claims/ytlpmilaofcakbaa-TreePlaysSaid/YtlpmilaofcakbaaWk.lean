/- Layer 9: the laws' wakes. -/
import Derived.Test.YtlpmilaofcakbaaTwc
import Derived.Test.YtlpmilaofcakbaaOfL
namespace Go.Proofs.Ytlpmilaofcakbaa
open Go.RowKit
set_option linter.unusedVariables false
set_option linter.unusedSimpArgs false
set_option maxRecDepth 100000

/-- a machine made by the law -/
structure WkT (W : World) (g : Nat) (M : Mch) (w : World) : Prop where
  mac : MaP w g M
  bel : Below W.heap.size W w
  new : W.heap.size ≤ g
section
variable {W w w' : World} {g : Nat} {M M' : Mch}
theorem WkT.next (h : WkT W g M w) (hb : Below w.heap.size w w') : WkT W g M w' := ⟨h.mac.next hb, h.bel.trans (hb.mono h.bel.size), h.new⟩
theorem WkT.to (h : WkT W g M w) (hM : MaP w' g M') (hc : Chg (· = g) w w') : WkT W g M' w' := ⟨hM, h.bel.trans (hc.below h.bel.size (fun k hk e => by have e' : k = g := e; have := h.new; omega)), h.new⟩
end
def wkB1 : Bp := ⟨⟨3, 7, 3, 0⟩, 0, 9, 2, true, false, false, 0⟩
def wkB2 : Bp := ⟨⟨3, 7, 4, 0⟩, 0, 9, 2, true, false, false, 0⟩
def wk0 : Mch := newM 5 [10, 10, 0]
def wk3 : Mch := ((wk0.upP 0).upP 1).upP 2
def wk4 : Mch := wk3.hear 0 wkB1
def wk5 : Mch := wk4.hear 1 wkB2
theorem wkB1_fit : wkB1.fit := ⟨(show (0 : Int) ≤ 7 ∧ (7 : Int) ≤ 4294967295 by decide), (show (0 : Int) ≤ 0 ∧ (0 : Int) ≤ 255 by decide)⟩
theorem wkB2_fit : wkB2.fit := ⟨(show (0 : Int) ≤ 7 ∧ (7 : Int) ≤ 4294967295 by decide), (show (0 : Int) ≤ 0 ∧ (0 : Int) ≤ 255 by decide)⟩
theorem wk0_fits : wk0.fits := newM_fits 5 [10, 10, 0] (by decide) (by decide)
theorem wk_sent : wk3.hearS 0 wkB1 = [(0, ⟨⟨3, 17, 5, 0⟩, 1, 2, 1, false, true, true, 9⟩)] := by decide +kernel
theorem wk_root : wk5.root = 3 ∧ wk5.cost = 17 ∧ wk5.ver = 2 := by decide +kernel
theorem wk_role : wk5.role 0 = 1 ∧ wk5.role 1 = 3 ∧ wk5.role 2 = 5 := by decide +kernel
theorem wk_fwd : wk5.fwd 0 = true ∧ wk5.fwd 1 = false ∧ wk5.fwd 2 = true := by decide +kernel
theorem wk_fl : flN wk5.fl = 7 ∧ flN (wk5.fl.map fun _ => false) = 0 := by decide +kernel
set_option maxRecDepth 100000 in
set_option maxHeartbeats 4000000 in
theorem wakes9_any (W : World) : Calls Try.prog 7 #[] W fun e w' => e = .returned (.bool true) ∧ Below W.heap.size W w' := by
  have hEl : Els 1 encC (W.alloc (.cells #[.int .u32 10, .int .u32 10, .int .u32 0] 33)) (some ⟨W.heap.size, 0, none⟩) [10, 10, 0] := by
    intro _
    refine ⟨_, 0, rfl, by simp, fun i hi j v hv => ?_⟩
    have hj : j = 0 := by
      have := (List.getElem?_eq_some_iff.1 hv).1
      simp only [encC, List.length_cons, List.length_nil] at this
      omega
    subst hj
    rw [Blk.cell (Blk.new W 33 #[.int .u32 10, .int .u32 10, .int .u32 0])]
    have hi' : i = 0 ∨ i = 1 ∨ i = 2 := by simp at hi; omega
    rcases hi' with rfl | rfl | rfl <;> simpa [encC] using hv
  have kN := new_go (id := 5) (c := 3) (by decide) (by decide) hEl (by decide)
  have hb0 := (Below.refl W.heap.size W).alloc (Nat.le_refl _) (.cells #[.int .u32 10, .int .u32 10, .int .u32 0] 33)
  have HB0 := Lib.hid hb0
  have KN := Lib.hid kN
  clear hEl kN hb0
  go_enter Try.func7, Try.ntmps7
  go_wp2_with fail
  refine KN.out.mono ?_
  rintro e w1 ⟨hy, _, hb⟩
  obtain ⟨g, rfl, hM, hg⟩ := hy (by decide)
  have HS : Hid (WkT W g wk0 w1) := Lib.hid ⟨hM, HB0.out.trans (hb.mono HB0.out.size), Nat.le_trans HB0.out.size hg⟩
  clear hy hM hg hb KN HB0
  go_wp2_with fail
  refine (up_any (i := 0) HS.out.mac (wk0_fits)).mono ?_
  rintro e w2 ⟨rfl, hM, hc⟩
  have HS' := Lib.hid (HS.out.to hM hc)
  clear hM hc HS
  have HS := HS'
  clear HS'
  go_wp2_with fail
  refine (up_any (i := 1) HS.out.mac (Mch.upP_fits wk0_fits 0)).mono ?_
  rintro e w3 ⟨rfl, hM, hc⟩
  have HS' := Lib.hid (HS.out.to hM hc)
  clear hM hc HS
  have HS := HS'
  clear HS'
  go_wp2_with fail
  refine (up_any (i := 2) HS.out.mac (Mch.upP_fits (Mch.upP_fits wk0_fits 0) 1)).mono ?_
  rintro e w4 ⟨rfl, hM, hc⟩
  have HS' := Lib.hid (HS.out.to hM hc)
  clear hM hc HS
  have HS := HS'
  clear HS'
  have hF3 : wk3.fits := Mch.upP_fits (Mch.upP_fits (Mch.upP_fits wk0_fits 0) 1) 2
  have HF3 := Lib.hid hF3
  have HS' : Hid (WkT W g wk3 w4) := HS
  clear HS hF3
  have HS := HS'
  clear HS'
  go_upto_region 8 with fail
  have hba := (Below.refl w4.heap.size w4).alloc (Nat.le_refl _) (.cells #[.int .u64 wkB1.v.r, .int .u32 wkB1.v.c, .int .u64 wkB1.v.b, .int .u8 wkB1.v.p, .int .u8 wkB1.h, .int .u64 wkB1.ver, .int .u8 wkB1.role, .bool wkB1.pr, .bool wkB1.ag, .bool wkB1.tp, .int .u64 wkB1.ec] 54)
  obtain ⟨w5, hw5⟩ : ∃ w5, w4.alloc (.cells #[.int .u64 wkB1.v.r, .int .u32 wkB1.v.c, .int .u64 wkB1.v.b, .int .u8 wkB1.v.p, .int .u8 wkB1.h, .int .u64 wkB1.ver, .int .u8 wkB1.role, .bool wkB1.pr, .bool wkB1.ag, .bool wkB1.tp, .int .u64 wkB1.ec] 54) = w5 := ⟨_, rfl⟩
  obtain ⟨q, hq⟩ : ∃ q, w4.heap.size = q := ⟨_, rfl⟩
  have HB5 := Lib.hid (show BpA 54 w5 q wkB1 by rw [← hw5, ← hq]; exact BpA.new 54 w4 wkB1)
  rw [hw5] at hba
  have HS5 := Lib.hid (HS.out.next hba)
  have HGQ : Hid (g ≠ q) := Lib.hid (by have := HS.out.mac.lt; omega)
  have hw5' : w4.alloc (.cells #[.int .u64 3, .int .u32 7, .int .u64 3, .int .u8 0, .int .u8 0, .int .u64 9, .int .u8 2, .bool true, .bool false, .bool false, .int .u64 0] 54) = w5 := hw5
  rw [hw5', hq]
  have HQ := Lib.hid hq
  have HQW : Hid (W.heap.size ≤ q) := Lib.hid (by have := HS.out.bel.size; omega)
  clear hba hw5 hw5' hq HS
  go_wp2_with (refine load_bp 3 rfl (by kernel_rfl) q wkB1 rfl HB5.out ?_)
  refine (hear_any (i := 0) (b := wkB1) HS5.out.mac HF3.out wkB1_fit).mono ?_
  rw [wk_sent]
  rintro e w6 ⟨A, c, rfl, hE, hM, hc, hbn⟩
  have HS6 : Hid (WkT W g wk4 w6) := Lib.hid (HS5.out.to hM hc)
  have HB6 := Lib.hid (show BpA 54 w6 q wkB1 from Blk.chg HB5.out hc (fun e => HGQ.out e.symm))
  have HF4 : Hid wk4.fits := Lib.hid (Mch.hear_fits HF3.out 0 wkB1_fit)
  obtain ⟨bl, off, rfl, hbl, hcl⟩ := hE (by decide)
  have hbn' := hbn bl off rfl
  have HBL : Hid (w5.heap.size ≤ bl ∧ bl < w6.heap.size) := Lib.hid ⟨hbn', hbl⟩
  have HCL := Lib.hid hcl
  have HQ5 := Lib.hid (show q < w5.heap.size from HB5.out.lt)
  have HG5 := Lib.hid (show g < w5.heap.size from HS5.out.mac.lt)
  have q2 := HB6.out.cells.c2
  have qf := HB6.out.frozen 2
  clear hE hM hc hbn hbl hcl hbn' HS5 HB5 HF3
  go_upto_region 10 with fail
  have HB7 := Lib.hid (show BpA 54 (w6.setCell ⟨q, 2, none⟩ (.int .u64 4)) q wkB2 by have := Blk.put HB6.out 2 (.int .u64 4); have e : (#[.int .u64 wkB1.v.r, .int .u32 wkB1.v.c, .int .u64 wkB1.v.b, .int .u8 wkB1.v.p, .int .u8 wkB1.h, .int .u64 wkB1.ver, .int .u8 wkB1.role, .bool wkB1.pr, .bool wkB1.ag, .bool wkB1.tp, .int .u64 wkB1.ec] : Array Value).setIfInBounds 2 (.int .u64 4) = #[.int .u64 wkB2.v.r, .int .u32 wkB2.v.c, .int .u64 wkB2.v.b, .int .u8 wkB2.v.p, .int .u8 wkB2.h, .int .u64 wkB2.ver, .int .u8 wkB2.role, .bool wkB2.pr, .bool wkB2.ag, .bool wkB2.tp, .int .u64 wkB2.ec] := (by kernel_rfl); rw [e] at this; exact this)
  have hC7 : Chg (· = q) w6 (w6.setCell ⟨q, 2, none⟩ (.int .u64 4)) := (Chg.refl (· = q) w6).setCell (p := ⟨q, 2, none⟩) (.inr rfl) _
  have HS7 := Lib.hid (show WkT W g wk4 (w6.setCell ⟨q, 2, none⟩ (.int .u64 4)) from ⟨HS6.out.mac.chg hC7 HGQ.out, HS6.out.bel.setCell HQW.out _, HS6.out.new⟩)
  have HCL7 : Hid (∀ i (h : i < [(0, (⟨⟨3, 17, 5, 0⟩, 1, 2, 1, false, true, true, 9⟩ : Bp))].length) j v, (encS ([(0, (⟨⟨3, 17, 5, 0⟩, 1, 2, 1, false, true, true, 9⟩ : Bp))][i]))[j]? = some v → (w6.setCell ⟨q, 2, none⟩ (.int .u64 4)).cell? ⟨bl, off + i * 12 + j, none⟩ = some v) := Lib.hid (fun i hi j v hv => (hC7.cell (p := ⟨bl, off + i * 12 + j, none⟩) HBL.out.2 (fun e => by have e' : bl = q := e; have := HBL.out.1; have := HQ5.out; omega)).trans (HCL.out i hi j v hv))
  have HSZ : Hid ((w6.setCell ⟨q, 2, none⟩ (.int .u64 4)).heap.size = w6.heap.size) := Lib.hid (by simp [World.setCell])
  obtain ⟨w7, hw7⟩ : ∃ w7, w6.setCell ⟨q, 2, none⟩ (.int .u64 4) = w7 := ⟨_, rfl⟩
  rw [hw7] at HB7 HS7 HCL7 HSZ
  rw [hw7]
  clear hw7 hC7 q2 qf HCL HS6 HB6
  go_wp2_with (refine load_bp 3 rfl (by kernel_rfl) q wkB2 rfl HB7.out ?_)
  refine (hear_any (i := 1) (b := wkB2) HS7.out.mac HF4.out wkB2_fit).mono ?_
  rintro e w8 ⟨A2, c2, rfl, hE, hM, hc, hbn⟩
  have HS8 : Hid (WkT W g wk5 w8) := Lib.hid (HS7.out.to hM hc)
  have HF5 : Hid wk5.fits := Lib.hid (Mch.hear_fits HF4.out 1 wkB2_fit)
  have HCL8 : Hid (∀ i (h : i < [(0, (⟨⟨3, 17, 5, 0⟩, 1, 2, 1, false, true, true, 9⟩ : Bp))].length) j v, (encS ([(0, (⟨⟨3, 17, 5, 0⟩, 1, 2, 1, false, true, true, 9⟩ : Bp))][i]))[j]? = some v → w8.cell? ⟨bl, off + i * 12 + j, none⟩ = some v) := Lib.hid (fun i hi j v hv => (hc.cell (p := ⟨bl, off + i * 12 + j, none⟩) (by rw [HSZ.out]; exact HBL.out.2) (fun e => by have e' : bl = g := e; have := HBL.out.1; have := HG5.out; omega)).trans (HCL7.out i hi j v hv))
  have HLT : Hid (bl < w8.heap.size) := Lib.hid (Nat.lt_of_lt_of_le HBL.out.2 (by rw [← HSZ.out]; exact hc.size))
  clear hE hM hc hbn HS7 HB7 HF4 HCL7
  go_wp2_with fail
  refine (root_any HS8.out.mac HF5.out.n8).mono ?_
  rw [wk_root.1, wk_root.2.1, wk_root.2.2]
  rintro e w9 ⟨rfl, hg⟩
  have HS9 := Lib.hid (HS8.out.next hg.below)
  have HCL9 := fun (j : Nat) (v : Value) (h : (encS (0, (⟨⟨3, 17, 5, 0⟩, 1, 2, 1, false, true, true, 9⟩ : Bp)))[j]? = some v) => (hg.below.cell (p := ⟨bl, off + 0 * 12 + j, none⟩) HLT.out).trans (HCL8.out 0 (by decide) j v h)
  have l0 : w9.cell? ⟨bl, off, none⟩ = some (.int .u8 0) := by have := HCL9 0 _ rfl; simpa using this
  have l5 : w9.cell? ⟨bl, off + 5, none⟩ = some (.int .u8 1) := by have := HCL9 5 _ rfl; simpa using this
  have l9 : w9.cell? ⟨bl, off + 9, none⟩ = some (.bool true) := by have := HCL9 9 _ rfl; simpa using this
  have l11 : w9.cell? ⟨bl, off + 11, none⟩ = some (.int .u64 9) := by have := HCL9 11 _ rfl; simpa using this
  clear hg HS8 HCL8 HCL9
  go_wp2_with fail
  refine (role_any (i := 0) HS9.out.mac HF5.out.n8).mono ?_
  rw [wk_role.1]
  rintro e w10 ⟨rfl, hg⟩
  have HS' := Lib.hid (HS9.out.next hg.below)
  clear hg HS9 l0 l5 l9 l11
  have HS9 := HS'
  clear HS'
  go_wp2_with fail
  refine (role_any (i := 1) HS9.out.mac HF5.out.n8).mono ?_
  rw [wk_role.2.1]
  rintro e w11 ⟨rfl, hg⟩
  have HS' := Lib.hid (HS9.out.next hg.below)
  clear hg HS9
  have HS9 := HS'
  clear HS'
  go_wp2_with fail
  refine (role_any (i := 2) HS9.out.mac HF5.out.n8).mono ?_
  rw [wk_role.2.2]
  rintro e w12 ⟨rfl, hg⟩
  have HS' := Lib.hid (HS9.out.next hg.below)
  clear hg HS9
  have HS9 := HS'
  clear HS'
  go_wp2_with fail
  refine (forwards_any (i := 0) HS9.out.mac HF5.out.n8).mono ?_
  rw [wk_fwd.1]
  rintro e w13 ⟨rfl, hg⟩
  have HS' := Lib.hid (HS9.out.next hg.below)
  clear hg HS9
  have HS9 := HS'
  clear HS'
  go_wp2_with fail
  refine (forwards_any (i := 1) HS9.out.mac HF5.out.n8).mono ?_
  rw [wk_fwd.2.1]
  rintro e w14 ⟨rfl, hg⟩
  have HS' := Lib.hid (HS9.out.next hg.below)
  clear hg HS9
  have HS9 := HS'
  clear HS'
  go_wp2_with fail
  refine (forwards_any (i := 2) HS9.out.mac HF5.out.n8).mono ?_
  rw [wk_fwd.2.2]
  rintro e w15 ⟨rfl, hg⟩
  have HS' := Lib.hid (HS9.out.next hg.below)
  clear hg HS9
  have HS9 := HS'
  clear HS'
  go_wp2_with fail
  refine (flush_tree HS9.out.mac HF5.out.n8).mono ?_
  rw [wk_fl.1]
  rintro e w20 ⟨rfl, hM, hc⟩
  have HSa := Lib.hid (HS9.out.to hM hc)
  clear hM hc HS9
  go_wp2_with fail
  refine (flush_tree HSa.out.mac HF5.out.n8).mono ?_
  rintro e w21 ⟨rfl, hM, hc⟩
  have HSb := Lib.hid (HSa.out.to hM hc)
  clear hM hc HSa
  have hz : flN ({ wk5 with fl := wk5.fl.map fun _ => false } : Mch).fl = 0 := wk_fl.2
  rw [hz]
  clear hz
  go_wp2
  go_ret
  exact ⟨rfl, HSb.out.bel⟩
end Go.Proofs.Ytlpmilaofcakbaa
