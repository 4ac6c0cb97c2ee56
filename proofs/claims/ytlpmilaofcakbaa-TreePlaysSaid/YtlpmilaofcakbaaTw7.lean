/- Layer 9: word. -/
import Derived.Test.YtlpmilaofcakbaaTw6
import Derived.Deep.RegionHeld3
namespace Go.Proofs.Ytlpmilaofcakbaa
open Go.RowKit Go.Shelf
open Go.Sort (grow)
set_option linter.unusedVariables false
set_option linter.unusedSimpArgs false
set_option maxRecDepth 100000

/-- what word keeps of memory -/
structure WS (w0 : World) (g : Nat) (M : Mch) (w : World) : Prop where
  mac : MaP w g M
  res : BpA 54 w w0.heap.size Bp.zero
  bel : Below w0.heap.size w0 w
section
variable {w0 w w' : World} {g : Nat} {M : Mch}
theorem WS.next (h : WS w0 g M w) (hb : Below w.heap.size w w') : WS w0 g M w' := ⟨h.mac.next hb, h.res.next hb, h.bel.trans (hb.mono h.bel.size)⟩
theorem WS.drew (h : WS w0 g M w) : WS w0 g M w.drew := h.next (Below.refl _ _).drew
theorem WS.alloc (h : WS w0 g M w) (o : Obj) : WS w0 g M (w.alloc o) := h.next ((Below.refl _ _).alloc (Nat.le_refl _) _)
theorem WS.set (h : WS w0 g M w) {p : Addr} (hp : w0.heap.size + 1 ≤ p.block ∧ g ≠ p.block) (v : Value) : WS w0 g M (w.setCell p v) := ⟨Blk.far h.mac hp.2 v, Blk.far h.res (by omega) v, h.bel.setCell (by omega) v⟩
end
theorem keepB {w w' : World} {g i : Nat} {v : Value} (h : w.cell? ⟨g, i, none⟩ = some v) (hb : Below w.heap.size w w') : w'.cell? ⟨g, i, none⟩ = some v := (hb.cell (p := ⟨g, i, none⟩) (World.block_lt_of_cell? w _ h)).trans h
/-- eleven cells put -/
theorem bp_put {t : TypeId} {w : World} {b : Nat} {z : Bp} (h : BpA t w b z) (x : Bp) : BpA t (((((((((((w.setCell ⟨b, 0, none⟩ (.int .u64 x.v.r)).setCell ⟨b, 1, none⟩ (.int .u32 x.v.c)).setCell ⟨b, 2, none⟩ (.int .u64 x.v.b)).setCell ⟨b, 3, none⟩ (.int .u8 x.v.p)).setCell ⟨b, 4, none⟩ (.int .u8 x.h)).setCell ⟨b, 5, none⟩ (.int .u64 x.ver)).setCell ⟨b, 6, none⟩ (.int .u8 x.role)).setCell ⟨b, 7, none⟩ (.bool x.pr)).setCell ⟨b, 8, none⟩ (.bool x.ag)).setCell ⟨b, 9, none⟩ (.bool x.tp)).setCell ⟨b, 10, none⟩ (.int .u64 x.ec)) b x := by
  have h1 := h.setV x.v
  have h2 := h1.setHops x.h
  have h3 := h2.setVer x.ver
  have h4 := h3.setRole x.role
  have h5 := h4.setPr x.pr
  have h6 := h5.setAg x.ag
  have h7 := h6.setTp x.tp
  exact h7.setEc x.ec
theorem ws_put {w0 w : World} {g b : Nat} {M : Mch} (h : WS w0 g M w) (hb : w0.heap.size + 1 ≤ b ∧ g ≠ b) (x : Bp) : WS w0 g M (((((((((((w.setCell ⟨b, 0, none⟩ (.int .u64 x.v.r)).setCell ⟨b, 1, none⟩ (.int .u32 x.v.c)).setCell ⟨b, 2, none⟩ (.int .u64 x.v.b)).setCell ⟨b, 3, none⟩ (.int .u8 x.v.p)).setCell ⟨b, 4, none⟩ (.int .u8 x.h)).setCell ⟨b, 5, none⟩ (.int .u64 x.ver)).setCell ⟨b, 6, none⟩ (.int .u8 x.role)).setCell ⟨b, 7, none⟩ (.bool x.pr)).setCell ⟨b, 8, none⟩ (.bool x.ag)).setCell ⟨b, 9, none⟩ (.bool x.tp)).setCell ⟨b, 10, none⟩ (.int .u64 x.ec)) := by
  exact (WS.set (WS.set (WS.set (WS.set (WS.set (WS.set (WS.set (WS.set (WS.set (WS.set (WS.set h hb _) hb _) hb _) hb _) hb _) hb _) hb _) hb _) hb _) hb _) hb _)
abbrev WSS (w0 : World) (g i : Nat) (M : Mch) (p : Sd) (w_ : World) : Prop := w_.cell? ⟨g, 133, none⟩ = some (.int .u8 M.hops) ∧ w_.cell? ⟨g, 134, none⟩ = some (.int .u64 M.ver) ∧ w_.cell? ⟨g, 2 + i * 16 + 15, none⟩ = some (.int .i64 p.sp) ∧ Hid (WS w0 g M w_)
section
variable {w0 w_ : World} {g i : Nat} {M : Mch} {p : Sd}
theorem wsA (h : WSS w0 g i M p w_) (o : Obj) : WSS w0 g i M p (w_.alloc o) := by
  have hb := (Below.refl w_.heap.size w_).alloc (Nat.le_refl _) o
  exact ⟨keepB h.1 hb, keepB h.2.1 hb, keepB h.2.2.1 hb, Lib.hid (h.2.2.2.out.alloc o)⟩
theorem wsD (h : WSS w0 g i M p w_) : WSS w0 g i M p w_.drew := ⟨h.1, h.2.1, h.2.2.1, Lib.hid h.2.2.2.out.drew⟩
theorem wsC (h : WSS w0 g i M p w_) {a : Addr} (hp : w0.heap.size + 1 ≤ a.block ∧ g ≠ a.block) (v : Value) : WSS w0 g i M p (w_.setCell a v) := by
  have hc : ∀ k, (w_.setCell a v).cell? ⟨g, k, none⟩ = w_.cell? ⟨g, k, none⟩ := fun k => World.cell?_of_block (w := w_) (Below.heap_setCell w_ a v g hp.2)
  exact ⟨(hc _).trans h.1, (hc _).trans h.2.1, (hc _).trans h.2.2.1, Lib.hid (h.2.2.2.out.set hp v)⟩
theorem wsP (h : WSS w0 g i M p w_) {b : Nat} (hb : w0.heap.size + 1 ≤ b ∧ g ≠ b) (x : Bp) : WSS w0 g i M p (((((((((((w_.setCell ⟨b, 0, none⟩ (.int .u64 x.v.r)).setCell ⟨b, 1, none⟩ (.int .u32 x.v.c)).setCell ⟨b, 2, none⟩ (.int .u64 x.v.b)).setCell ⟨b, 3, none⟩ (.int .u8 x.v.p)).setCell ⟨b, 4, none⟩ (.int .u8 x.h)).setCell ⟨b, 5, none⟩ (.int .u64 x.ver)).setCell ⟨b, 6, none⟩ (.int .u8 x.role)).setCell ⟨b, 7, none⟩ (.bool x.pr)).setCell ⟨b, 8, none⟩ (.bool x.ag)).setCell ⟨b, 9, none⟩ (.bool x.tp)).setCell ⟨b, 10, none⟩ (.int .u64 x.ec)) := (wsC (wsC (wsC (wsC (wsC (wsC (wsC (wsC (wsC (wsC (wsC h hb _) hb _) hb _) hb _) hb _) hb _) hb _) hb _) hb _) hb _) hb _)
end
set_option maxRecDepth 100000 in
set_option maxHeartbeats 4000000 in
theorem word_any {w : World} {g i : Nat} {M : Mch} (hM : MaP w g M) (h8 : M.ps.length ≤ 8) (hi : i < M.ps.length) :
    Calls Try.prog 60 #[.pointer (some ⟨g, 0, none⟩), .int .u8 (i : Nat)] w fun e w' => e = .returned (BV (M.word i)) ∧ Below w.heap.size w w' := by
  obtain ⟨p, hp⟩ : ∃ p, M.port i = p := ⟨_, rfl⟩
  obtain ⟨b4, hb4⟩ : ∃ b, w.heap.size = b := ⟨_, rfl⟩
  have hg4 : g < b4 := by rw [← hb4]; exact hM.lt
  have hi8 : i < 8 := by omega
  have hi8' : (i : Int) < 8 := by omega
  have HB4 := Lib.hid hb4
  have HPP := Lib.hid (And.intro hp (And.intro hi h8))
  have HS0 := Lib.hid (show WS w g M (w.alloc (.cells #[.int .u64 0, .int .u32 0, .int .u64 0, .int .u8 0, .int .u8 0, .int .u64 0, .int .u8 0, .bool false, .bool false, .bool false, .int .u64 0] 54)) from by
    have hb := (Below.refl w.heap.size w).alloc (Nat.le_refl _) (.cells #[.int .u64 0, .int .u32 0, .int .u64 0, .int .u8 0, .int .u8 0, .int .u64 0, .int .u8 0, .bool false, .bool false, .bool false, .int .u64 0] 54)
    exact ⟨hM.next hb, BpA.zero _ _, hb⟩)
  clear hM hp hi h8 hb4
  go_enter Try.func60, Try.ntmps60
  go_upto_region 2 with fail
  obtain ⟨w1, hw1⟩ : ∃ w1, w.alloc (.cells #[.int .u64 0, .int .u32 0, .int .u64 0, .int .u8 0, .int .u8 0, .int .u64 0, .int .u8 0, .bool false, .bool false, .bool false, .int .u64 0] 54) = w1 := ⟨_, rfl⟩
  have HW1 := Lib.hid hw1
  rw [hw1] at HS0
  clear hw1
  rw [HW1.out]
  clear HW1
  go_cut [6] (fun s6 wx => ∃ b, s6 = .pointer (some ⟨b, 0, none⟩) ∧ Hid (w.heap.size + 1 ≤ b ∧ g ≠ b) ∧ Hid (WS w g M wx) ∧ Hid (BpA 54 wx b { v := M.own i, h := M.hops, ver := M.ver, role := 3, pr := false, ag := false, tp := decide (0 < p.sp), ec := 0 }))
  case first =>
    have hsz : Hid (w.heap.size + 1 ≤ w1.heap.size) := Lib.hid (by have := HS0.out.res.lt; omega)
    have H := HS0.out.mac.hd HPP.out.2.2
    have c133 := H.c133
    have c134 := H.c134
    have s15 := (HS0.out.mac.sd HPP.out.2.2 HPP.out.2.1).c15
    rw [HPP.out.1] at s15
    clear H
    have HKO : Hid (∀ W, WS w g M W → Calls Try.prog 50 #[.pointer (some ⟨g, 0, none⟩), .int .u8 (i : Nat)] W fun e w' => e = .returned (VV (M.own i)) ∧ Gro W w') := Lib.hid fun W h => own_any (h.mac.hd HPP.out.2.2)
    have ba := (Below.refl w1.heap.size w1).alloc (Nat.le_refl _) (.cells #[.int .u64 0, .int .u32 0, .int .u64 0, .int .u8 0, .int .u8 0, .int .u64 0, .int .u8 0, .bool false, .bool false, .bool false, .int .u64 0] 54)
    have HBW : Hid (w.heap.size + 1 ≤ w1.heap.size ∧ g ≠ w1.heap.size) := Lib.hid ⟨hsz.out, by have := hsz.out; have := HB4.out; omega⟩
    have a133 := keepB c133 ba
    have a134 := keepB c134 ba
    have a15 := keepB s15 ba
    clear ba
    go_wp2_with fail
    go_region_held3 (fun w_ => w_.cell? ⟨g, 133, none⟩ = some (.int .u8 M.hops) ∧ w_.cell? ⟨g, 134, none⟩ = some (.int .u64 M.ver) ∧ w_.cell? ⟨g, 2 + i * 16 + 15, none⟩ = some (.int .i64 p.sp) ∧ Hid (WS w g M w_)) (first | (with_reducible exact wsA ⟨k133, k134, k15, HS2⟩ _) | (with_reducible exact wsD (wsA ⟨k133, k134, k15, HS2⟩ _)) | (with_reducible exact wsP ⟨k133, k134, k15, HS2⟩ HBW.out { v := M.own i, h := M.hops, ver := M.ver, role := 3, pr := false, ag := false, tp := decide (0 < p.sp), ec := 0 }) | (with_reducible exact wsD (wsP ⟨k133, k134, k15, HS2⟩ HBW.out { v := M.own i, h := M.hops, ver := M.ver, role := 3, pr := false, ag := false, tp := decide (0 < p.sp), ec := 0 })) | (with_reducible exact wsA ⟨c133, c134, s15, HS0⟩ _) | (with_reducible exact wsD (wsA ⟨c133, c134, s15, HS0⟩ _)) | (with_reducible exact wsD ⟨c133, c134, s15, HS0⟩) | (with_reducible exact ⟨k133, k134, k15, HS2⟩) | fail "keep")
      (first
        | (go_at_call 50; refine (HKO.out _ (by repeat (first | exact Hid.out (by assumption) | (refine WS.drew ?_) | (refine WS.alloc ?_ _)))).mono ?_; rintro e w2 ⟨rfl, hg⟩; have k133 : w2.cell? ⟨g, 133, none⟩ = some (.int .u8 M.hops) := keepB (by assumption) hg.below; have k134 : w2.cell? ⟨g, 134, none⟩ = some (.int .u64 M.ver) := keepB (by assumption) hg.below; have k15 : w2.cell? ⟨g, 2 + i * 16 + 15, none⟩ = some (.int .i64 p.sp) := keepB (by assumption) hg.below; have HS2 : Hid (WS w g M w2) := Lib.hid (WS.next (by repeat (first | exact Hid.out (by assumption) | (refine WS.drew ?_) | (refine WS.alloc ?_ _))) hg.below); (first | (have HBn : Hid (BpA 54 w2 w1.heap.size Bp.zero) := Lib.hid (BpA.next (show BpA 54 (w1.alloc (.cells #[.int .u64 0, .int .u32 0, .int .u64 0, .int .u8 0, .int .u8 0, .int .u64 0, .int .u8 0, .bool false, .bool false, .bool false, .int .u64 0] 54)).drew w1.heap.size Bp.zero from BpA.zero _ _) hg.below); have b0 := Blk.cell HBn.out 0; have b1 := Blk.cell HBn.out 1; have b2 := Blk.cell HBn.out 2; have b3 := Blk.cell HBn.out 3; have b4 := Blk.cell HBn.out 4; have b5 := Blk.cell HBn.out 5; have b6 := Blk.cell HBn.out 6; have b7 := Blk.cell HBn.out 7; have b8 := Blk.cell HBn.out 8; have b9 := Blk.cell HBn.out 9; have b10 := Blk.cell HBn.out 10; have bf := Blk.frozen HBn.out) | skip); clear hg)
        | fail "no")
    all_goals (
      go_wp2_with fail
      go_meet
      first
        | (with_reducible exact ⟨_, rfl, HBW, Lib.hid (ws_put HS2.out HBW.out { v := M.own i, h := M.hops, ver := M.ver, role := 3, pr := false, ag := false, tp := decide (0 < p.sp), ec := 0 }), Lib.hid (bp_put HBn.out { v := M.own i, h := M.hops, ver := M.ver, role := 3, pr := false, ag := false, tp := decide (0 < p.sp), ec := 0 })⟩)
        | (with_reducible exact ⟨_, rfl, Lib.hid ⟨by have := HS2.out.res.lt; omega, by have := HS2.out.mac.lt; omega⟩, Lib.hid (HS2.out.alloc _), Lib.hid (BpA.new _ _ { v := M.own i, h := M.hops, ver := M.ver, role := 3, pr := false, ag := false, tp := decide (0 < p.sp), ec := 0 })⟩))
  obtain ⟨b, rfl, hb, hS, hB⟩ := hcut
  clear HS0
  obtain ⟨r, hr⟩ : ∃ r, M.role i = r := ⟨_, rfl⟩
  have kR := role_any (i := i) hS.out.mac HPP.out.2.2
  rw [hr] at kR
  have HR := Lib.hid hr
  clear hr
  go_wp2_with fail
  refine kR.mono ?_
  rintro e w2 ⟨rfl, hg⟩
  have HS2 := Lib.hid (hS.out.next hg.below)
  have HB2 := Lib.hid (hB.out.next hg.below)
  clear hg hS hB kR
  by_cases h1 : r = 1
  · subst h1
    have HE : Hid (M.word i = { v := M.own i, h := M.hops, ver := M.ver, role := 1, pr := false, ag := true, tp := decide (0 < p.sp), ec := p.b.ver }) := Lib.hid (by unfold Mch.word; rw [HR.out, HPP.out.1]; rfl)
    have s7 := (HS2.out.mac.sd HPP.out.2.2 HPP.out.2.1).c7
    rw [HPP.out.1] at s7
    have f := fun k => HB2.out.frozen k
    have C := HB2.out.cells
    have b6 := C.c6
    have b8 := C.c8
    have b10 := C.c10
    clear C
    go_wp2_with fail
    have HB3 : Hid (BpA 54 ((((w2.setCell ⟨b, 6, none⟩ (.int .u8 1)).setCell ⟨b, 8, none⟩ (.bool true)).setCell ⟨b, 10, none⟩ (.int .u64 p.b.ver)).drew) b { v := M.own i, h := M.hops, ver := M.ver, role := 1, pr := false, ag := true, tp := decide (0 < p.sp), ec := p.b.ver }) := Lib.hid (((HB2.out.setRole 1).setAg true).setEc p.b.ver).drew
    have HS3 := Lib.hid ((((HS2.out.set (p := ⟨b, 6, none⟩) hb.out (.int .u8 1)).set (p := ⟨b, 8, none⟩) hb.out (.bool true)).set (p := ⟨b, 10, none⟩) hb.out (.int .u64 p.b.ver)).drew)
    go_region
    generalize World.drew _ = w3 at *
    clear s7 f b6 b8 b10 HS2 HB2
    go_wp2_with (first | (refine load_bp 6 rfl (by kernel_rfl) b { v := M.own i, h := M.hops, ver := M.ver, role := 1, pr := false, ag := true, tp := decide (0 < p.sp), ec := p.b.ver } rfl HB3.out ?_) | (refine store_bp rfl 4 51 rfl w.heap.size { v := M.own i, h := M.hops, ver := M.ver, role := 1, pr := false, ag := true, tp := decide (0 < p.sp), ec := p.b.ver } Bp.zero rfl rfl HS3.out.res ?_))
    exact bodyPost_ret (v := BV { v := M.own i, h := M.hops, ver := M.ver, role := 1, pr := false, ag := true, tp := decide (0 < p.sp), ec := p.b.ver }) (results_cell_row (p := 4) (by kernel_rfl) _ _ w.heap.size 54 _ (0, 0) _ rfl (Blk.row HS3.out.res _) Try.underlying54 rfl (by kernel_rfl)) rfl ⟨by rw [HE.out], below_row HS3.out.bel (Nat.le_refl _) _⟩
  · by_cases h2 : r = 2
    · subst h2
      have HE : Hid (M.word i = { v := M.own i, h := M.hops, ver := M.ver, role := 2, pr := !p.ag, ag := false, tp := decide (0 < p.sp), ec := 0 }) := Lib.hid (by unfold Mch.word; rw [HR.out, HPP.out.1]; rfl)
      have s14 := (HS2.out.mac.sd HPP.out.2.2 HPP.out.2.1).c14
      rw [HPP.out.1] at s14
      have f := fun k => HB2.out.frozen k
      have C := HB2.out.cells
      have b6 := C.c6
      have b7 := C.c7
      clear C h1
      go_wp2_with fail
      have HB3 : Hid (BpA 54 (((w2.setCell ⟨b, 6, none⟩ (.int .u8 2)).setCell ⟨b, 7, none⟩ (.bool (!p.ag))).drew) b { v := M.own i, h := M.hops, ver := M.ver, role := 2, pr := !p.ag, ag := false, tp := decide (0 < p.sp), ec := 0 }) := Lib.hid ((HB2.out.setRole 2).setPr (!p.ag)).drew
      have HS3 := Lib.hid (((HS2.out.set (p := ⟨b, 6, none⟩) hb.out (.int .u8 2)).set (p := ⟨b, 7, none⟩) hb.out (.bool (!p.ag))).drew)
      go_region
      generalize World.drew _ = w3 at *
      clear s14 f b6 b7 HS2 HB2
      go_wp2_with (first | (refine load_bp 6 rfl (by kernel_rfl) b { v := M.own i, h := M.hops, ver := M.ver, role := 2, pr := !p.ag, ag := false, tp := decide (0 < p.sp), ec := 0 } rfl HB3.out ?_) | (refine store_bp rfl 4 51 rfl w.heap.size { v := M.own i, h := M.hops, ver := M.ver, role := 2, pr := !p.ag, ag := false, tp := decide (0 < p.sp), ec := 0 } Bp.zero rfl rfl HS3.out.res ?_))
      exact bodyPost_ret (v := BV { v := M.own i, h := M.hops, ver := M.ver, role := 2, pr := !p.ag, ag := false, tp := decide (0 < p.sp), ec := 0 }) (results_cell_row (p := 4) (by kernel_rfl) _ _ w.heap.size 54 _ (0, 0) _ rfl (Blk.row HS3.out.res _) Try.underlying54 rfl (by kernel_rfl)) rfl ⟨by rw [HE.out], below_row HS3.out.bel (Nat.le_refl _) _⟩
    · have e1 : ((r : Int) == 1) = false := by simp; omega
      have e2 : ((r : Int) == 2) = false := by simp; omega
      have HE : Hid (M.word i = { v := M.own i, h := M.hops, ver := M.ver, role := 3, pr := false, ag := false, tp := decide (0 < p.sp), ec := 0 }) := Lib.hid (by
        unfold Mch.word
        rw [HR.out, HPP.out.1, if_neg h1, if_neg h2, if_neg h1]
        have g1 : (r == 1) = false := by simpa using h1
        have g2 : (r == 2) = false := by simpa using h2
        rw [g1, g2]
        rfl)
      have HB3 := HB2
      have HS3 := HS2
      clear HS2 HB2 h1 h2
      go_wp2_with (first | (refine load_bp 6 rfl (by kernel_rfl) b { v := M.own i, h := M.hops, ver := M.ver, role := 3, pr := false, ag := false, tp := decide (0 < p.sp), ec := 0 } rfl HB3.out ?_) | (refine store_bp rfl 4 51 rfl w.heap.size { v := M.own i, h := M.hops, ver := M.ver, role := 3, pr := false, ag := false, tp := decide (0 < p.sp), ec := 0 } Bp.zero rfl rfl HS3.out.res ?_))
      exact bodyPost_ret (v := BV { v := M.own i, h := M.hops, ver := M.ver, role := 3, pr := false, ag := false, tp := decide (0 < p.sp), ec := 0 }) (results_cell_row (p := 4) (by kernel_rfl) _ _ w.heap.size 54 _ (0, 0) _ rfl (Blk.row HS3.out.res _) Try.underlying54 rfl (by kernel_rfl)) rfl ⟨by rw [HE.out], below_row HS3.out.bel (Nat.le_refl _) _⟩
end Go.Proofs.Ytlpmilaofcakbaa
