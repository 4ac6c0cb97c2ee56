/- Layer 9: the document's Forwards, Word. -/
import Derived.Test.YtlpmilaofcakbaaR1
import Derived.Deep.RegionHeld3
namespace Go.Proofs.Ytlpmilaofcakbaa
open Go.RowKit Go.Shelf
open Go.Sort (grow)
set_option linter.unusedVariables false
set_option linter.unusedSimpArgs false
set_option maxRecDepth 100000

/-- what the document's calls want of its machine -/
structure Mch.good (M : Mch) : Prop where
  cost : ∀ p ∈ M.ps, 0 ≤ p.cost
  inn : M.inn ≠ -1
  n8 : M.ps.length ≤ 8

set_option maxHeartbeats 1000000 in
theorem rfwd_edge {w : World} {m pb fb c cf i : Nat} {M : Mch} (hD : DmP w m pb fb c cf M) {r : Nat} (hG : M.good) (hr : M.role i = r) (h5 : r = 5) :
    Calls Try.prog 48 #[.pointer (some ⟨m, 0, none⟩), .int .i64 (i : Nat)] w fun e w' => e = .returned (.bool (true)) ∧ Gro w w' := by
  have kR := role_ref (i := i) hD hG.cost hG.inn hG.n8
  rw [hr] at kR
  subst h5
  have HD := Lib.hid hD
  have HR := Lib.hid (And.intro hr hG)
  clear hD hr hG
  go_enter Try.func48, Try.ntmps48
  go_wp2_with fail
  refine kR.mono ?_
  rintro e w' ⟨rfl, hg⟩
  have HG := Lib.hid hg
  clear hg kR
  go_wp2
  go_ret
  exact ⟨rfl, HG.out⟩

set_option maxHeartbeats 1000000 in
theorem rfwd_root {w : World} {m pb fb c cf i : Nat} {M : Mch} (hD : DmP w m pb fb c cf M) {r : Nat} (hG : M.good) (hr : M.role i = r) (h5 : r = 1) :
    Calls Try.prog 48 #[.pointer (some ⟨m, 0, none⟩), .int .i64 (i : Nat)] w fun e w' => e = .returned (.bool (true)) ∧ Gro w w' := by
  have kR := role_ref (i := i) hD hG.cost hG.inn hG.n8
  rw [hr] at kR
  subst h5
  have HD := Lib.hid hD
  have HR := Lib.hid (And.intro hr hG)
  clear hD hr hG
  go_enter Try.func48, Try.ntmps48
  go_wp2_with fail
  refine kR.mono ?_
  rintro e w' ⟨rfl, hg⟩
  have HG := Lib.hid hg
  clear hg kR
  go_wp2
  go_ret
  exact ⟨rfl, HG.out⟩

set_option maxHeartbeats 1000000 in
theorem rfwd_des {w : World} {m pb fb c cf i : Nat} {M : Mch} (hD : DmP w m pb fb c cf M) {r : Nat} (hG : M.good) (hr : M.role i = r) (h5 : r = 2) (hi : i < M.ps.length) :
    Calls Try.prog 48 #[.pointer (some ⟨m, 0, none⟩), .int .i64 (i : Nat)] w fun e w' => e = .returned (.bool ((M.port i).ag)) ∧ Gro w w' := by
  have kR := role_ref (i := i) hD hG.cost hG.inn hG.n8
  rw [hr] at kR
  subst h5
  obtain ⟨n, hn⟩ : ∃ n, M.ps.length = n := ⟨_, rfl⟩
  have hi' : i < n := by omega
  have HI := Lib.hid hi
  have HN := Lib.hid hn
  clear hi hn
  have HD := Lib.hid hD
  have HR := Lib.hid (And.intro hr hG)
  clear hD hr hG
  go_enter Try.func48, Try.ntmps48
  go_wp2_with fail
  refine kR.mono ?_
  rintro e w' ⟨rfl, hg⟩
  have HG := Lib.hid hg
  have s14 := ((HD.out.gro hg).sd HI.out).c14
  have c1 := (HD.out.gro hg).hd.cell 1
  rw [HN.out] at c1
  clear hg kR
  go_wp2
  go_ret
  exact ⟨rfl, HG.out⟩

set_option maxHeartbeats 1000000 in
theorem rfwd_no {w : World} {m pb fb c cf i : Nat} {M : Mch} (hD : DmP w m pb fb c cf M) {r : Nat} (hG : M.good) (hr : M.role i = r) (h5 : ((r : Int) == 5) = false) (h1 : ((r : Int) == 1) = false) (h2 : ((r : Int) == 2) = false) :
    Calls Try.prog 48 #[.pointer (some ⟨m, 0, none⟩), .int .i64 (i : Nat)] w fun e w' => e = .returned (.bool (false)) ∧ Gro w w' := by
  have kR := role_ref (i := i) hD hG.cost hG.inn hG.n8
  rw [hr] at kR

  have HD := Lib.hid hD
  have HR := Lib.hid (And.intro hr hG)
  clear hD hr hG
  go_enter Try.func48, Try.ntmps48
  go_wp2_with fail
  refine kR.mono ?_
  rintro e w' ⟨rfl, hg⟩
  have HG := Lib.hid hg
  clear hg kR
  go_wp2
  go_ret
  exact ⟨rfl, HG.out⟩

theorem forwards_ref {w : World} {m pb fb c cf i : Nat} {M : Mch} (hD : DmP w m pb fb c cf M) (hG : M.good) : Calls Try.prog 48 #[.pointer (some ⟨m, 0, none⟩), .int .i64 (i : Nat)] w fun e w' => e = .returned (.bool (M.fwd i)) ∧ Gro w w' := by
  obtain ⟨r, hr⟩ : ∃ r, M.role i = r := ⟨_, rfl⟩
  have e : M.fwd i = (r == 5 || r == 1 || (r == 2 && (M.port i).ag)) := by unfold Mch.fwd; rw [hr]
  rw [e]
  by_cases h5 : r = 5
  · subst h5; exact rfwd_edge hD hG hr rfl
  · by_cases h1 : r = 1
    · subst h1; exact rfwd_root hD hG hr rfl
    · by_cases h2 : r = 2
      · subst h2; exact rfwd_des hD hG hr rfl (Mch.role_lt hr (by omega))
      · have e2 : (r == 5 || r == 1 || (r == 2 && (M.port i).ag)) = false := by simp [h5, h1, h2]
        rw [e2]
        exact rfwd_no hD hG hr (by simp; omega) (by simp; omega) (by simp; omega)

/-- what Word keeps of memory -/
structure RS (w0 : World) (m pb fb c cf : Nat) (M : Mch) (w : World) : Prop where
  dm : DmP w m pb fb c cf M
  res : BpA 37 w w0.heap.size Bp.zero
  bel : Below w0.heap.size w0 w
section
variable {w0 w w' : World} {m pb fb c cf i n : Nat} {M : Mch} {p : Sd}
theorem RS.next (h : RS w0 m pb fb c cf M w) (hb : Below w.heap.size w w') : RS w0 m pb fb c cf M w' := ⟨h.dm.next hb, h.res.next hb, h.bel.trans (hb.mono h.bel.size)⟩
theorem RS.drew (h : RS w0 m pb fb c cf M w) : RS w0 m pb fb c cf M w.drew := h.next (Below.refl _ _).drew
theorem RS.alloc (h : RS w0 m pb fb c cf M w) (o : Obj) : RS w0 m pb fb c cf M (w.alloc o) := h.next ((Below.refl _ _).alloc (Nat.le_refl _) _)
theorem RS.set (h : RS w0 m pb fb c cf M w) {a : Addr} (hp : w0.heap.size + 1 ≤ a.block ∧ m ≠ a.block ∧ pb ≠ a.block ∧ fb ≠ a.block) (v : Value) : RS w0 m pb fb c cf M (w.setCell a v) :=
  ⟨h.dm.chg (S := fun x => x = a.block) ((Chg.refl (fun x => x = a.block) w).setCell (p := a) (.inr rfl) v) hp.2.1 hp.2.2.1 hp.2.2.2, Blk.far h.res (by omega) v, h.bel.setCell (by omega) v⟩
abbrev RSS (w0 : World) (m pb fb c cf i n : Nat) (M : Mch) (p : Sd) (w_ : World) : Prop := w_.cell? ⟨m, 1, none⟩ = some (.slice (some ⟨pb, 0, none⟩) n c) ∧ w_.cell? ⟨m, 5, none⟩ = some (.int .u8 M.hops) ∧ w_.cell? ⟨m, 6, none⟩ = some (.int .u64 M.ver) ∧ w_.cell? ⟨pb, i * 16 + 15, none⟩ = some (.int .i64 p.sp) ∧ Hid (RS w0 m pb fb c cf M w_)
theorem rsA {w_ : World} (h : RSS w0 m pb fb c cf i n M p w_) (o : Obj) : RSS w0 m pb fb c cf i n M p (w_.alloc o) := by
  have hb := (Below.refl w_.heap.size w_).alloc (Nat.le_refl _) o
  exact ⟨keepB h.1 hb, keepB h.2.1 hb, keepB h.2.2.1 hb, keepB h.2.2.2.1 hb, Lib.hid (h.2.2.2.2.out.alloc o)⟩
theorem rsD {w_ : World} (h : RSS w0 m pb fb c cf i n M p w_) : RSS w0 m pb fb c cf i n M p w_.drew := ⟨h.1, h.2.1, h.2.2.1, h.2.2.2.1, Lib.hid h.2.2.2.2.out.drew⟩
theorem rsC {w_ : World} (h : RSS w0 m pb fb c cf i n M p w_) {a : Addr} (hp : w0.heap.size + 1 ≤ a.block ∧ m ≠ a.block ∧ pb ≠ a.block ∧ fb ≠ a.block) (v : Value) : RSS w0 m pb fb c cf i n M p (w_.setCell a v) := by
  have hc : ∀ k, (w_.setCell a v).cell? ⟨m, k, none⟩ = w_.cell? ⟨m, k, none⟩ := fun k => World.cell?_of_block (w := w_) (Below.heap_setCell w_ a v m hp.2.1)
  have hc2 : ∀ k, (w_.setCell a v).cell? ⟨pb, k, none⟩ = w_.cell? ⟨pb, k, none⟩ := fun k => World.cell?_of_block (w := w_) (Below.heap_setCell w_ a v pb hp.2.2.1)
  exact ⟨(hc _).trans h.1, (hc _).trans h.2.1, (hc _).trans h.2.2.1, (hc2 _).trans h.2.2.2.1, Lib.hid (h.2.2.2.2.out.set hp v)⟩
theorem rsP {w_ : World} (h : RSS w0 m pb fb c cf i n M p w_) {b : Nat} (hb : w0.heap.size + 1 ≤ b ∧ m ≠ b ∧ pb ≠ b ∧ fb ≠ b) (x : Bp) : RSS w0 m pb fb c cf i n M p (((((((((((w_.setCell ⟨b, 0, none⟩ (.int .u64 x.v.r)).setCell ⟨b, 1, none⟩ (.int .u32 x.v.c)).setCell ⟨b, 2, none⟩ (.int .u64 x.v.b)).setCell ⟨b, 3, none⟩ (.int .u8 x.v.p)).setCell ⟨b, 4, none⟩ (.int .u8 x.h)).setCell ⟨b, 5, none⟩ (.int .u64 x.ver)).setCell ⟨b, 6, none⟩ (.int .u8 x.role)).setCell ⟨b, 7, none⟩ (.bool x.pr)).setCell ⟨b, 8, none⟩ (.bool x.ag)).setCell ⟨b, 9, none⟩ (.bool x.tp)).setCell ⟨b, 10, none⟩ (.int .u64 x.ec)) := (rsC (rsC (rsC (rsC (rsC (rsC (rsC (rsC (rsC (rsC (rsC h hb _) hb _) hb _) hb _) hb _) hb _) hb _) hb _) hb _) hb _) hb _)
theorem rs_put {b : Nat} (h : RS w0 m pb fb c cf M w) (hb : w0.heap.size + 1 ≤ b ∧ m ≠ b ∧ pb ≠ b ∧ fb ≠ b) (x : Bp) : RS w0 m pb fb c cf M (((((((((((w.setCell ⟨b, 0, none⟩ (.int .u64 x.v.r)).setCell ⟨b, 1, none⟩ (.int .u32 x.v.c)).setCell ⟨b, 2, none⟩ (.int .u64 x.v.b)).setCell ⟨b, 3, none⟩ (.int .u8 x.v.p)).setCell ⟨b, 4, none⟩ (.int .u8 x.h)).setCell ⟨b, 5, none⟩ (.int .u64 x.ver)).setCell ⟨b, 6, none⟩ (.int .u8 x.role)).setCell ⟨b, 7, none⟩ (.bool x.pr)).setCell ⟨b, 8, none⟩ (.bool x.ag)).setCell ⟨b, 9, none⟩ (.bool x.tp)).setCell ⟨b, 10, none⟩ (.int .u64 x.ec)) := (RS.set (RS.set (RS.set (RS.set (RS.set (RS.set (RS.set (RS.set (RS.set (RS.set (RS.set h hb _) hb _) hb _) hb _) hb _) hb _) hb _) hb _) hb _) hb _) hb _)
end
set_option maxRecDepth 100000 in
set_option maxHeartbeats 4000000 in
theorem word_ref {w : World} {m pb fb c cf i : Nat} {M : Mch} (hD : DmP w m pb fb c cf M) (hG : M.good) (hi : i < M.ps.length) :
    Calls Try.prog 42 #[.pointer (some ⟨m, 0, none⟩), .int .i64 (i : Nat)] w fun e w' => e = .returned (BV (M.word i)) ∧ Below w.heap.size w w' := by
  obtain ⟨p, hp⟩ : ∃ p, M.port i = p := ⟨_, rfl⟩
  obtain ⟨n, hn⟩ : ∃ n, M.ps.length = n := ⟨_, rfl⟩
  have hlt := hD.lt
  have hi8 : i < 8 := by have := hG.n8; omega
  have hi8' : (i : Int) < 8 := by omega
  have hin : i < n := by omega
  have hu8 : IntKind.u8.wrap (i : Int) = (i : Int) := by
    have : i = 0 ∨ i = 1 ∨ i = 2 ∨ i = 3 ∨ i = 4 ∨ i = 5 ∨ i = 6 ∨ i = 7 := by omega
    rcases this with h | h | h | h | h | h | h | h <;> subst h <;> rfl
  have HLT := Lib.hid hlt
  have HPP := Lib.hid (And.intro hp (And.intro hi hn))
  have HGD := Lib.hid hG
  have HS0 := Lib.hid (show RS w m pb fb c cf M (w.alloc (.cells #[.int .u64 0, .int .u32 0, .int .u64 0, .int .u8 0, .int .u8 0, .int .u64 0, .int .u8 0, .bool false, .bool false, .bool false, .int .u64 0] 37)) from by
    have hb := (Below.refl w.heap.size w).alloc (Nat.le_refl _) (.cells #[.int .u64 0, .int .u32 0, .int .u64 0, .int .u8 0, .int .u8 0, .int .u64 0, .int .u8 0, .bool false, .bool false, .bool false, .int .u64 0] 37)
    exact ⟨hD.next hb, BpA.zero _ _, hb⟩)
  clear hD hp hi hn hG hlt
  go_enter Try.func42, Try.ntmps42
  go_upto_region 1 with fail
  obtain ⟨w1, hw1⟩ : ∃ w1, w.alloc (.cells #[.int .u64 0, .int .u32 0, .int .u64 0, .int .u8 0, .int .u8 0, .int .u64 0, .int .u8 0, .bool false, .bool false, .bool false, .int .u64 0] 37) = w1 := ⟨_, rfl⟩
  have HW1 := Lib.hid hw1
  rw [hw1] at HS0
  clear hw1
  rw [HW1.out]
  clear HW1
  go_cut [5] (fun s5 wx => ∃ b, s5 = .pointer (some ⟨b, 0, none⟩) ∧ Hid (w.heap.size + 1 ≤ b ∧ m ≠ b ∧ pb ≠ b ∧ fb ≠ b) ∧ Hid (RS w m pb fb c cf M wx) ∧ Hid (BpA 37 wx b { v := M.own i, h := M.hops, ver := M.ver, role := 3, pr := false, ag := false, tp := decide (0 < p.sp), ec := 0 }))
  case first =>
    have hsz : Hid (w.heap.size + 1 ≤ w1.heap.size) := Lib.hid (by have := HS0.out.res.lt; omega)
    have HBW : Hid (w.heap.size + 1 ≤ w1.heap.size ∧ m ≠ w1.heap.size ∧ pb ≠ w1.heap.size ∧ fb ≠ w1.heap.size) := Lib.hid ⟨hsz.out, by have := hsz.out; have := HLT.out; omega, by have := hsz.out; have := HLT.out; omega, by have := hsz.out; have := HLT.out; omega⟩
    have c1 : w1.cell? ⟨m, 1, none⟩ = some (.slice (some ⟨pb, 0, none⟩) n c) := by have := HS0.out.dm.hd.cell 1; rw [HPP.out.2.2] at this; exact this
    have c5 : w1.cell? ⟨m, 5, none⟩ = some (.int .u8 M.hops) := HS0.out.dm.hd.cell 5
    have c6 : w1.cell? ⟨m, 6, none⟩ = some (.int .u64 M.ver) := HS0.out.dm.hd.cell 6
    have s15 := (HS0.out.dm.sd HPP.out.2.1).c15
    rw [HPP.out.1] at s15
    have ba := (Below.refl w1.heap.size w1).alloc (Nat.le_refl _) (.cells #[.int .u64 0, .int .u32 0, .int .u64 0, .int .u8 0, .int .u8 0, .int .u64 0, .int .u8 0, .bool false, .bool false, .bool false, .int .u64 0] 37)
    have a1 := keepB c1 ba
    have a5 := keepB c5 ba
    have a6 := keepB c6 ba
    have a15 := keepB s15 ba
    clear ba
    have HKO : Hid (∀ W, RS w m pb fb c cf M W → Calls Try.prog 61 #[.pointer (some ⟨m, 0, none⟩), .int .i64 (i : Nat)] W fun e w' => e = .returned (VV (M.own i)) ∧ Gro W w') := Lib.hid fun W h => own_ref h.dm HPP.out.2.1 HGD.out.n8
    go_wp2_with fail
    go_region_held3 (fun w_ => w_.cell? ⟨m, 1, none⟩ = some (.slice (some ⟨pb, 0, none⟩) n c) ∧ w_.cell? ⟨m, 5, none⟩ = some (.int .u8 M.hops) ∧ w_.cell? ⟨m, 6, none⟩ = some (.int .u64 M.ver) ∧ w_.cell? ⟨pb, i * 16 + 15, none⟩ = some (.int .i64 p.sp) ∧ Hid (RS w m pb fb c cf M w_)) (first | (with_reducible exact rsA ⟨k1, k5, k6, k15, HS2⟩ _) | (with_reducible exact rsD (rsA ⟨k1, k5, k6, k15, HS2⟩ _)) | (with_reducible exact rsP ⟨k1, k5, k6, k15, HS2⟩ HBW.out { v := M.own i, h := M.hops, ver := M.ver, role := 3, pr := false, ag := false, tp := decide (0 < p.sp), ec := 0 }) | (with_reducible exact rsD (rsP ⟨k1, k5, k6, k15, HS2⟩ HBW.out { v := M.own i, h := M.hops, ver := M.ver, role := 3, pr := false, ag := false, tp := decide (0 < p.sp), ec := 0 })) | (with_reducible exact rsA ⟨c1, c5, c6, s15, HS0⟩ _) | (with_reducible exact rsD (rsA ⟨c1, c5, c6, s15, HS0⟩ _)) | (with_reducible exact rsD ⟨c1, c5, c6, s15, HS0⟩) | (with_reducible exact ⟨k1, k5, k6, k15, HS2⟩) | fail "keep")
      (first
        | (go_at_call 61; refine (HKO.out _ (by repeat (first | exact Hid.out (by assumption) | (refine RS.drew ?_) | (refine RS.alloc ?_ _)))).mono ?_; rintro e w2 ⟨rfl, hg⟩; have k1 : w2.cell? ⟨m, 1, none⟩ = some (.slice (some ⟨pb, 0, none⟩) n c) := keepB (by assumption) hg.below; have k5 : w2.cell? ⟨m, 5, none⟩ = some (.int .u8 M.hops) := keepB (by assumption) hg.below; have k6 : w2.cell? ⟨m, 6, none⟩ = some (.int .u64 M.ver) := keepB (by assumption) hg.below; have k15 : w2.cell? ⟨pb, i * 16 + 15, none⟩ = some (.int .i64 p.sp) := keepB (by assumption) hg.below; have HS2 : Hid (RS w m pb fb c cf M w2) := Lib.hid (RS.next (by repeat (first | exact Hid.out (by assumption) | (refine RS.drew ?_) | (refine RS.alloc ?_ _))) hg.below); (first | (have HBn : Hid (BpA 37 w2 w1.heap.size Bp.zero) := Lib.hid (BpA.next (show BpA 37 (w1.alloc (.cells #[.int .u64 0, .int .u32 0, .int .u64 0, .int .u8 0, .int .u8 0, .int .u64 0, .int .u8 0, .bool false, .bool false, .bool false, .int .u64 0] 37)).drew w1.heap.size Bp.zero from BpA.zero _ _) hg.below); have b0 := Blk.cell HBn.out 0; have b1 := Blk.cell HBn.out 1; have b2 := Blk.cell HBn.out 2; have b3 := Blk.cell HBn.out 3; have b4 := Blk.cell HBn.out 4; have b5 := Blk.cell HBn.out 5; have b6 := Blk.cell HBn.out 6; have b7 := Blk.cell HBn.out 7; have b8 := Blk.cell HBn.out 8; have b9 := Blk.cell HBn.out 9; have b10 := Blk.cell HBn.out 10; have bf := Blk.frozen HBn.out) | skip); clear hg)
        | fail "no")
    all_goals (
      go_wp2_with fail
      go_meet
      first
        | (with_reducible exact ⟨_, rfl, HBW, Lib.hid (rs_put HS2.out HBW.out { v := M.own i, h := M.hops, ver := M.ver, role := 3, pr := false, ag := false, tp := decide (0 < p.sp), ec := 0 }), Lib.hid (bp_put HBn.out { v := M.own i, h := M.hops, ver := M.ver, role := 3, pr := false, ag := false, tp := decide (0 < p.sp), ec := 0 })⟩)
        | (with_reducible exact ⟨_, rfl, Lib.hid ⟨by have := HS2.out.res.lt; omega, by have := HS2.out.dm.lt; omega, by have := HS2.out.dm.lt; omega, by have := HS2.out.dm.lt; omega⟩, Lib.hid (HS2.out.alloc _), Lib.hid (BpA.new _ _ { v := M.own i, h := M.hops, ver := M.ver, role := 3, pr := false, ag := false, tp := decide (0 < p.sp), ec := 0 })⟩))
  obtain ⟨b, rfl, hb, hS, hB⟩ := hcut
  clear HS0
  obtain ⟨r, hr⟩ : ∃ r, M.role i = r := ⟨_, rfl⟩
  have HR := Lib.hid hr
  have HS2 := hS
  have HB2 := hB
  clear hr hS hB
  by_cases h1 : r = 1
  · subst h1
    have HE : Hid (M.word i = { v := M.own i, h := M.hops, ver := M.ver, role := 1, pr := false, ag := true, tp := decide (0 < p.sp), ec := p.b.ver }) := Lib.hid (by unfold Mch.word; rw [HR.out, HPP.out.1]; rfl)
    have kR := role_ref (i := i) HS2.out.dm HGD.out.cost HGD.out.inn HGD.out.n8
    rw [HR.out] at kR
    go_wp2_with fail
    refine kR.mono ?_
    rintro e w2 ⟨rfl, hg⟩
    have HS2' := Lib.hid (HS2.out.next hg.below)
    have HB2' := Lib.hid (HB2.out.next hg.below)
    clear hg HS2 HB2 kR
    have HS2 := HS2'
    have HB2 := HB2'
    clear HS2' HB2'
    have s7 := (HS2.out.dm.sd HPP.out.2.1).c7
    rw [HPP.out.1] at s7
    have c1 : w2.cell? ⟨m, 1, none⟩ = some (.slice (some ⟨pb, 0, none⟩) n c) := by have := HS2.out.dm.hd.cell 1; rw [HPP.out.2.2] at this; exact this
    have f := fun k => HB2.out.frozen k
    have C := HB2.out.cells
    have b6 := C.c6
    have b8 := C.c8
    have b10 := C.c10
    have HB3 : Hid (BpA 37 (((w2.setCell ⟨b, 6, none⟩ (.int .u8 1)).setCell ⟨b, 8, none⟩ (.bool true)).setCell ⟨b, 10, none⟩ (.int .u64 p.b.ver)) b { v := M.own i, h := M.hops, ver := M.ver, role := 1, pr := false, ag := true, tp := decide (0 < p.sp), ec := p.b.ver }) := Lib.hid (((HB2.out.setRole 1).setAg true).setEc p.b.ver)
    have HS3 := Lib.hid (((HS2.out.set (a := ⟨b, 6, none⟩) hb.out (.int .u8 1)).set (a := ⟨b, 8, none⟩) hb.out (.bool true)).set (a := ⟨b, 10, none⟩) hb.out (.int .u64 p.b.ver))
    have n1 : pb ≠ b := hb.out.2.2.1
    have n2 : m ≠ b := hb.out.2.1
    clear C
    go_upto_region 6 with fail
    obtain ⟨w3, hw3⟩ : ∃ w3, ((w2.setCell ⟨b, 6, none⟩ (.int .u8 1)).setCell ⟨b, 8, none⟩ (.bool true)).setCell ⟨b, 10, none⟩ (.int .u64 p.b.ver) = w3 := ⟨_, rfl⟩
    rw [hw3] at HB3 HS3
    rw [hw3]
    clear hw3 s7 c1 f b6 b8 b10 HS2 HB2
    have kR := role_ref (i := i) HS3.out.dm HGD.out.cost HGD.out.inn HGD.out.n8
    rw [HR.out] at kR
    go_wp2_with fail
    refine kR.mono ?_
    rintro e w4 ⟨rfl, hg⟩
    have HS3' := Lib.hid (HS3.out.next hg.below)
    have HB3' := Lib.hid (HB3.out.next hg.below)
    clear hg HS3 HB3 kR
    have HS3 := HS3'
    have HB3 := HB3'
    clear HS3' HB3'
    go_wp2_with (first | (refine load_rb 5 rfl (by kernel_rfl) b { v := M.own i, h := M.hops, ver := M.ver, role := 1, pr := false, ag := true, tp := decide (0 < p.sp), ec := p.b.ver } rfl HB3.out ?_) | (refine store_rb rfl 4 58 rfl w.heap.size { v := M.own i, h := M.hops, ver := M.ver, role := 1, pr := false, ag := true, tp := decide (0 < p.sp), ec := p.b.ver } Bp.zero rfl rfl HS3.out.res ?_))
    exact bodyPost_ret (v := BV { v := M.own i, h := M.hops, ver := M.ver, role := 1, pr := false, ag := true, tp := decide (0 < p.sp), ec := p.b.ver }) (results_cell_row (p := 4) (by kernel_rfl) _ _ w.heap.size 37 _ (0, 0) _ rfl (Blk.row HS3.out.res _) Try.underlying37 rfl (by kernel_rfl)) rfl ⟨by rw [HE.out], below_row HS3.out.bel (Nat.le_refl _) _⟩
  · by_cases h2 : r = 2
    · subst h2
      have HE : Hid (M.word i = { v := M.own i, h := M.hops, ver := M.ver, role := 2, pr := !p.ag, ag := false, tp := decide (0 < p.sp), ec := 0 }) := Lib.hid (by unfold Mch.word; rw [HR.out, HPP.out.1]; rfl)
      have kR := role_ref (i := i) HS2.out.dm HGD.out.cost HGD.out.inn HGD.out.n8
      rw [HR.out] at kR
      go_wp2_with fail
      refine kR.mono ?_
      rintro e w2 ⟨rfl, hg⟩
      have HS2' := Lib.hid (HS2.out.next hg.below)
      have HB2' := Lib.hid (HB2.out.next hg.below)
      clear hg HS2 HB2 kR
      have HS2 := HS2'
      have HB2 := HB2'
      clear HS2' HB2'
      have kR := role_ref (i := i) HS2.out.dm HGD.out.cost HGD.out.inn HGD.out.n8
      rw [HR.out] at kR
      go_wp2_with fail
      refine kR.mono ?_
      rintro e w3 ⟨rfl, hg⟩
      have HS2' := Lib.hid (HS2.out.next hg.below)
      have HB2' := Lib.hid (HB2.out.next hg.below)
      clear hg HS2 HB2 kR
      have HS2 := HS2'
      have HB2 := HB2'
      clear HS2' HB2'
      have s14 := (HS2.out.dm.sd HPP.out.2.1).c14
      rw [HPP.out.1] at s14
      have c1 : w3.cell? ⟨m, 1, none⟩ = some (.slice (some ⟨pb, 0, none⟩) n c) := by have := HS2.out.dm.hd.cell 1; rw [HPP.out.2.2] at this; exact this
      have f := fun k => HB2.out.frozen k
      have C := HB2.out.cells
      have b6 := C.c6
      have b7 := C.c7
      have HB3 : Hid (BpA 37 ((w3.setCell ⟨b, 6, none⟩ (.int .u8 2)).setCell ⟨b, 7, none⟩ (.bool (!p.ag))) b { v := M.own i, h := M.hops, ver := M.ver, role := 2, pr := !p.ag, ag := false, tp := decide (0 < p.sp), ec := 0 }) := Lib.hid ((HB2.out.setRole 2).setPr (!p.ag))
      have HS3 := Lib.hid ((HS2.out.set (a := ⟨b, 6, none⟩) hb.out (.int .u8 2)).set (a := ⟨b, 7, none⟩) hb.out (.bool (!p.ag)))
      have n1 : pb ≠ b := hb.out.2.2.1
      have n2 : m ≠ b := hb.out.2.1
      clear C h1
      go_upto_region 9 with fail
      obtain ⟨w4, hw4⟩ : ∃ w4, (w3.setCell ⟨b, 6, none⟩ (.int .u8 2)).setCell ⟨b, 7, none⟩ (.bool (!p.ag)) = w4 := ⟨_, rfl⟩
      rw [hw4] at HB3 HS3
      rw [hw4]
      clear hw4 s14 c1 f b6 b7 HS2 HB2
      go_wp2_with (first | (refine load_rb 5 rfl (by kernel_rfl) b { v := M.own i, h := M.hops, ver := M.ver, role := 2, pr := !p.ag, ag := false, tp := decide (0 < p.sp), ec := 0 } rfl HB3.out ?_) | (refine store_rb rfl 4 58 rfl w.heap.size { v := M.own i, h := M.hops, ver := M.ver, role := 2, pr := !p.ag, ag := false, tp := decide (0 < p.sp), ec := 0 } Bp.zero rfl rfl HS3.out.res ?_))
      exact bodyPost_ret (v := BV { v := M.own i, h := M.hops, ver := M.ver, role := 2, pr := !p.ag, ag := false, tp := decide (0 < p.sp), ec := 0 }) (results_cell_row (p := 4) (by kernel_rfl) _ _ w.heap.size 37 _ (0, 0) _ rfl (Blk.row HS3.out.res _) Try.underlying37 rfl (by kernel_rfl)) rfl ⟨by rw [HE.out], below_row HS3.out.bel (Nat.le_refl _) _⟩
    · have e1 : ((r : Int) == 1) = false := by simp; omega
      have e2 : ((r : Int) == 2) = false := by simp; omega
      have HE : Hid (M.word i = { v := M.own i, h := M.hops, ver := M.ver, role := 3, pr := false, ag := false, tp := decide (0 < p.sp), ec := 0 }) := Lib.hid (by
        unfold Mch.word
        rw [HR.out, HPP.out.1, if_neg h1, if_neg h2, if_neg h1]
        have g1 : (r == 1) = false := by simpa using h1
        have g2 : (r == 2) = false := by simpa using h2
        rw [g1, g2]
        rfl)
      clear h1 h2
      have kR := role_ref (i := i) HS2.out.dm HGD.out.cost HGD.out.inn HGD.out.n8
      rw [HR.out] at kR
      go_wp2_with fail
      refine kR.mono ?_
      rintro e w2 ⟨rfl, hg⟩
      have HS2' := Lib.hid (HS2.out.next hg.below)
      have HB2' := Lib.hid (HB2.out.next hg.below)
      clear hg HS2 HB2 kR
      have HS2 := HS2'
      have HB2 := HB2'
      clear HS2' HB2'
      have kR := role_ref (i := i) HS2.out.dm HGD.out.cost HGD.out.inn HGD.out.n8
      rw [HR.out] at kR
      go_wp2_with fail
      refine kR.mono ?_
      rintro e w3 ⟨rfl, hg⟩
      have HS2' := Lib.hid (HS2.out.next hg.below)
      have HB2' := Lib.hid (HB2.out.next hg.below)
      clear hg HS2 HB2 kR
      have HS2 := HS2'
      have HB2 := HB2'
      clear HS2' HB2'
      have HB3 := HB2
      have HS3 := HS2
      clear HS2 HB2
      go_wp2_with (first | (refine load_rb 5 rfl (by kernel_rfl) b { v := M.own i, h := M.hops, ver := M.ver, role := 3, pr := false, ag := false, tp := decide (0 < p.sp), ec := 0 } rfl HB3.out ?_) | (refine store_rb rfl 4 58 rfl w.heap.size { v := M.own i, h := M.hops, ver := M.ver, role := 3, pr := false, ag := false, tp := decide (0 < p.sp), ec := 0 } Bp.zero rfl rfl HS3.out.res ?_))
      exact bodyPost_ret (v := BV { v := M.own i, h := M.hops, ver := M.ver, role := 3, pr := false, ag := false, tp := decide (0 < p.sp), ec := 0 }) (results_cell_row (p := 4) (by kernel_rfl) _ _ w.heap.size 37 _ (0, 0) _ rfl (Blk.row HS3.out.res _) Try.underlying37 rfl (by kernel_rfl)) rfl ⟨by rw [HE.out], below_row HS3.out.bel (Nat.le_refl _) _⟩
end Go.Proofs.Ytlpmilaofcakbaa
