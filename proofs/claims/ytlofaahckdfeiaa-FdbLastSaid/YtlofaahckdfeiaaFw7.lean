/- Package fdb: SetStatic, DropStatic. -/
import Derived.Test.YtlofaahckdfeiaaFw6
import Derived.WalkSpells
namespace Go.Proofs.Ytlofaahckdfeiaa
open Go.RowKit
set_option linter.unusedVariables false
set_option linter.unusedSimpArgs false
set_option maxRecDepth 100000

theorem sput_le {S : List (Pl × UInt8)} {k : Pl} {v : UInt8} (h : shas S k = true ∨ S.length < 16) (h16 : S.length ≤ 16) : (sput S k v).length ≤ 16 := by
  rw [sput_len]
  rcases h with h | h
  · rw [if_pos h]; exact h16
  · split <;> omega
set_option maxHeartbeats 1000000 in
theorem set_nil (w : World) (v : UInt16) (m : Mc) (s : UInt8) : Calls Try.prog 12 #[.pointer none, .int .u16 v.toNat, mV m, .int .u8 s.toNat] w fun e w' => e = .returned (.int .i64 1) ∧ Gro w w' := by
  go_enter Try.func12, Try.ntmps12
  go_wp2
  go_ret
  exact ⟨rfl, (Gro.refl w).alloc _⟩
set_option maxHeartbeats 1000000 in
theorem drop_nil (w : World) (v : UInt16) (m : Mc) : Calls Try.prog 14 #[.pointer none, .int .u16 v.toNat, mV m] w fun e w' => e = .returned (.int .i64 1) ∧ Gro w w' := by
  go_enter Try.func14, Try.ntmps14
  go_wp2
  go_ret
  exact ⟨rfl, (Gro.refl w).alloc _⟩
set_option maxHeartbeats 2000000 in
theorem set_bad {w : World} {t c : Nat} {A : Option Addr} {mb : Option Nat} {L : List En} {S : List (Pl × UInt8)} (h : Tab w t A c mb L S) (v : UInt16) (m : Mc) (s : UInt8) (hv : okVid v = false) :
    Calls Try.prog 12 #[.pointer (some ⟨t, 0, none⟩), .int .u16 v.toNat, mV m, .int .u8 s.toNat] w fun e w' => e = .returned (.int .i64 2) ∧ Gro w w' := by
  obtain ⟨g, hg⟩ : ∃ g, w.heap.size = g := ⟨_, rfl⟩
  obtain ⟨w1, hw1⟩ : ∃ w1, w.alloc (.cells #[.int .u8 m.a.toNat, .int .u8 m.b.toNat, .int .u8 m.c.toNat, .int .u8 m.d.toNat, .int .u8 m.e.toNat, .int .u8 m.f.toNat] 25) = w1 := ⟨_, rfl⟩
  have hG : Gro w w1 := by rw [← hw1]; exact (Gro.refl w).alloc _
  have HM1 : Hid (Blk w1 g 25 #[.int .u8 m.a.toNat, .int .u8 m.b.toNat, .int .u8 m.c.toNat, .int .u8 m.d.toNat, .int .u8 m.e.toNat, .int .u8 m.f.toNat]) := Lib.hid (by rw [← hw1, ← hg]; exact Blk.new w _ _)
  have HT1 := Lib.hid (h.gro hG)
  have HG1 := Lib.hid hG
  have HLT : Hid (∀ k, tset t A mb k → k < g) := Lib.hid (by rw [← hg]; exact h.lt)
  have hgw := Nat.le_of_eq hg.symm
  have HGW := Lib.hid hgw
  clear h hG hgw
  have HV := Lib.hid hv
  clear hv
  go_enter Try.func12, Try.ntmps12
  go_wp2_with fail
  refine (canBe_any _ v).mono ?_
  rw [HV.out]
  rintro e w2 ⟨rfl, hgr⟩
  have HT2 := Lib.hid (HT1.out.gro hgr)
  have HG2 := Lib.hid (HG1.out.trans hgr)
  have HM2 := Lib.hid (hgr.blk HM1.out)
  clear hgr HT1 HG1 HM1
  go_wp2
  go_ret
  exact ⟨rfl, HG2.out⟩
set_option maxHeartbeats 2000000 in
theorem drop_bad {w : World} {t c : Nat} {A : Option Addr} {mb : Option Nat} {L : List En} {S : List (Pl × UInt8)} (h : Tab w t A c mb L S) (v : UInt16) (m : Mc) (hv : okVid v = false) :
    Calls Try.prog 14 #[.pointer (some ⟨t, 0, none⟩), .int .u16 v.toNat, mV m] w fun e w' => e = .returned (.int .i64 2) ∧ Gro w w' := by
  obtain ⟨g, hg⟩ : ∃ g, w.heap.size = g := ⟨_, rfl⟩
  obtain ⟨w1, hw1⟩ : ∃ w1, w.alloc (.cells #[.int .u8 m.a.toNat, .int .u8 m.b.toNat, .int .u8 m.c.toNat, .int .u8 m.d.toNat, .int .u8 m.e.toNat, .int .u8 m.f.toNat] 25) = w1 := ⟨_, rfl⟩
  have hG : Gro w w1 := by rw [← hw1]; exact (Gro.refl w).alloc _
  have HM1 : Hid (Blk w1 g 25 #[.int .u8 m.a.toNat, .int .u8 m.b.toNat, .int .u8 m.c.toNat, .int .u8 m.d.toNat, .int .u8 m.e.toNat, .int .u8 m.f.toNat]) := Lib.hid (by rw [← hw1, ← hg]; exact Blk.new w _ _)
  have HT1 := Lib.hid (h.gro hG)
  have HG1 := Lib.hid hG
  have HLT : Hid (∀ k, tset t A mb k → k < g) := Lib.hid (by rw [← hg]; exact h.lt)
  have hgw := Nat.le_of_eq hg.symm
  have HGW := Lib.hid hgw
  clear h hG hgw
  have HV := Lib.hid hv
  clear hv
  go_enter Try.func14, Try.ntmps14
  go_wp2_with fail
  refine (canBe_any _ v).mono ?_
  rw [HV.out]
  rintro e w2 ⟨rfl, hgr⟩
  have HT2 := Lib.hid (HT1.out.gro hgr)
  have HG2 := Lib.hid (HG1.out.trans hgr)
  have HM2 := Lib.hid (hgr.blk HM1.out)
  clear hgr HT1 HG1 HM1
  go_wp2
  go_ret
  exact ⟨rfl, HG2.out⟩
set_option maxHeartbeats 2000000 in
theorem set_full {w : World} {t c : Nat} {A : Option Addr} {mb : Option Nat} {L : List En} {S : List (Pl × UInt8)} (h : Tab w t A c mb L S) (v : UInt16) (m : Mc) (s : UInt8) (hv : okVid v = true) (hs : shas S (Pl.mk v m) = false) (h16 : S.length = 16) :
    Calls Try.prog 12 #[.pointer (some ⟨t, 0, none⟩), .int .u16 v.toNat, mV m, .int .u8 s.toNat] w fun e w' => e = .returned (.int .i64 6) ∧ Gro w w' := by
  obtain ⟨g, hg⟩ : ∃ g, w.heap.size = g := ⟨_, rfl⟩
  obtain ⟨w1, hw1⟩ : ∃ w1, w.alloc (.cells #[.int .u8 m.a.toNat, .int .u8 m.b.toNat, .int .u8 m.c.toNat, .int .u8 m.d.toNat, .int .u8 m.e.toNat, .int .u8 m.f.toNat] 25) = w1 := ⟨_, rfl⟩
  have hG : Gro w w1 := by rw [← hw1]; exact (Gro.refl w).alloc _
  have HM1 : Hid (Blk w1 g 25 #[.int .u8 m.a.toNat, .int .u8 m.b.toNat, .int .u8 m.c.toNat, .int .u8 m.d.toNat, .int .u8 m.e.toNat, .int .u8 m.f.toNat]) := Lib.hid (by rw [← hw1, ← hg]; exact Blk.new w _ _)
  have HT1 := Lib.hid (h.gro hG)
  have HG1 := Lib.hid hG
  have HLT : Hid (∀ k, tset t A mb k → k < g) := Lib.hid (by rw [← hg]; exact h.lt)
  have hgw := Nat.le_of_eq hg.symm
  have HGW := Lib.hid hgw
  clear h hG hgw
  have HV := Lib.hid hv
  have HS := Lib.hid hs
  clear hv hs
  go_enter Try.func12, Try.ntmps12
  go_wp2_with fail
  refine (canBe_any _ v).mono ?_
  rw [HV.out]
  rintro e w2 ⟨rfl, hgr⟩
  have HT2 := Lib.hid (HT1.out.gro hgr)
  have HG2 := Lib.hid (HG1.out.trans hgr)
  have HM2 := Lib.hid (hgr.blk HM1.out)
  clear hgr HT1 HG1 HM1
  obtain ⟨m0, m1, m2, m3, m4, m5⟩ := mcells HM2.out
  obtain ⟨gp, hgp⟩ : ∃ gp, w2.heap.size = gp := ⟨_, rfl⟩
  obtain ⟨w3, hw3⟩ : ∃ w3, w2.alloc (.cells #[.int .u16 v.toNat, .int .u8 m.a.toNat, .int .u8 m.b.toNat, .int .u8 m.c.toNat, .int .u8 m.d.toNat, .int .u8 m.e.toNat, .int .u8 m.f.toNat] 71) = w3 := ⟨_, rfl⟩
  have hG : Gro w2 w3 := by rw [← hw3]; exact (Gro.refl w2).alloc _
  have hP : Blk w3 gp 71 #[.int .u16 v.toNat, .int .u8 m.a.toNat, .int .u8 m.b.toNat, .int .u8 m.c.toNat, .int .u8 m.d.toNat, .int .u8 m.e.toNat, .int .u8 m.f.toNat] := by rw [← hw3, ← hgp]; exact Blk.new w2 _ _
  have HT3 := Lib.hid (HT2.out.gro hG)
  have HG3 := Lib.hid (HG2.out.trans hG)
  have HP3 := Lib.hid hP
  have HGP : Hid (g ≤ gp) := Lib.hid (by rw [← hgp, ← hg]; exact HG2.out.size)
  clear hP hG HT2 HG2 HM2
  obtain ⟨p0, p1, p2, p3, p4, p5, p6⟩ := plcells HP3.out
  go_wp2_with fail
  refine (isStatic_any HT3.out (Pl.mk v m)).mono ?_
  rw [HS.out]
  rintro e w4 ⟨rfl, hgr⟩
  have HT4 := Lib.hid (HT3.out.gro hgr)
  have HG4 := Lib.hid (HG3.out.trans hgr)
  have HP4 := Lib.hid (hgr.blk HP3.out)
  clear hgr HT3 HG3 HP3 p0 p1 p2 p3 p4 p5 p6 m0 m1 m2 m3 m4 m5
  have c1 := HT4.out.c1
  have hlen := HT4.out.map.len
  rw [h16] at hlen
  clear h16
  go_wp2
  go_ret
  exact ⟨rfl, HG4.out⟩
set_option maxHeartbeats 2000000 in
theorem drop_none {w : World} {t c : Nat} {A : Option Addr} {mb : Option Nat} {L : List En} {S : List (Pl × UInt8)} (h : Tab w t A c mb L S) (v : UInt16) (m : Mc) (hv : okVid v = true) (hs : shas S (Pl.mk v m) = false) :
    Calls Try.prog 14 #[.pointer (some ⟨t, 0, none⟩), .int .u16 v.toNat, mV m] w fun e w' => e = .returned (.int .i64 7) ∧ Gro w w' := by
  obtain ⟨g, hg⟩ : ∃ g, w.heap.size = g := ⟨_, rfl⟩
  obtain ⟨w1, hw1⟩ : ∃ w1, w.alloc (.cells #[.int .u8 m.a.toNat, .int .u8 m.b.toNat, .int .u8 m.c.toNat, .int .u8 m.d.toNat, .int .u8 m.e.toNat, .int .u8 m.f.toNat] 25) = w1 := ⟨_, rfl⟩
  have hG : Gro w w1 := by rw [← hw1]; exact (Gro.refl w).alloc _
  have HM1 : Hid (Blk w1 g 25 #[.int .u8 m.a.toNat, .int .u8 m.b.toNat, .int .u8 m.c.toNat, .int .u8 m.d.toNat, .int .u8 m.e.toNat, .int .u8 m.f.toNat]) := Lib.hid (by rw [← hw1, ← hg]; exact Blk.new w _ _)
  have HT1 := Lib.hid (h.gro hG)
  have HG1 := Lib.hid hG
  have HLT : Hid (∀ k, tset t A mb k → k < g) := Lib.hid (by rw [← hg]; exact h.lt)
  have hgw := Nat.le_of_eq hg.symm
  have HGW := Lib.hid hgw
  clear h hG hgw
  have HV := Lib.hid hv
  have HS := Lib.hid hs
  clear hv hs
  go_enter Try.func14, Try.ntmps14
  go_wp2_with fail
  refine (canBe_any _ v).mono ?_
  rw [HV.out]
  rintro e w2 ⟨rfl, hgr⟩
  have HT2 := Lib.hid (HT1.out.gro hgr)
  have HG2 := Lib.hid (HG1.out.trans hgr)
  have HM2 := Lib.hid (hgr.blk HM1.out)
  clear hgr HT1 HG1 HM1
  obtain ⟨m0, m1, m2, m3, m4, m5⟩ := mcells HM2.out
  obtain ⟨gp, hgp⟩ : ∃ gp, w2.heap.size = gp := ⟨_, rfl⟩
  obtain ⟨w3, hw3⟩ : ∃ w3, w2.alloc (.cells #[.int .u16 v.toNat, .int .u8 m.a.toNat, .int .u8 m.b.toNat, .int .u8 m.c.toNat, .int .u8 m.d.toNat, .int .u8 m.e.toNat, .int .u8 m.f.toNat] 71) = w3 := ⟨_, rfl⟩
  have hG : Gro w2 w3 := by rw [← hw3]; exact (Gro.refl w2).alloc _
  have hP : Blk w3 gp 71 #[.int .u16 v.toNat, .int .u8 m.a.toNat, .int .u8 m.b.toNat, .int .u8 m.c.toNat, .int .u8 m.d.toNat, .int .u8 m.e.toNat, .int .u8 m.f.toNat] := by rw [← hw3, ← hgp]; exact Blk.new w2 _ _
  have HT3 := Lib.hid (HT2.out.gro hG)
  have HG3 := Lib.hid (HG2.out.trans hG)
  have HP3 := Lib.hid hP
  have HGP : Hid (g ≤ gp) := Lib.hid (by rw [← hgp, ← hg]; exact HG2.out.size)
  clear hP hG HT2 HG2 HM2
  obtain ⟨p0, p1, p2, p3, p4, p5, p6⟩ := plcells HP3.out
  go_wp2_with fail
  refine (isStatic_any HT3.out (Pl.mk v m)).mono ?_
  rw [HS.out]
  rintro e w4 ⟨rfl, hgr⟩
  have HT4 := Lib.hid (HT3.out.gro hgr)
  have HG4 := Lib.hid (HG3.out.trans hgr)
  have HP4 := Lib.hid (hgr.blk HP3.out)
  clear hgr HT3 HG3 HP3 p0 p1 p2 p3 p4 p5 p6 m0 m1 m2 m3 m4 m5
  have c1 := HT4.out.c1
  go_wp2
  go_ret
  exact ⟨rfl, HG4.out⟩
set_option maxHeartbeats 4000000 in
theorem drop_ok {w : World} {t c : Nat} {A : Option Addr} {mb : Option Nat} {L : List En} {S : List (Pl × UInt8)} (h : Tab w t A c mb L S) (v : UInt16) (m : Mc) (hv : okVid v = true) (hs : shas S (Pl.mk v m) = true) :
    Calls Try.prog 14 #[.pointer (some ⟨t, 0, none⟩), .int .u16 v.toNat, mV m] w fun e w' => e = .returned (.int .i64 0) ∧ Tab w' t A c mb L (sdel S (Pl.mk v m)) ∧ Chg (tset t A mb) w w' := by
  cases mb with
  | none =>
    have : S = [] := h.map
    rw [this] at hs
    cases hs
  | some b =>
    obtain ⟨g, hg⟩ : ∃ g, w.heap.size = g := ⟨_, rfl⟩
    obtain ⟨w1, hw1⟩ : ∃ w1, w.alloc (.cells #[.int .u8 m.a.toNat, .int .u8 m.b.toNat, .int .u8 m.c.toNat, .int .u8 m.d.toNat, .int .u8 m.e.toNat, .int .u8 m.f.toNat] 25) = w1 := ⟨_, rfl⟩
    have hG : Gro w w1 := by rw [← hw1]; exact (Gro.refl w).alloc _
    have HM1 : Hid (Blk w1 g 25 #[.int .u8 m.a.toNat, .int .u8 m.b.toNat, .int .u8 m.c.toNat, .int .u8 m.d.toNat, .int .u8 m.e.toNat, .int .u8 m.f.toNat]) := Lib.hid (by rw [← hw1, ← hg]; exact Blk.new w _ _)
    have HT1 := Lib.hid (h.gro hG)
    have HG1 := Lib.hid hG
    have HLT : Hid (∀ k, tset t A (some b) k → k < g) := Lib.hid (by rw [← hg]; exact h.lt)
    have hgw := Nat.le_of_eq hg.symm
    have HGW := Lib.hid hgw
    clear h hG hgw
    have HV := Lib.hid hv
    have HS := Lib.hid hs
    clear hv hs
    go_enter Try.func14, Try.ntmps14
    go_wp2_with fail
    refine (canBe_any _ v).mono ?_
    rw [HV.out]
    rintro e w2 ⟨rfl, hgr⟩
    have HT2 := Lib.hid (HT1.out.gro hgr)
    have HG2 := Lib.hid (HG1.out.trans hgr)
    have HM2 := Lib.hid (hgr.blk HM1.out)
    clear hgr HT1 HG1 HM1
    obtain ⟨m0, m1, m2, m3, m4, m5⟩ := mcells HM2.out
    obtain ⟨gp, hgp⟩ : ∃ gp, w2.heap.size = gp := ⟨_, rfl⟩
    obtain ⟨w3, hw3⟩ : ∃ w3, w2.alloc (.cells #[.int .u16 v.toNat, .int .u8 m.a.toNat, .int .u8 m.b.toNat, .int .u8 m.c.toNat, .int .u8 m.d.toNat, .int .u8 m.e.toNat, .int .u8 m.f.toNat] 71) = w3 := ⟨_, rfl⟩
    have hG : Gro w2 w3 := by rw [← hw3]; exact (Gro.refl w2).alloc _
    have hP : Blk w3 gp 71 #[.int .u16 v.toNat, .int .u8 m.a.toNat, .int .u8 m.b.toNat, .int .u8 m.c.toNat, .int .u8 m.d.toNat, .int .u8 m.e.toNat, .int .u8 m.f.toNat] := by rw [← hw3, ← hgp]; exact Blk.new w2 _ _
    have HT3 := Lib.hid (HT2.out.gro hG)
    have HG3 := Lib.hid (HG2.out.trans hG)
    have HP3 := Lib.hid hP
    have HGP : Hid (g ≤ gp) := Lib.hid (by rw [← hgp, ← hg]; exact HG2.out.size)
    clear hP hG HT2 HG2 HM2
    obtain ⟨p0, p1, p2, p3, p4, p5, p6⟩ := plcells HP3.out
    go_wp2_with fail
    refine (isStatic_any HT3.out (Pl.mk v m)).mono ?_
    rw [HS.out]
    rintro e w4 ⟨rfl, hgr⟩
    have HT4 := Lib.hid (HT3.out.gro hgr)
    have HG4 := Lib.hid (HG3.out.trans hgr)
    have HP4 := Lib.hid (hgr.blk HP3.out)
    clear hgr HT3 HG3 HP3 p0 p1 p2 p3 p4 p5 p6 m0 m1 m2 m3 m4 m5
    have c1 := HT4.out.c1
    obtain ⟨p0, p1, p2, p3, p4, p5, p6⟩ := plcells HP4.out
    have hT4d := HT4.out.drew
    have hM4 : SmapP w4.drew b S := hT4d.map
    have hdel := fun ty => SmapP.del hM4 hT4d.nd (Pl.mk v m) ty
    obtain ⟨w5, hdel, hm5, ht5⟩ := hdel 0
    have htt := hT4d.turn hm5 ht5 (by have := sdel_len hT4d.nd (Pl.mk v m); have := hT4d.s16; omega) (hT4d.nd.del _)
    have HT5 := Lib.hid htt.1
    have HC5 : Hid (Chg (tset t A (some b)) w w5) := Lib.hid (((Chg.of_below HG4.out.below).drew).trans htt.2)
    clear htt hm5 ht5 hT4d hM4
    go_wp2_with fail
    go_still_tail 5, (by kernel_rfl)
    change wpList _ _ _ _ _ w4.drew
    go_wp2
    go_ret
    exact ⟨rfl, HT5.out, HC5.out⟩
set_option maxHeartbeats 4000000 in
theorem set_ok {w : World} {t c : Nat} {A : Option Addr} {mb : Option Nat} {L : List En} {S : List (Pl × UInt8)} (h : Tab w t A c mb L S) (v : UInt16) (m : Mc) (s : UInt8) (hv : okVid v = true) (h16 : shas S (Pl.mk v m) = true ∨ S.length < 16) :
    Calls Try.prog 12 #[.pointer (some ⟨t, 0, none⟩), .int .u16 v.toNat, mV m, .int .u8 s.toNat] w fun e w' => e = .returned (.int .i64 0) ∧ ∃ A' c' mb', Tab w' t A' c' mb' (lwo L (Pl.mk v m)) (sput S (Pl.mk v m) s) ∧ Chg (tset t A mb) w w' ∧ ∀ k, tset t A' mb' k → tset t A mb k ∨ w.heap.size ≤ k := by
  have H16 : Hid (shas S (Pl.mk v m) = true ∨ S.length < 16) := Lib.hid h16
  clear h16
  have HV := Lib.hid hv
  clear hv
  cases mb with
  | none =>
    have hS0 : S = [] := h.map
    have HS : Hid (shas S (Pl.mk v m) = false) := Lib.hid (by rw [hS0]; rfl)
    subst hS0
    obtain ⟨g, hg⟩ : ∃ g, w.heap.size = g := ⟨_, rfl⟩
    obtain ⟨w1, hw1⟩ : ∃ w1, w.alloc (.cells #[.int .u8 m.a.toNat, .int .u8 m.b.toNat, .int .u8 m.c.toNat, .int .u8 m.d.toNat, .int .u8 m.e.toNat, .int .u8 m.f.toNat] 25) = w1 := ⟨_, rfl⟩
    have hG : Gro w w1 := by rw [← hw1]; exact (Gro.refl w).alloc _
    have HM1 : Hid (Blk w1 g 25 #[.int .u8 m.a.toNat, .int .u8 m.b.toNat, .int .u8 m.c.toNat, .int .u8 m.d.toNat, .int .u8 m.e.toNat, .int .u8 m.f.toNat]) := Lib.hid (by rw [← hw1, ← hg]; exact Blk.new w _ _)
    have HT1 := Lib.hid (h.gro hG)
    have HG1 := Lib.hid hG
    have HLT : Hid (∀ k, tset t A none k → k < g) := Lib.hid (by rw [← hg]; exact h.lt)
    have hgw := Nat.le_of_eq hg.symm
    have HGW := Lib.hid hgw
    clear h hG hgw
    go_enter Try.func12, Try.ntmps12
    go_wp2_with fail
    refine (canBe_any _ v).mono ?_
    rw [HV.out]
    rintro e w2 ⟨rfl, hgr⟩
    have HT2 := Lib.hid (HT1.out.gro hgr)
    have HG2 := Lib.hid (HG1.out.trans hgr)
    have HM2 := Lib.hid (hgr.blk HM1.out)
    clear hgr HT1 HG1 HM1
    obtain ⟨m0, m1, m2, m3, m4, m5⟩ := mcells HM2.out
    obtain ⟨gp, hgp⟩ : ∃ gp, w2.heap.size = gp := ⟨_, rfl⟩
    obtain ⟨w3, hw3⟩ : ∃ w3, w2.alloc (.cells #[.int .u16 v.toNat, .int .u8 m.a.toNat, .int .u8 m.b.toNat, .int .u8 m.c.toNat, .int .u8 m.d.toNat, .int .u8 m.e.toNat, .int .u8 m.f.toNat] 71) = w3 := ⟨_, rfl⟩
    have hG : Gro w2 w3 := by rw [← hw3]; exact (Gro.refl w2).alloc _
    have hP : Blk w3 gp 71 #[.int .u16 v.toNat, .int .u8 m.a.toNat, .int .u8 m.b.toNat, .int .u8 m.c.toNat, .int .u8 m.d.toNat, .int .u8 m.e.toNat, .int .u8 m.f.toNat] := by rw [← hw3, ← hgp]; exact Blk.new w2 _ _
    have HT3 := Lib.hid (HT2.out.gro hG)
    have HG3 := Lib.hid (HG2.out.trans hG)
    have HP3 := Lib.hid hP
    have HGP : Hid (g ≤ gp) := Lib.hid (by rw [← hgp, ← hg]; exact HG2.out.size)
    clear hP hG HT2 HG2 HM2
    obtain ⟨p0, p1, p2, p3, p4, p5, p6⟩ := plcells HP3.out
    go_wp2_with fail
    refine (isStatic_any HT3.out (Pl.mk v m)).mono ?_
    rw [HS.out]
    rintro e w4 ⟨rfl, hgr⟩
    have HT4 := Lib.hid (HT3.out.gro hgr)
    have HG4 := Lib.hid (HG3.out.trans hgr)
    have HP4 := Lib.hid (hgr.blk HP3.out)
    clear hgr HT3 HG3 HP3 p0 p1 p2 p3 p4 p5 p6 m0 m1 m2 m3 m4 m5
    have c1 := HT4.out.c1
    have hlen := HT4.out.map.len
    have qN : ∀ w : World, (binOp .eql 60 (.map none) (.map none)).run Try.prog w = .ok (.bool true) w := fun w => run_eql_map_nil w _ _ _ none map_undP
    have c1a : (w4.alloc (.map #[] 0)).cell? ⟨t, 1, none⟩ = some (.map none) := (World.cell?_of_block (w := w4) (Below.heap_alloc w4 _ t HT4.out.lt0)).trans c1
    have f1a : (w4.alloc (.map #[] 0)).frozen? ⟨t, 1, none⟩ = false := (World.frozen?_of_block (w := w4) (Below.heap_alloc w4 _ t HT4.out.lt0)).trans (HT4.out.fz 1)
    have hmm := @run_makeMap Try.prog
    obtain ⟨w5, hw5⟩ : ∃ w5, (w4.alloc (.map #[] 0)).setCell ⟨t, 1, none⟩ (.map (some w4.heap.size)) = w5 := ⟨_, rfl⟩
    have hmade := HT4.out.made
    rw [hw5] at hmade
    have HT5 := Lib.hid hmade.1
    have HC5 := Lib.hid hmade.2
    obtain ⟨b, hb⟩ : ∃ b, w4.heap.size = b := ⟨_, rfl⟩
    have HBL : Hid (w.heap.size ≤ b) := Lib.hid (by rw [← hb]; exact HG4.out.size)
    have hgpt : ¬ gp = t := by have := HLT.out t (.inl rfl); have := HGP.out; omega
    have hgpb : gp < b := by rw [← hb]; exact HP4.out.lt
    have HPX : Hid (Blk w5 gp 71 #[.int .u16 v.toNat, .int .u8 m.a.toNat, .int .u8 m.b.toNat, .int .u8 m.c.toNat, .int .u8 m.d.toNat, .int .u8 m.e.toNat, .int .u8 m.f.toNat]) := Lib.hid (HP4.out.chg HC5.out (by
      rintro (e | e | e)
      · exact hgpt e
      · have := HLT.out _ (.inr (.inl e)); have := HGP.out; omega
      · cases e))
    rw [hb] at HT5 hw5
    have HNP : Hid (¬ tset t A (some b) gp) := Lib.hid (by
      rintro (e | e | e)
      · exact hgpt e
      · have := HLT.out _ (.inr (.inl e)); have := HGP.out; omega
      · cases e; omega)
    clear hmade hgpt hgpb hgp
    obtain ⟨p0, p1, p2, p3, p4, p5, p6⟩ := plcells HPX.out
    have hTd := HT5.out.drew
    have c1 := HT5.out.c1
    have hMd : SmapP w5.drew b [] := hTd.map
    obtain ⟨w6, hput, hm6, ht6⟩ := SmapP.put hMd (by have := hTd.s16; unfold maxLen; omega) (Pl.mk v m) s
    have htt := hTd.turn hm6 ht6 (sput_le H16.out hTd.s16) (hTd.nd.put _ _)
    have HT6 := Lib.hid htt.1
    have HC6 : Hid (Chg (tset t A none) w w6) := Lib.hid (((Chg.of_below HG4.out.below).trans HC5.out).also (((Chg.refl _ _).drew).trans htt.2) (fun k hk e => Or.elim e .inl (fun e => Or.elim e (fun e => .inr (.inl e)) (fun e => absurd hk (by cases e; have := HBL.out; omega)))))
    have HP6 := Lib.hid (HPX.out.chg (((Chg.refl _ _).drew).trans htt.2) (fun e => HNP.out e))
    clear htt hm6 ht6 hTd hMd
    go_wp2_with fail
    go_still_tail 6, (by kernel_rfl)
    change wpList _ _ _ _ _ w5.drew
    obtain ⟨r0, r1, r2, r3, r4, r5, r6⟩ := plcells HP6.out
    go_wp2_with fail
    refine (forgetP_any HT6.out (Pl.mk v m)).mono ?_
    rintro e w7 ⟨nn, rfl, A7, c7, hT7, hC7, hrb7⟩
    have HT7 := Lib.hid hT7
    have HC7 := Lib.hid hC7
    have HR7 := Lib.hid hrb7
    clear hT7 hC7 hrb7
    go_wp2
    go_ret
    refine ⟨rfl, A7, c7, some b, HT7.out, HC6.out.also HC7.out (fun k hk e => ?_), fun k e => ?_⟩
    · rcases e with e | e | e
      · exact .inl e
      · exact .inr (.inl e)
      · cases e; have := HBL.out; omega
    · rcases e with e | e | e
      · exact .inl (.inl e)
      · exact .inl (.inr (.inl (by rw [← HR7.out]; exact e)))
      · cases e; exact .inr HBL.out
  | some b =>
    have qS : ∀ w : World, (binOp .eql 60 (.map (some b)) (.map none)).run Try.prog w = .ok (.bool false) w := fun w => run_eql_map_nil w _ _ _ (some b) map_undP
    have fin : ∀ (A7 : Option Addr), rb A7 = rb A → ∀ k, tset t A7 (some b) k → tset t A (some b) k := by
      intro A7 hR k e
      rcases e with e | e | e
      · exact .inl e
      · exact .inr (.inl (by rw [← hR]; exact e))
      · exact .inr (.inr e)
    have HF := Lib.hid fin
    clear fin
    cases hs : shas S (Pl.mk v m) with
    | true =>
      have HS := Lib.hid hs
      clear hs
      obtain ⟨g, hg⟩ : ∃ g, w.heap.size = g := ⟨_, rfl⟩
      obtain ⟨w1, hw1⟩ : ∃ w1, w.alloc (.cells #[.int .u8 m.a.toNat, .int .u8 m.b.toNat, .int .u8 m.c.toNat, .int .u8 m.d.toNat, .int .u8 m.e.toNat, .int .u8 m.f.toNat] 25) = w1 := ⟨_, rfl⟩
      have hG : Gro w w1 := by rw [← hw1]; exact (Gro.refl w).alloc _
      have HM1 : Hid (Blk w1 g 25 #[.int .u8 m.a.toNat, .int .u8 m.b.toNat, .int .u8 m.c.toNat, .int .u8 m.d.toNat, .int .u8 m.e.toNat, .int .u8 m.f.toNat]) := Lib.hid (by rw [← hw1, ← hg]; exact Blk.new w _ _)
      have HT1 := Lib.hid (h.gro hG)
      have HG1 := Lib.hid hG
      have HLT : Hid (∀ k, tset t A (some b) k → k < g) := Lib.hid (by rw [← hg]; exact h.lt)
      have hgw := Nat.le_of_eq hg.symm
      have HGW := Lib.hid hgw
      clear h hG hgw
      go_enter Try.func12, Try.ntmps12
      go_wp2_with fail
      refine (canBe_any _ v).mono ?_
      rw [HV.out]
      rintro e w2 ⟨rfl, hgr⟩
      have HT2 := Lib.hid (HT1.out.gro hgr)
      have HG2 := Lib.hid (HG1.out.trans hgr)
      have HM2 := Lib.hid (hgr.blk HM1.out)
      clear hgr HT1 HG1 HM1
      obtain ⟨m0, m1, m2, m3, m4, m5⟩ := mcells HM2.out
      obtain ⟨gp, hgp⟩ : ∃ gp, w2.heap.size = gp := ⟨_, rfl⟩
      obtain ⟨w3, hw3⟩ : ∃ w3, w2.alloc (.cells #[.int .u16 v.toNat, .int .u8 m.a.toNat, .int .u8 m.b.toNat, .int .u8 m.c.toNat, .int .u8 m.d.toNat, .int .u8 m.e.toNat, .int .u8 m.f.toNat] 71) = w3 := ⟨_, rfl⟩
      have hG : Gro w2 w3 := by rw [← hw3]; exact (Gro.refl w2).alloc _
      have hP : Blk w3 gp 71 #[.int .u16 v.toNat, .int .u8 m.a.toNat, .int .u8 m.b.toNat, .int .u8 m.c.toNat, .int .u8 m.d.toNat, .int .u8 m.e.toNat, .int .u8 m.f.toNat] := by rw [← hw3, ← hgp]; exact Blk.new w2 _ _
      have HT3 := Lib.hid (HT2.out.gro hG)
      have HG3 := Lib.hid (HG2.out.trans hG)
      have HP3 := Lib.hid hP
      have HGP : Hid (g ≤ gp) := Lib.hid (by rw [← hgp, ← hg]; exact HG2.out.size)
      clear hP hG HT2 HG2 HM2
      obtain ⟨p0, p1, p2, p3, p4, p5, p6⟩ := plcells HP3.out
      go_wp2_with fail
      refine (isStatic_any HT3.out (Pl.mk v m)).mono ?_
      rw [HS.out]
      rintro e w4 ⟨rfl, hgr⟩
      have HT4 := Lib.hid (HT3.out.gro hgr)
      have HG4 := Lib.hid (HG3.out.trans hgr)
      have HP4 := Lib.hid (hgr.blk HP3.out)
      clear hgr HT3 HG3 HP3 p0 p1 p2 p3 p4 p5 p6 m0 m1 m2 m3 m4 m5
      have c1 := HT4.out.c1
      have hlen := HT4.out.map.len
      have HPX := HP4
      have HNP : Hid (¬ tset t A (some b) gp) := Lib.hid (fun e => by have := HLT.out _ e; have := HGP.out; omega)
      clear hgp
      obtain ⟨p0, p1, p2, p3, p4, p5, p6⟩ := plcells HPX.out
      have hTd := HT4.out.drew
      have c1 := HT4.out.c1
      have hMd : SmapP w4.drew b S := hTd.map
      obtain ⟨w6, hput, hm6, ht6⟩ := SmapP.put hMd (by have := hTd.s16; unfold maxLen; omega) (Pl.mk v m) s
      have htt := hTd.turn hm6 ht6 (sput_le H16.out hTd.s16) (hTd.nd.put _ _)
      have HT6 := Lib.hid htt.1
      have HC6 : Hid (Chg (tset t A (some b)) w w6) := Lib.hid (((Chg.of_below HG4.out.below).drew).trans htt.2)
      have HP6 := Lib.hid (HPX.out.chg (((Chg.refl _ _).drew).trans htt.2) (fun e => HNP.out e))
      clear htt hm6 ht6 hTd hMd
      go_wp2_with fail
      go_still_tail 6, (by kernel_rfl)
      change wpList _ _ _ _ _ w4.drew
      obtain ⟨r0, r1, r2, r3, r4, r5, r6⟩ := plcells HP6.out
      go_wp2_with fail
      refine (forgetP_any HT6.out (Pl.mk v m)).mono ?_
      rintro e w7 ⟨nn, rfl, A7, c7, hT7, hC7, hrb7⟩
      have HT7 := Lib.hid hT7
      have HC7 := Lib.hid hC7
      have HR7 := Lib.hid hrb7
      clear hT7 hC7 hrb7
      go_wp2
      go_ret
      exact ⟨rfl, A7, c7, some b, HT7.out, HC6.out.trans HC7.out, fun k e => .inl (HF.out A7 HR7.out k e)⟩
    | false =>
      have HS := Lib.hid hs
      have hlt16 : S.length < 16 := by
        rcases H16.out with e | e
        · rw [hs] at e; cases e
        · exact e
      have hlz : ((S.length : Nat) : Int) < 16 := by omega
      clear hs hlt16
      obtain ⟨g, hg⟩ : ∃ g, w.heap.size = g := ⟨_, rfl⟩
      obtain ⟨w1, hw1⟩ : ∃ w1, w.alloc (.cells #[.int .u8 m.a.toNat, .int .u8 m.b.toNat, .int .u8 m.c.toNat, .int .u8 m.d.toNat, .int .u8 m.e.toNat, .int .u8 m.f.toNat] 25) = w1 := ⟨_, rfl⟩
      have hG : Gro w w1 := by rw [← hw1]; exact (Gro.refl w).alloc _
      have HM1 : Hid (Blk w1 g 25 #[.int .u8 m.a.toNat, .int .u8 m.b.toNat, .int .u8 m.c.toNat, .int .u8 m.d.toNat, .int .u8 m.e.toNat, .int .u8 m.f.toNat]) := Lib.hid (by rw [← hw1, ← hg]; exact Blk.new w _ _)
      have HT1 := Lib.hid (h.gro hG)
      have HG1 := Lib.hid hG
      have HLT : Hid (∀ k, tset t A (some b) k → k < g) := Lib.hid (by rw [← hg]; exact h.lt)
      have hgw := Nat.le_of_eq hg.symm
      have HGW := Lib.hid hgw
      clear h hG hgw
      go_enter Try.func12, Try.ntmps12
      go_wp2_with fail
      refine (canBe_any _ v).mono ?_
      rw [HV.out]
      rintro e w2 ⟨rfl, hgr⟩
      have HT2 := Lib.hid (HT1.out.gro hgr)
      have HG2 := Lib.hid (HG1.out.trans hgr)
      have HM2 := Lib.hid (hgr.blk HM1.out)
      clear hgr HT1 HG1 HM1
      obtain ⟨m0, m1, m2, m3, m4, m5⟩ := mcells HM2.out
      obtain ⟨gp, hgp⟩ : ∃ gp, w2.heap.size = gp := ⟨_, rfl⟩
      obtain ⟨w3, hw3⟩ : ∃ w3, w2.alloc (.cells #[.int .u16 v.toNat, .int .u8 m.a.toNat, .int .u8 m.b.toNat, .int .u8 m.c.toNat, .int .u8 m.d.toNat, .int .u8 m.e.toNat, .int .u8 m.f.toNat] 71) = w3 := ⟨_, rfl⟩
      have hG : Gro w2 w3 := by rw [← hw3]; exact (Gro.refl w2).alloc _
      have hP : Blk w3 gp 71 #[.int .u16 v.toNat, .int .u8 m.a.toNat, .int .u8 m.b.toNat, .int .u8 m.c.toNat, .int .u8 m.d.toNat, .int .u8 m.e.toNat, .int .u8 m.f.toNat] := by rw [← hw3, ← hgp]; exact Blk.new w2 _ _
      have HT3 := Lib.hid (HT2.out.gro hG)
      have HG3 := Lib.hid (HG2.out.trans hG)
      have HP3 := Lib.hid hP
      have HGP : Hid (g ≤ gp) := Lib.hid (by rw [← hgp, ← hg]; exact HG2.out.size)
      clear hP hG HT2 HG2 HM2
      obtain ⟨p0, p1, p2, p3, p4, p5, p6⟩ := plcells HP3.out
      go_wp2_with fail
      refine (isStatic_any HT3.out (Pl.mk v m)).mono ?_
      rw [HS.out]
      rintro e w4 ⟨rfl, hgr⟩
      have HT4 := Lib.hid (HT3.out.gro hgr)
      have HG4 := Lib.hid (HG3.out.trans hgr)
      have HP4 := Lib.hid (hgr.blk HP3.out)
      clear hgr HT3 HG3 HP3 p0 p1 p2 p3 p4 p5 p6 m0 m1 m2 m3 m4 m5
      have c1 := HT4.out.c1
      have hlen := HT4.out.map.len
      have HPX := HP4
      have HNP : Hid (¬ tset t A (some b) gp) := Lib.hid (fun e => by have := HLT.out _ e; have := HGP.out; omega)
      clear hgp
      obtain ⟨p0, p1, p2, p3, p4, p5, p6⟩ := plcells HPX.out
      have hTd := HT4.out.drew
      have c1 := HT4.out.c1
      have hMd : SmapP w4.drew b S := hTd.map
      obtain ⟨w6, hput, hm6, ht6⟩ := SmapP.put hMd (by have := hTd.s16; unfold maxLen; omega) (Pl.mk v m) s
      have htt := hTd.turn hm6 ht6 (sput_le H16.out hTd.s16) (hTd.nd.put _ _)
      have HT6 := Lib.hid htt.1
      have HC6 : Hid (Chg (tset t A (some b)) w w6) := Lib.hid (((Chg.of_below HG4.out.below).drew).trans htt.2)
      have HP6 := Lib.hid (HPX.out.chg (((Chg.refl _ _).drew).trans htt.2) (fun e => HNP.out e))
      clear htt hm6 ht6 hTd hMd
      go_wp2_with fail
      go_still_tail 6, (by kernel_rfl)
      change wpList _ _ _ _ _ w4.drew
      obtain ⟨r0, r1, r2, r3, r4, r5, r6⟩ := plcells HP6.out
      go_wp2_with fail
      refine (forgetP_any HT6.out (Pl.mk v m)).mono ?_
      rintro e w7 ⟨nn, rfl, A7, c7, hT7, hC7, hrb7⟩
      have HT7 := Lib.hid hT7
      have HC7 := Lib.hid hC7
      have HR7 := Lib.hid hrb7
      clear hT7 hC7 hrb7
      go_wp2
      go_ret
      exact ⟨rfl, A7, c7, some b, HT7.out, HC6.out.trans HC7.out, fun k e => .inl (HF.out A7 HR7.out k e)⟩
end Go.Proofs.Ytlofaahckdfeiaa
