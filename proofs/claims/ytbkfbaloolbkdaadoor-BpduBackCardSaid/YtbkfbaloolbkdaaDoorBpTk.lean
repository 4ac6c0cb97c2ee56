/- Package bpdu: Take. -/
import Derived.Test.YtbkfbaloolbkdaaDoorBpTake
import Derived.Test.YtbkfbaloolbkdaaDoorTrim
namespace Go.Proofs.YtbkfbaloolbkdaaDoor
open Go.RowKit
set_option linter.unusedVariables false
set_option linter.unusedSimpArgs false
set_option maxRecDepth 100000

def TakeB : Prop := ∀ (w : World) (s : List UInt8), s.length ≤ 8388000 →
    Calls Tryd.prog 12 #[.string ⟨s.toArray⟩] w fun r w' => r = .returned (.tuple #[BV (btakeF s), .int .i64 (btakeE s)]) ∧ Below w.heap.size w w'
theorem btake_short {s : List UInt8} (h : s.length < 42) : btakeE s = 3 ∧ btakeF s = Bp.zero := by
  have : btakeE s = 3 := by unfold btakeE; rw [if_pos h]
  exact ⟨this, by unfold btakeF; rw [this]; rfl⟩
theorem btake_bad {s : List UInt8} (h : 42 ≤ s.length) (hg : bgood s = false) : btakeE s = 4 ∧ btakeF s = Bp.zero := by
  have : btakeE s = 4 := by unfold btakeE; rw [if_neg (by omega), hg]; rfl
  exact ⟨this, by unfold btakeF; rw [this]; rfl⟩
theorem btake_ok {s : List UInt8} (h : 42 ≤ s.length) (hg : bgood s = true) : btakeE s = 0 ∧ btakeF s = bof s := by
  have : btakeE s = 0 := by unfold btakeE; rw [if_neg (by omega), hg]; rfl
  exact ⟨this, by unfold btakeF; rw [this]; rfl⟩
set_option maxHeartbeats 2000000 in
theorem btake_impl : TakeB := by
  intro W s hs
  have HB0 := Lib.hid ((Below.refl W.heap.size W).alloc (Nat.le_refl _) (.cells #[.int .u64 0, .int .u32 0, .int .u64 0, .int .u8 0, .int .u8 0, .int .u64 0, .int .u8 0, .bool false, .bool false, .bool false, .int .u64 0] 33))
  have HF0 := Lib.hid (BpA.zero 33 W)
  by_cases hl : s.length < 42
  · have HE := Lib.hid (btake_short hl).1
    have HF := Lib.hid (btake_short hl).2
    have hb : decide ((s.length : Int) < 42) = true := by simp; omega
    go_enter Tryd.func12, Tryd.ntmps12
    go_wp2_with (refine store_bp rfl 2 10 rfl W.heap.size Bp.zero Bp.zero rfl rfl HF0.out ?_)
    exact bodyPost_ret (v := .tuple #[BV Bp.zero, .int .i64 3]) (results_cell_slot (p := 2) (q := 3) (by kernel_rfl) _ _ W.heap.size 33 _ _ rfl (Blk.row HF0.out _) Tryd.underlying33 rfl (by kernel_rfl) _ rfl) rfl ⟨by rw [HE.out, HF.out], below_row HB0.out (Nat.le_refl _) _⟩
  have hb : decide ((s.length : Int) < 42) = false := by simp; omega
  have HL := Lib.hid (show 42 ≤ s.length by omega)
  have HS := Lib.hid hs
  clear hl hs
  go_enter Tryd.func12, Tryd.ntmps12
  go_wp2_with fail
  refine (of_any s).mono ?_
  rintro r w1 ⟨rfl, hr1, hb1⟩
  have HF1 := Lib.hid (HF0.out.next hb1)
  have HB1 : Hid (Below W.heap.size W w1) := Lib.hid (HB0.out.trans (hb1.mono (by simp only [World.size_alloc]; omega)))
  simp only [World.size_alloc] at hr1
  clear hb1 HF0 HB0 hb
  go_wp2_with fail
  refine (readb_any HL.out hr1).mono ?_
  rintro r w2 ⟨x, l', e, rfl, hr2, hc2, hgood, hbad⟩
  have hz1 : W.heap.size < w1.heap.size := HF1.out.lt
  have HZ2 : Hid (BpA 33 w2 W.heap.size Bp.zero) := Lib.hid (Blk.chg HF1.out hc2 (by unfold only; omega))
  have HB2 := Lib.hid (HB1.out.trans (hc2.below (B := W.heap.size) HB1.out.size (by unfold only; intro k hk hk'; omega)))
  have HR2 := Lib.hid hr2
  have HG := Lib.hid hgood
  have HD := Lib.hid hbad
  have hz2 : W.heap.size < w2.heap.size := HZ2.out.lt
  have hbl : W.heap.size + 1 < w2.heap.size := HR2.out.lt
  have HLT := Lib.hid hz2
  have HLB := Lib.hid hbl
  clear hr1 hc2 HF1 HB1 hr2 hgood hbad hz1
  obtain ⟨wx, hwx⟩ : ∃ wx, w2.alloc (.cells #[.int .u64 x.v.r, .int .u32 x.v.c, .int .u64 x.v.b, .int .u8 x.v.p, .int .u8 x.h, .int .u64 x.ver, .int .u8 x.role, .bool x.pr, .bool x.ag, .bool x.tp, .int .u64 x.ec] 33) = wx := ⟨_, rfl⟩
  obtain ⟨g, hg⟩ : ∃ g, w2.heap.size = g := ⟨_, rfl⟩
  have HX3 : Hid (BpA 33 wx g x) := Lib.hid (by rw [← hwx, ← hg]; exact BpA.new _ _ _)
  have HZ3 : Hid (BpA 33 wx W.heap.size Bp.zero) := Lib.hid (by rw [← hwx]; exact BpA.alloc HZ2.out _)
  have HR3 : Hid (Rdr wx (W.heap.size + 1) l' e) := Lib.hid (by rw [← hwx]; exact Blk.alloc HR2.out _)
  have HB3 : Hid (Below W.heap.size W wx) := Lib.hid (by rw [← hwx]; exact HB2.out.alloc HB2.out.size _)
  clear hz2 hbl HZ2 HR2 HB2
  go_upto_region 5 with (fail)
  try rw [hwx]
  try rw [hg]
  clear hwx
  go_wp2_with (refine load_bp 5 rfl (by kernel_rfl) g x rfl HX3.out ?_)
  refine (bmay_any _ x).mono ?_
  obtain ⟨q, hq⟩ : ∃ q, bmay x = q := ⟨_, rfl⟩
  rw [hq]
  have HQ := Lib.hid hq
  clear hq
  rintro r w4 ⟨rfl, hb4⟩
  have HX4 := Lib.hid (HX3.out.next hb4)
  have HZ4 := Lib.hid (HZ3.out.next hb4)
  have HR4 : Hid (Rdr w4 (W.heap.size + 1) l' e) := Lib.hid (Blk.below HR3.out hb4 (Blk.lt HR3.out))
  have HB4 : Hid (Below W.heap.size W w4) := Lib.hid (HB3.out.trans (hb4.mono HB3.out.size))
  clear hb4 HX3 HZ3 HR3 HB3
  have he04 : Hid (bdE e = 4) := Lib.hid (by
    cases hh : bhead s
    · rw [HD.out hh]; rfl
    · rw [(HG.out hh).2.2]; rfl)
  cases q
  · -- the word may not be
    have hgs : bgood s = false := by
      unfold bgood
      cases hh : bhead s
      · rfl
      · rw [← (HG.out hh).1, HQ.out]; rfl
    have HE := Lib.hid (btake_bad HL.out hgs).1
    have HF := Lib.hid (btake_bad HL.out hgs).2
    clear hgs
    go_wp2_with fail
    refine (bad_any HR4.out).mono ?_
    rw [he04.out]
    rintro r w5 ⟨rfl, hr5, hc5⟩
    have HZ : Hid (BpA 33 w5 W.heap.size Bp.zero) := Lib.hid (Blk.chg HZ4.out hc5 (by unfold only; omega))
    have HB := Lib.hid (HB4.out.trans (hc5.below (B := W.heap.size) HB4.out.size (by unfold only; intro k hk hk'; omega)))
    have HR5 := Lib.hid hr5
    clear hr5 hc5 HX4 HZ4 HR4 HB4
    go_wp2_with fail
    refine (err_any HR5.out).mono ?_
    rintro r w6 ⟨rfl, rfl⟩
    go_wp2_with (refine store_bp rfl 2 30 rfl W.heap.size Bp.zero Bp.zero rfl rfl HZ.out ?_)
    exact bodyPost_ret (v := .tuple #[BV Bp.zero, .int .i64 4]) (results_cell_slot (p := 2) (q := 3) (by kernel_rfl) _ _ W.heap.size 33 _ _ rfl (Blk.row HZ.out _) Tryd.underlying33 rfl (by kernel_rfl) _ rfl) rfl ⟨by rw [HE.out, HF.out], below_row HB.out (Nat.le_refl _) _⟩
  · go_wp2_with fail
    refine (rest_any HR4.out).mono ?_
    obtain ⟨t, ht⟩ : ∃ t, tkV l'.length l' e = t := ⟨_, rfl⟩
    rw [ht]
    rintro r w5 ⟨rfl, hr5, hc5⟩
    have HX5 : Hid (BpA 33 w5 g x) := Lib.hid (Blk.chg HX4.out hc5 (by unfold only; have := HLB.out; omega))
    have HZ5 : Hid (BpA 33 w5 W.heap.size Bp.zero) := Lib.hid (Blk.chg HZ4.out hc5 (by unfold only; omega))
    have HB5 := Lib.hid (HB4.out.trans (hc5.below (B := W.heap.size) HB4.out.size (by unfold only; intro k hk hk'; omega)))
    have HR5 := Lib.hid hr5
    clear hr5 hc5 HX4 HZ4 HR4 HB4
    have htt : (bhead s = true → t = s.drop 42) ∧ (bhead s = false → t = []) := by
      refine ⟨fun hh => ?_, fun hh => ?_⟩
      · rw [← ht, (HG.out hh).2.2, (tkb_ok (Nat.le_refl _)).1, (HG.out hh).2.1]
        exact List.take_of_length_le (Nat.le_refl _)
      · rw [← ht, HD.out hh]
        exact (tkb_bad (by decide)).1
    have htl : t.length ≤ 4611686018427387904 := by
      have := HS.out
      cases hh : bhead s
      · rw [htt.2 hh]; simp
      · rw [htt.1 hh]; simp; omega
    have HTT := Lib.hid htt
    clear ht htt
    go_wp2_with fail
    refine (trim_any t htl _).mono ?_
    obtain ⟨m, hm⟩ : ∃ m, trl (trr t) = m := ⟨_, rfl⟩
    have hmz := trim_nil t
    rw [hm] at hmz ⊢
    have HM := Lib.hid hmz
    rintro r w6 ⟨rfl, hb6⟩
    have HX6 := Lib.hid (HX5.out.next hb6)
    have HZ6 := Lib.hid (HZ5.out.next hb6)
    have HR6 : Hid (Rdr w6 (W.heap.size + 1) _ e) := Lib.hid (Blk.below HR5.out hb6 (Blk.lt HR5.out))
    have HB6 : Hid (Below W.heap.size W w6) := Lib.hid (HB5.out.trans (hb6.mono HB5.out.size))
    clear hb6 HX5 HZ5 HR5 HB5 hm hmz htl
    cases m with
    | nil =>
      by_cases he : bhead s = true
      · have hgs : bgood s = true := by
          have h1 := HM.out.1 rfl
          rw [HTT.out.1 he] at h1
          unfold bgood allz
          rw [he, ← (HG.out he).1, HQ.out, h1]
          rfl
        have HE := Lib.hid (btake_ok HL.out hgs).1
        have HF := Lib.hid ((btake_ok HL.out hgs).2.trans (HG.out he).1.symm)
        have he0 := (HG.out he).2.2
        rw [he0] at HR6
        clear hgs he he0
        go_wp2_with fail
        refine (err_any HR6.out).mono ?_
        rintro r w7 ⟨rfl, rfl⟩
        go_wp2_with (first
          | (refine load_bp 5 rfl (by kernel_rfl) g x rfl HX6.out ?_)
          | (refine store_bp rfl 2 32 rfl W.heap.size x Bp.zero rfl rfl HZ6.out ?_))
        exact bodyPost_ret (v := .tuple #[BV x, .int .i64 0]) (results_cell_slot (p := 2) (q := 3) (by kernel_rfl) _ _ W.heap.size 33 _ _ rfl (Blk.row HZ6.out _) Tryd.underlying33 rfl (by kernel_rfl) _ rfl) rfl ⟨by rw [HE.out, HF.out], below_row HB6.out (Nat.le_refl _) _⟩
      · have hh : bhead s = false := by simpa using he
        have hgs : bgood s = false := by unfold bgood; rw [hh]; rfl
        have HE := Lib.hid (btake_bad HL.out hgs).1
        have HF := Lib.hid (btake_bad HL.out hgs).2
        have he0 := HD.out hh
        rw [he0] at HR6
        have HZ := HZ6
        have HB := HB6
        clear hgs he he0 hh
        go_wp2_with fail
        refine (err_any HR6.out).mono ?_
        rintro r w7 ⟨rfl, rfl⟩
        go_wp2_with (refine store_bp rfl 2 30 rfl W.heap.size Bp.zero Bp.zero rfl rfl HZ.out ?_)
        exact bodyPost_ret (v := .tuple #[BV Bp.zero, .int .i64 4]) (results_cell_slot (p := 2) (q := 3) (by kernel_rfl) _ _ W.heap.size 33 _ _ rfl (Blk.row HZ.out _) Tryd.underlying33 rfl (by kernel_rfl) _ rfl) rfl ⟨by rw [HE.out, HF.out], below_row HB.out (Nat.le_refl _) _⟩
    | cons y ys =>
      have hgs : bgood s = false := by
        unfold bgood allz
        cases hh : bhead s
        · rfl
        · have h1 : (s.drop 42).all (· == 0) = false := by
            rw [Bool.eq_false_iff]
            intro h2
            rw [← HTT.out.1 hh] at h2
            exact absurd (HM.out.2 h2) (by simp)
          rw [h1]; simp
      have HE := Lib.hid (btake_bad HL.out hgs).1
      have HF := Lib.hid (btake_bad HL.out hgs).2
      clear hgs
      go_wp2_with fail
      refine (bad_any HR6.out).mono ?_
      rw [he04.out]
      rintro r w7 ⟨rfl, hr7, hc7⟩
      have HZ : Hid (BpA 33 w7 W.heap.size Bp.zero) := Lib.hid (Blk.chg HZ6.out hc7 (by unfold only; omega))
      have HB := Lib.hid (HB6.out.trans (hc7.below (B := W.heap.size) HB6.out.size (by unfold only; intro k hk hk'; omega)))
      have HR7 := Lib.hid hr7
      clear hr7 hc7 HX6 HZ6 HR6 HB6
      go_wp2_with fail
      refine (err_any HR7.out).mono ?_
      rintro r w8 ⟨rfl, rfl⟩
      go_wp2_with (refine store_bp rfl 2 30 rfl W.heap.size Bp.zero Bp.zero rfl rfl HZ.out ?_)
      exact bodyPost_ret (v := .tuple #[BV Bp.zero, .int .i64 4]) (results_cell_slot (p := 2) (q := 3) (by kernel_rfl) _ _ W.heap.size 33 _ _ rfl (Blk.row HZ.out _) Tryd.underlying33 rfl (by kernel_rfl) _ rfl) rfl ⟨by rw [HE.out, HF.out], below_row HB.out (Nat.le_refl _) _⟩
end Go.Proofs.YtbkfbaloolbkdaaDoor
