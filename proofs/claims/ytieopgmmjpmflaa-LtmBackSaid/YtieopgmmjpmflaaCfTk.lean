/- package cfm: Of, Take. -/
import Derived.Test.YtieopgmmjpmflaaCf
import Derived.StillTailTactics
namespace Go.Proofs.Ytieopgmmjpmflaa
open Go.RowKit
set_option linter.unusedVariables false
set_option linter.unusedSimpArgs false
set_option maxRecDepth 100000

/-- the head of a frame's data, if the frame is one of fault management -/
def ofD (f : Fr) : List UInt8 := if f.ty = 0x8902 then f.data else []
/-- Take's memory: the result's block, the reader -/
structure CfS (W : World) (g b : Nat) (L : List UInt8) (er : Int) (w : World) : Prop where
  res : Blk w g 31 #[.int .u8 0, .int .u8 0, .int .u8 0, .string ⟨#[]⟩, .slice none 0 0]
  ne : g ≠ b
  ge : W.heap.size ≤ g ∧ W.heap.size ≤ b
  rdr : Rdr w b L er
  below : Below W.heap.size W w
theorem CfS.call {W w w' : World} {g b : Nat} {L L' : List UInt8} {er er' : Int} (h : CfS W g b L er w) (hr : Rdr w' b L' er') (hc : Chg (only b) w w') : CfS W g b L' er' w' := by
  obtain ⟨h1, h2, ⟨h3, h4⟩, h5, h6⟩ := h
  exact ⟨h1.chg hc h2, h2, ⟨h3, h4⟩, hr, h6.trans (Chg.below (hc.mono (S' := only b) (fun _ _ h => h)) h6.size (fun k hk hs => by unfold only at hs; omega))⟩
theorem CfS.next {W w w' : World} {g b : Nat} {L : List UInt8} {er : Int} (h : CfS W g b L er w) (hb : Below w.heap.size w w') : CfS W g b L er w' := by
  obtain ⟨h1, h2, h3, h5, h6⟩ := h
  exact ⟨h1.below hb h1.lt, h2, h3, Blk.below h5 hb (Blk.lt h5), h6.trans (hb.mono h6.size)⟩
theorem u8r_any {w : World} {b : Nat} {l : List UInt8} {er : Int} (h : Rdr w b l er) :
    Calls Try.prog 29 #[.pointer (some ⟨b, 0, none⟩)] w fun e w' => ∃ x : UInt8, num (tkV 1 l er) = x.toNat ∧ e = .returned (.int .u8 x.toNat) ∧ Rdr w' b (tkL 1 l er) (tkE 1 l er) ∧ Chg (only b) w w' := by
  have hlt : num (tkV 1 l er) < 256 := Nat.lt_of_lt_of_le (num_lt _) (Nat.pow_le_pow_right (by omega) (tkV_len 1 l er))
  refine (u8_any h).mono ?_
  rintro e w' ⟨rfl, hr, hc⟩
  have e1 : (UInt8.ofNat (num (tkV 1 l er))).toNat = num (tkV 1 l er) := by simp; omega
  exact ⟨UInt8.ofNat (num (tkV 1 l er)), e1.symm, by rw [e1], hr, hc⟩
theorem tkL_len (n : Nat) (l : List UInt8) (er : Int) : (tkL n l er).length ≤ l.length := by
  unfold tkL
  split
  · simp
  · exact Nat.le_refl _
theorem tkV_len2 (n : Nat) (l : List UInt8) (er : Int) : (tkV n l er).length ≤ l.length := by
  unfold tkV
  split
  · simp; omega
  · simp
/-- a list in memory is still there when a block of another type is stored -/
theorem els_row {w : World} {A : Option Addr} {l : List Tl} {g : Nat} {t : TypeId} {cs cs' : Array Value} (h : Els 2 tlV w A l) (hg : Blk w g t cs) (hd : True) (hA : ∀ a, A = some a → a.block ≠ g) : Els 2 tlV (w.setRow g cs') A l := by
  intro h0
  obtain ⟨b, off, e, hlt, hc⟩ := h h0
  refine ⟨b, off, e, by simpa using hlt, fun i hi j v hv => ?_⟩
  rw [World.cell?_of_block (w := w) (a := ⟨b, off + i * 2 + j, none⟩) (setRow_other w g b cs' (hA _ e))]
  exact hc i hi j v hv
set_option maxHeartbeats 4000000 in
theorem cftake_any (s : List UInt8) (w : World) (hs : s.length ≤ 1000000) :
    Calls Try.prog 15 #[.string ⟨s.toArray⟩] w fun e w' => ∃ A c, e = .returned (.tuple #[PdV (cfX s) A c, .int .i64 (cfE s : Nat)]) ∧ Els 2 tlV w' A (cfX s).t ∧ (A = none → c = 0) ∧ Below w.heap.size w w' := by
  have HLS := Lib.hid hs
  obtain ⟨w0, hw0⟩ : ∃ w0, w.alloc (.cells #[.int .u8 0, .int .u8 0, .int .u8 0, .string ⟨#[]⟩, .slice none 0 0] 31) = w0 := ⟨_, rfl⟩
  have HK0 : Hid (Blk w0 w.heap.size 31 #[.int .u8 0, .int .u8 0, .int .u8 0, .string ⟨#[]⟩, .slice none 0 0]) := Lib.hid (by rw [← hw0]; exact Blk.new w _ _)
  have HB0 : Hid (Below w.heap.size w w0) := Lib.hid (by rw [← hw0]; exact (Below.refl _ _).alloc (Nat.le_refl _) _)
  have HW0 := Lib.hid hw0
  clear hs hw0
  go_enter Try.func15, Try.ntmps15
  go_wp2_with fail
  rw [HW0.out]
  refine (of_any s).mono ?_
  rintro e w1 ⟨rfl, hr1, hb1⟩
  obtain ⟨b, hb⟩ : ∃ b, w0.heap.size = b := ⟨_, rfl⟩
  obtain ⟨g, hg⟩ : ∃ g, w.heap.size = g := ⟨_, rfl⟩
  have HS1 : Hid (CfS w g b s 0 w1) := Lib.hid (by
    have h1 := HK0.out
    have h2 := h1.lt
    have h3 := HB0.out.size
    rw [hb] at hr1
    rw [← hg]
    exact ⟨h1.below hb1 h2, by omega, ⟨Nat.le_refl _, by omega⟩, hr1, HB0.out.trans (hb1.mono h3)⟩)
  rw [hb, hg]
  have HG := Lib.hid hg
  clear hr1 hb1 HK0 HB0 HW0 hb hg
  go_wp2_with fail
  refine (u8r_any HS1.out.rdr).mono ?_
  rintro e w2 ⟨a, hv, rfl, hr, hc⟩
  have HS2 := Lib.hid (HS1.out.call hr hc)
  have V1 := Lib.hid hv
  clear hr hc HS1 hv
  obtain ⟨l1, hl⟩ : ∃ l, tkL 1 s 0 = l := ⟨_, rfl⟩
  obtain ⟨e1, he⟩ : ∃ e, tkE 1 s 0 = e := ⟨_, rfl⟩
  rw [hl, he] at HS2
  have L1 := Lib.hid hl
  have E1 := Lib.hid he
  clear hl he
  go_wp2_with fail
  refine (u8r_any HS2.out.rdr).mono ?_
  rintro e w3 ⟨b_, hv, rfl, hr, hc⟩
  have HS3 := Lib.hid (HS2.out.call hr hc)
  have V2 := Lib.hid hv
  clear hr hc HS2 hv
  obtain ⟨l2, hl⟩ : ∃ l, tkL 1 l1 e1 = l := ⟨_, rfl⟩
  obtain ⟨e2, he⟩ : ∃ e, tkE 1 l1 e1 = e := ⟨_, rfl⟩
  rw [hl, he] at HS3
  have L2 := Lib.hid hl
  have E2 := Lib.hid he
  clear hl he
  go_wp2_with fail
  refine (u8r_any HS3.out.rdr).mono ?_
  rintro e w4 ⟨c, hv, rfl, hr, hc⟩
  have HS4 := Lib.hid (HS3.out.call hr hc)
  have V3 := Lib.hid hv
  clear hr hc HS3 hv
  obtain ⟨l3, hl⟩ : ∃ l, tkL 1 l2 e2 = l := ⟨_, rfl⟩
  obtain ⟨e3, he⟩ : ∃ e, tkE 1 l2 e2 = e := ⟨_, rfl⟩
  rw [hl, he] at HS4
  have L3 := Lib.hid hl
  have E3 := Lib.hid he
  clear hl he
  go_wp2_with fail
  refine (u8r_any HS4.out.rdr).mono ?_
  rintro e w5 ⟨d, hv, rfl, hr, hc⟩
  have HS5 := Lib.hid (HS4.out.call hr hc)
  have V4 := Lib.hid hv
  clear hr hc HS4 hv
  obtain ⟨l4, hl⟩ : ∃ l, tkL 1 l3 e3 = l := ⟨_, rfl⟩
  obtain ⟨e4, he⟩ : ∃ e, tkE 1 l3 e3 = e := ⟨_, rfl⟩
  rw [hl, he] at HS5
  have L4 := Lib.hid hl
  have E4 := Lib.hid he
  clear hl he
  by_cases hq : a.toNat % 32 = 0
  · have q1 : ((a.toNat : Int) % 32 != 0) = false := by rw [show ((a.toNat : Int) % 32) = ((a.toNat % 32 : Nat) : Int) from rfl, hq]; rfl
    have q2 : (Int.tmod (a.toNat : Int) 32 != 0) = false := by rw [show Int.tmod (a.toNat : Int) 32 = ((a.toNat % 32 : Nat) : Int) from rfl, hq]; rfl
    have HQ0 := Lib.hid hq
    obtain ⟨y, hy⟩ : ∃ y, a / 32 = y := ⟨_, rfl⟩
    have HY := Lib.hid hy
    have hdv : IntKind.u8.wrap (Int.tdiv (a.toNat : Int) 32) = (y.toNat : Int) := by
      rw [← hy, u8_div32]
      have := a.toNat_lt
      simp [IntKind.wrap, IntKind.signed, IntKind.bits]
      omega
    have hdv2 : (Int.tdiv (a.toNat : Int) 32) = (y.toNat : Int) := by rw [← hy, u8_div32]; rfl
    have hdv3 : ((a.toNat : Int) / 32) = (y.toNat : Int) := by rw [← hy, u8_div32]; rfl
    have hy256 : (y.toNat : Int) % 256 = (y.toNat : Int) := by have := y.toNat_lt; omega
    clear hy
    have hw64 : wrap64 (d.toNat : Int) = (d.toNat : Int) := by have := d.toNat_lt; unfold wrap64; omega
    clear hq
    go_wp2_with fail
    refine (text_any _ HS5.out.rdr).mono ?_
    rw [hw64, Int.toNat_natCast]
    rintro e w7 ⟨rfl, hr, hc⟩
    have HS7 := Lib.hid (HS5.out.call hr hc)
    clear hr hc HS5
    obtain ⟨x5, hx⟩ : ∃ x, tkV d.toNat l4 e4 = x := ⟨_, rfl⟩
    obtain ⟨l5, hl⟩ : ∃ l, tkL d.toNat l4 e4 = l := ⟨_, rfl⟩
    obtain ⟨e6, he⟩ : ∃ e, tkE d.toNat l4 e4 = e := ⟨_, rfl⟩
    rw [hl, he] at HS7
    rw [hx]
    have X5 := Lib.hid hx
    have L5 := Lib.hid hl
    have E6 := Lib.hid he
    clear hl he hx
    go_wp2_with fail
    refine (rest_any HS7.out.rdr).mono ?_
    rintro e w8 ⟨rfl, hr, hc⟩
    have HS8 := Lib.hid (HS7.out.call hr hc)
    clear hr hc HS7
    obtain ⟨x6, hx⟩ : ∃ x, tkV l5.length l5 e6 = x := ⟨_, rfl⟩
    rw [hx]
    have X6 := Lib.hid hx
    have HX6 : Hid (x6.length ≤ 1000000) := Lib.hid (by
      rw [← hx, ← L5.out, ← L4.out, ← L3.out, ← L2.out, ← L1.out]
      exact Nat.le_trans (tkV_len2 _ _ _) (Nat.le_trans (tkL_len _ _ _) (Nat.le_trans (tkL_len _ _ _) (Nat.le_trans (tkL_len _ _ _) (Nat.le_trans (tkL_len _ _ _) (Nat.le_trans (tkL_len _ _ _) HLS.out))))))
    have HC := Lib.hid (cf_read s rfl L1.out E1.out rfl L2.out E2.out rfl L3.out E3.out rfl L4.out E4.out (e5 := e4) (x5 := x5) (l5 := l5) (e6 := e6) (x6 := x6) (by rw [V1.out]; exact (if_pos HQ0.out)) (by rw [V4.out]; exact X5.out) (by rw [V4.out]; exact L5.out) (by rw [V4.out]; exact E6.out) X6.out)
    clear hx
    have HT := Lib.hid (fun w => tltake_own x6 w HX6.out)
    obtain ⟨nx, hnx⟩ : ∃ n, (tkX x6).length = n := ⟨_, rfl⟩
    obtain ⟨ex, hex⟩ : ∃ n, tkErr x6 = n := ⟨_, rfl⟩
    rw [hnx, hex] at HT
    rw [hex] at HC
    have HNX := Lib.hid hnx
    clear hnx hex
    go_wp2_with fail
    refine (HT.out _).mono ?_
    rintro e w9 ⟨A, cc, rfl, hE, hA, hb9, hO⟩
    have HO : Hid (∀ a, A = some a → a.block ≠ g) := Lib.hid (fun a h => by have := hO a h; have := HS8.out.res.lt; omega)
    have HS9 := Lib.hid (HS8.out.next hb9)
    have HE9 := Lib.hid (And.intro hE hA)
    clear hE hA hb9 HS8 HT hO
    go_wp2_with fail
    refine (err_any HS9.out.rdr).mono ?_
    rintro e w10 ⟨rfl, rfl⟩
    have HFR : Hid (frst [e6, (ex : Int)] = (cfE s : Nat)) := Lib.hid (by
      obtain ⟨_, _, _, _, _, _, h, _⟩ := HC.out
      rw [← h]
      by_cases h1 : e6 = 0
      · rw [if_pos h1]
        by_cases h2 : (ex : Int) = 0
        · simp [frst, h1, h2]
        · simp [frst, h1, h2]; omega
      · rw [if_neg h1]; simp [frst, h1])
    have HI := Lib.hid (ins_new w9 32 [e6, (ex : Int)] _ rfl)
    have HF3 := Lib.hid (fun w h => first_any (some ⟨w9.heap.size, 0, none⟩) 2 [e6, (ex : Int)] w h (by simp))
    rw [HFR.out] at HF3
    obtain ⟨EE, hEE⟩ : ∃ E, cfE s = E := ⟨_, rfl⟩
    have HEE := Lib.hid hEE
    rw [hEE] at HF3
    clear hEE
    go_wp2_with fail
    refine (HF3.out _ ?_).mono ?_
    · exact HI.out
    rintro r w11 ⟨rfl, hw11⟩
    have HSB : Hid (CfS w g b (tkL l5.length l5 e6) e6 w11) := Lib.hid (by rw [← hw11]; exact HS9.out.next ((Below.refl _ _).alloc (Nat.le_refl _) _))
    have HEB : Hid (Els 2 tlV w11 A (tkX x6)) := Lib.hid (by rw [← hw11]; exact HE9.out.1.next ((Below.refl _ _).alloc (Nat.le_refl _) _))
    have HRB := Lib.hid HSB.out.res
    clear hw11 HI HF3 HS9 HFR
    by_cases hz : EE = 0
    · subst hz
      obtain ⟨a', b', c', h1, h2, h3, _, h5⟩ := HC.out
      have ea : a' = a := UInt8.toNat_inj.1 (h1.symm.trans V1.out)
      have eb : b' = b_ := UInt8.toNat_inj.1 (h2.symm.trans V2.out)
      have ec : c' = c := UInt8.toNat_inj.1 (h3.symm.trans V3.out)
      subst ea eb ec
      have HQ0' := h5 HEE.out
      rw [HY.out] at HQ0'
      have HQ := Lib.hid HQ0'
      clear h1 h2 h3 h5 HC HQ0'
      go_wp2_with (refine wpList_store_row rfl 31 (.tmp 2) (.tmp 55) rfl g rfl _ rfl 31 _ HRB.out (by kernel_rfl) rfl (by kernel_rfl) ?_)
      refine bodyPost_ret (v := .tuple #[.agg #[.int .u8 y.toNat, .int .u8 b'.toNat, .int .u8 c'.toNat, .string ⟨x5.toArray⟩, .slice A nx cc], .int .i64 0]) (results_cell_slot (p := 2) (q := 3) (by kernel_rfl) _ _ g 31 _ _ rfl (Blk.row HRB.out _) Try.underlying31 rfl (by kernel_rfl) _ rfl) rfl ?_
      refine ⟨A, cc, ?_, ?_, HE9.out.2, ?_⟩
      · rw [HQ.out, HEE.out]
        show _ = Ending.returned (.tuple #[.agg #[.int .u8 y.toNat, .int .u8 b'.toNat, .int .u8 c'.toNat, .string ⟨x5.toArray⟩, .slice A (tkX x6).length cc], .int .i64 0])
        rw [HNX.out]
      · rw [HQ.out]
        exact els_row HEB.out HRB.out trivial HO.out
      · exact below_row HSB.out.below (by have := HSB.out.ge; omega) _
    · have e0 : ((EE : Int) != 0) = true := by simpa using hz
      have HQ : Hid (cfX s = pd0) := Lib.hid (by unfold cfX; rw [HEE.out, if_neg hz])
      clear hz HC
      go_wp2_with (refine wpList_store_row rfl 31 (.tmp 2) (.tmp 47) rfl g rfl _ rfl 31 _ HRB.out (by kernel_rfl) rfl (by kernel_rfl) ?_)
      refine bodyPost_ret (v := .tuple #[.agg #[.int .u8 0, .int .u8 0, .int .u8 0, .string ⟨#[]⟩, .slice none 0 0], .int .i64 EE]) (results_cell_slot (p := 2) (q := 3) (by kernel_rfl) _ _ g 31 _ _ rfl (Blk.row HRB.out _) Try.underlying31 rfl (by kernel_rfl) _ rfl) rfl ?_
      refine ⟨none, 0, ?_, ?_, fun _ => rfl, ?_⟩
      · rw [HQ.out, HEE.out]; rfl
      · rw [HQ.out]; exact els_nilL _ _
      · exact below_row HSB.out.below (by have := HSB.out.ge; omega) _
  · have q0 : ((a.toNat % 32 : Nat) : Int) ≠ 0 := by omega
    have q1 : ((a.toNat : Int) % 32 != 0) = true := by rw [show ((a.toNat : Int) % 32) = ((a.toNat % 32 : Nat) : Int) from rfl]; simpa using q0
    have q2 : (Int.tmod (a.toNat : Int) 32 != 0) = true := by rw [show Int.tmod (a.toNat : Int) 32 = ((a.toNat % 32 : Nat) : Int) from rfl]; simpa using q0
    have HQ0 := Lib.hid hq
    obtain ⟨y, hy⟩ : ∃ y, a / 32 = y := ⟨_, rfl⟩
    have HY := Lib.hid hy
    have hdv : IntKind.u8.wrap (Int.tdiv (a.toNat : Int) 32) = (y.toNat : Int) := by
      rw [← hy, u8_div32]
      have := a.toNat_lt
      simp [IntKind.wrap, IntKind.signed, IntKind.bits]
      omega
    have hdv2 : (Int.tdiv (a.toNat : Int) 32) = (y.toNat : Int) := by rw [← hy, u8_div32]; rfl
    have hdv3 : ((a.toNat : Int) / 32) = (y.toNat : Int) := by rw [← hy, u8_div32]; rfl
    have hy256 : (y.toNat : Int) % 256 = (y.toNat : Int) := by have := y.toNat_lt; omega
    clear hy
    have hw64 : wrap64 (d.toNat : Int) = (d.toNat : Int) := by have := d.toNat_lt; unfold wrap64; omega
    clear hq q0
    go_wp2_with fail
    refine (bad_any HS5.out.rdr).mono ?_
    rintro e w6 ⟨rfl, hr, hc⟩
    have HS6 := Lib.hid (HS5.out.call hr hc)
    clear hr hc HS5
    obtain ⟨e5, he5⟩ : ∃ e, bdE e4 = e := ⟨_, rfl⟩
    rw [he5] at HS6
    have HE5 := Lib.hid he5
    clear he5
    go_wp2_with fail
    refine (text_any _ HS6.out.rdr).mono ?_
    rw [hw64, Int.toNat_natCast]
    rintro e w7 ⟨rfl, hr, hc⟩
    have HS7 := Lib.hid (HS6.out.call hr hc)
    clear hr hc HS6
    obtain ⟨x5, hx⟩ : ∃ x, tkV d.toNat l4 e5 = x := ⟨_, rfl⟩
    obtain ⟨l5, hl⟩ : ∃ l, tkL d.toNat l4 e5 = l := ⟨_, rfl⟩
    obtain ⟨e6, he⟩ : ∃ e, tkE d.toNat l4 e5 = e := ⟨_, rfl⟩
    rw [hl, he] at HS7
    rw [hx]
    have X5 := Lib.hid hx
    have L5 := Lib.hid hl
    have E6 := Lib.hid he
    clear hl he hx
    go_wp2_with fail
    refine (rest_any HS7.out.rdr).mono ?_
    rintro e w8 ⟨rfl, hr, hc⟩
    have HS8 := Lib.hid (HS7.out.call hr hc)
    clear hr hc HS7
    obtain ⟨x6, hx⟩ : ∃ x, tkV l5.length l5 e6 = x := ⟨_, rfl⟩
    rw [hx]
    have X6 := Lib.hid hx
    have HX6 : Hid (x6.length ≤ 1000000) := Lib.hid (by
      rw [← hx, ← L5.out, ← L4.out, ← L3.out, ← L2.out, ← L1.out]
      exact Nat.le_trans (tkV_len2 _ _ _) (Nat.le_trans (tkL_len _ _ _) (Nat.le_trans (tkL_len _ _ _) (Nat.le_trans (tkL_len _ _ _) (Nat.le_trans (tkL_len _ _ _) (Nat.le_trans (tkL_len _ _ _) HLS.out))))))
    have HC := Lib.hid (cf_read s rfl L1.out E1.out rfl L2.out E2.out rfl L3.out E3.out rfl L4.out E4.out (e5 := e5) (x5 := x5) (l5 := l5) (e6 := e6) (x6 := x6) (by rw [V1.out]; exact ((if_neg HQ0.out).trans HE5.out)) (by rw [V4.out]; exact X5.out) (by rw [V4.out]; exact L5.out) (by rw [V4.out]; exact E6.out) X6.out)
    clear hx
    have HT := Lib.hid (fun w => tltake_own x6 w HX6.out)
    obtain ⟨nx, hnx⟩ : ∃ n, (tkX x6).length = n := ⟨_, rfl⟩
    obtain ⟨ex, hex⟩ : ∃ n, tkErr x6 = n := ⟨_, rfl⟩
    rw [hnx, hex] at HT
    rw [hex] at HC
    have HNX := Lib.hid hnx
    clear hnx hex
    go_wp2_with fail
    refine (HT.out _).mono ?_
    rintro e w9 ⟨A, cc, rfl, hE, hA, hb9, hO⟩
    have HO : Hid (∀ a, A = some a → a.block ≠ g) := Lib.hid (fun a h => by have := hO a h; have := HS8.out.res.lt; omega)
    have HS9 := Lib.hid (HS8.out.next hb9)
    have HE9 := Lib.hid (And.intro hE hA)
    clear hE hA hb9 HS8 HT hO
    go_wp2_with fail
    refine (err_any HS9.out.rdr).mono ?_
    rintro e w10 ⟨rfl, rfl⟩
    have HFR : Hid (frst [e6, (ex : Int)] = (cfE s : Nat)) := Lib.hid (by
      obtain ⟨_, _, _, _, _, _, h, _⟩ := HC.out
      rw [← h]
      by_cases h1 : e6 = 0
      · rw [if_pos h1]
        by_cases h2 : (ex : Int) = 0
        · simp [frst, h1, h2]
        · simp [frst, h1, h2]; omega
      · rw [if_neg h1]; simp [frst, h1])
    have HI := Lib.hid (ins_new w9 32 [e6, (ex : Int)] _ rfl)
    have HF3 := Lib.hid (fun w h => first_any (some ⟨w9.heap.size, 0, none⟩) 2 [e6, (ex : Int)] w h (by simp))
    rw [HFR.out] at HF3
    obtain ⟨EE, hEE⟩ : ∃ E, cfE s = E := ⟨_, rfl⟩
    have HEE := Lib.hid hEE
    rw [hEE] at HF3
    clear hEE
    go_wp2_with fail
    refine (HF3.out _ ?_).mono ?_
    · exact HI.out
    rintro r w11 ⟨rfl, hw11⟩
    have HSB : Hid (CfS w g b (tkL l5.length l5 e6) e6 w11) := Lib.hid (by rw [← hw11]; exact HS9.out.next ((Below.refl _ _).alloc (Nat.le_refl _) _))
    have HEB : Hid (Els 2 tlV w11 A (tkX x6)) := Lib.hid (by rw [← hw11]; exact HE9.out.1.next ((Below.refl _ _).alloc (Nat.le_refl _) _))
    have HRB := Lib.hid HSB.out.res
    clear hw11 HI HF3 HS9 HFR
    by_cases hz : EE = 0
    · subst hz
      obtain ⟨a', b', c', h1, h2, h3, _, h5⟩ := HC.out
      have ea : a' = a := UInt8.toNat_inj.1 (h1.symm.trans V1.out)
      have eb : b' = b_ := UInt8.toNat_inj.1 (h2.symm.trans V2.out)
      have ec : c' = c := UInt8.toNat_inj.1 (h3.symm.trans V3.out)
      subst ea eb ec
      have HQ0' := h5 HEE.out
      rw [HY.out] at HQ0'
      have HQ := Lib.hid HQ0'
      clear h1 h2 h3 h5 HC HQ0'
      go_wp2_with (refine wpList_store_row rfl 31 (.tmp 2) (.tmp 55) rfl g rfl _ rfl 31 _ HRB.out (by kernel_rfl) rfl (by kernel_rfl) ?_)
      refine bodyPost_ret (v := .tuple #[.agg #[.int .u8 y.toNat, .int .u8 b'.toNat, .int .u8 c'.toNat, .string ⟨x5.toArray⟩, .slice A nx cc], .int .i64 0]) (results_cell_slot (p := 2) (q := 3) (by kernel_rfl) _ _ g 31 _ _ rfl (Blk.row HRB.out _) Try.underlying31 rfl (by kernel_rfl) _ rfl) rfl ?_
      refine ⟨A, cc, ?_, ?_, HE9.out.2, ?_⟩
      · rw [HQ.out, HEE.out]
        show _ = Ending.returned (.tuple #[.agg #[.int .u8 y.toNat, .int .u8 b'.toNat, .int .u8 c'.toNat, .string ⟨x5.toArray⟩, .slice A (tkX x6).length cc], .int .i64 0])
        rw [HNX.out]
      · rw [HQ.out]
        exact els_row HEB.out HRB.out trivial HO.out
      · exact below_row HSB.out.below (by have := HSB.out.ge; omega) _
    · have e0 : ((EE : Int) != 0) = true := by simpa using hz
      have HQ : Hid (cfX s = pd0) := Lib.hid (by unfold cfX; rw [HEE.out, if_neg hz])
      clear hz HC
      go_wp2_with (refine wpList_store_row rfl 31 (.tmp 2) (.tmp 47) rfl g rfl _ rfl 31 _ HRB.out (by kernel_rfl) rfl (by kernel_rfl) ?_)
      refine bodyPost_ret (v := .tuple #[.agg #[.int .u8 0, .int .u8 0, .int .u8 0, .string ⟨#[]⟩, .slice none 0 0], .int .i64 EE]) (results_cell_slot (p := 2) (q := 3) (by kernel_rfl) _ _ g 31 _ _ rfl (Blk.row HRB.out _) Try.underlying31 rfl (by kernel_rfl) _ rfl) rfl ?_
      refine ⟨none, 0, ?_, ?_, fun _ => rfl, ?_⟩
      · rw [HQ.out, HEE.out]; rfl
      · rw [HQ.out]; exact els_nilL _ _
      · exact below_row HSB.out.below (by have := HSB.out.ge; omega) _
end Go.Proofs.Ytieopgmmjpmflaa
