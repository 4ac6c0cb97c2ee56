/- BpduBack: what is put is taken, with noughts behind, too; bytes that are taken are, but for these, put as themselves; unlike words have unlike bytes: for every two words, every text and number of noughts, without a condition of ours (the row lists two tables of the library, which the call does not read; the card ties them to the text). -/
import Derived.Test.YtbkfbaloolbkdaaDoorWakes
import Derived.Test.YtbkfbaloolbkdaaDoorRef
import Derived.Test.YtbkfbaloolbkdaaDoorCards
import Derived.Test.YtbkfbaloolbkdaaDoorTie
import Derived.LaidMore
import Derived.Lay
import Derived.SevenTiedAt
import Derived.Stop.Joined
import Derived.OpenShut
import Derived.ShutString
import Derived.ChangeOld
import Derived.OwnWalk
import Derived.Deep.DeepCutAuto
namespace Go.Proofs.YtbkfbaloolbkdaaDoor.bpduBack
open Go.ChangeShapes Go.WideShapes Go.ChangeAt Go.RowKit
open Go.ChangeMaps (open_string shut_string)
set_option linter.unusedVariables false
set_option linter.unusedSimpArgs false
set_option maxRecDepth 100000

theorem made_zero5 (n : Nat) : (madeCells (Value.int .u8 0).cells n).toList = bvals (List.replicate n 0) := by
  rw [show (Value.int .u8 0).cells = #[Value.int .u8 0] from rfl, toList_madeCells_one]
  simp [bvals, bval]
theorem BpA.grown {t : TypeId} {w w' : World} {g : Nat} {f : Bp} (h : BpA t w g f) (hg : w.grownBy w' none) : BpA t w' g f := by
  have hc := Chg.of_grown (S := fun _ => False) hg (fun k hk => by cases hk)
  exact Blk.chg h hc id
theorem byte_at5 (l : List UInt8) (i : Nat) (h : i < (⟨l.toArray⟩ : ByteArray).size) : (⟨l.toArray⟩ : ByteArray)[i]'h = l.getD i 0 := by
  have hi : i < l.length := h
  show l[i]'hi = _
  simp [List.getD, hi]
theorem allz_at (s : List UInt8) (h : allz (s.drop 42) = true) (k : Nat) (h1 : 42 ≤ k) (h2 : k < s.length) : s.getD k 0 = 0 := by
  unfold allz at h
  rw [List.all_eq_true] at h
  have h3 : k - 42 < (s.drop 42).length := by simp; omega
  have := h _ (List.getElem_mem h3)
  rw [List.getElem_drop] at this
  simp only [beq_iff_eq] at this
  have e : 42 + (k - 42) = k := by omega
  simp only [e] at this
  simp [List.getD, h2, this]
set_option maxHeartbeats 8000000 in
theorem walkB (W : World) (a b : Bp) (ha : a.ok) (hb : b.ok) (s : List UInt8) (n : Nat) (hn : n ≤ 255) :
    Calls Tryd.prog 5 #[BV a, BV b, .string ⟨s.toArray⟩, .int .u8 (n : Int)] W fun e w' => e = .returned (.bool true) ∧ Below W.heap.size W w' := by
  have HA0 : Hid (BpA 33 ((W.alloc (.cells #[.int .u64 a.v.r, .int .u32 a.v.c, .int .u64 a.v.b, .int .u8 a.v.p, .int .u8 a.h, .int .u64 a.ver, .int .u8 a.role, .bool a.pr, .bool a.ag, .bool a.tp, .int .u64 a.ec] 33)).alloc (.cells #[.int .u64 b.v.r, .int .u32 b.v.c, .int .u64 b.v.b, .int .u8 b.v.p, .int .u8 b.h, .int .u64 b.ver, .int .u8 b.role, .bool b.pr, .bool b.ag, .bool b.tp, .int .u64 b.ec] 33)) W.heap.size a) := Lib.hid ((BpA.new 33 W a).alloc _)
  have HB0 : Hid (BpA 33 ((W.alloc (.cells #[.int .u64 a.v.r, .int .u32 a.v.c, .int .u64 a.v.b, .int .u8 a.v.p, .int .u8 a.h, .int .u64 a.ver, .int .u8 a.role, .bool a.pr, .bool a.ag, .bool a.tp, .int .u64 a.ec] 33)).alloc (.cells #[.int .u64 b.v.r, .int .u32 b.v.c, .int .u64 b.v.b, .int .u8 b.v.p, .int .u8 b.h, .int .u64 b.ver, .int .u8 b.role, .bool b.pr, .bool b.ag, .bool b.tp, .int .u64 b.ec] 33)) (W.heap.size + 1) b) := Lib.hid (by simpa only [World.size_alloc] using BpA.new 33 (W.alloc (.cells #[.int .u64 a.v.r, .int .u32 a.v.c, .int .u64 a.v.b, .int .u8 a.v.p, .int .u8 a.h, .int .u64 a.ver, .int .u8 a.role, .bool a.pr, .bool a.ag, .bool a.tp, .int .u64 a.ec] 33)) b)
  have HL0 : Hid (Below W.heap.size W ((W.alloc (.cells #[.int .u64 a.v.r, .int .u32 a.v.c, .int .u64 a.v.b, .int .u8 a.v.p, .int .u8 a.h, .int .u64 a.ver, .int .u8 a.role, .bool a.pr, .bool a.ag, .bool a.tp, .int .u64 a.ec] 33)).alloc (.cells #[.int .u64 b.v.r, .int .u32 b.v.c, .int .u64 b.v.b, .int .u8 b.v.p, .int .u8 b.h, .int .u64 b.ver, .int .u8 b.role, .bool b.pr, .bool b.ag, .bool b.tp, .int .u64 b.ec] 33))) := Lib.hid (((Below.refl _ _).alloc (Nat.le_refl _) _).alloc (by simp) _)
  by_cases hlen : 2000 < s.length
  · have h3 : decide ((2000 : Int) < (s.length : Int)) = true := by simp; omega
    go_enter Tryd.func5, Tryd.ntmps5
    go_wp2_with fail
    refine (wakes5 _).mono ?_
    rintro r w1 ⟨rfl, hb1⟩
    have HL1 : Hid (Below W.heap.size W w1) := Lib.hid (HL0.out.trans (hb1.mono HL0.out.size))
    go_wp2
    go_ret
    exact ⟨rfl, HL1.out⟩
  have h3 : decide ((2000 : Int) < (s.length : Int)) = false := by simp; omega
  have HSL : Hid (s.length ≤ 2000) := Lib.hid (by omega)
  have KA := Lib.hid (fun w => bput_impl w a ha)
  have KB := Lib.hid (fun w => bput_impl w b hb)
  have HOA := Lib.hid ha
  have HOB := Lib.hid hb
  obtain ⟨qa, hqa⟩ : ∃ q, bmay a = q := ⟨_, rfl⟩
  obtain ⟨qb, hqb⟩ : ∃ q, bmay b = q := ⟨_, rfl⟩
  obtain ⟨Va, hVa⟩ : ∃ V, bputV a = V := ⟨_, rfl⟩
  obtain ⟨Vb, hVb⟩ : ∃ V, bputV b = V := ⟨_, rfl⟩
  have ea : bputE a = (if qa then 0 else 2) := by unfold bputE; rw [hqa]
  have eb : bputE b = (if qb then 0 else 2) := by unfold bputE; rw [hqb]
  rw [hVa, ea] at KA
  rw [hVb, eb] at KB
  have HQA := Lib.hid hqa
  have HQB := Lib.hid hqb
  have HVA := Lib.hid hVa
  have HVB := Lib.hid hVb
  clear hqa hqb hVa hVb ea eb ha hb hlen
  go_enter Tryd.func5, Tryd.ntmps5
  go_wp2_with (refine load_bp 4 rfl (by kernel_rfl) W.heap.size a rfl HA0.out ?_)
  refine (KA.out _).mono ?_
  obtain ⟨Ea, hEa⟩ : ∃ E : Int, (if qa then 0 else 2) = E := ⟨_, rfl⟩
  rw [hEa]
  rintro r w1 ⟨rfl, hb1⟩
  have HA1 := Lib.hid (HA0.out.next hb1)
  have HB1 := Lib.hid (HB0.out.next hb1)
  have HL1 : Hid (Below W.heap.size W w1) := Lib.hid (HL0.out.trans (hb1.mono HL0.out.size))
  have HEA := Lib.hid hEa
  clear hb1 hEa HA0 HB0 HL0
  go_wp2_with (refine load_bp 5 rfl (by kernel_rfl) (W.heap.size + 1) b rfl HB1.out ?_)
  refine (KB.out _).mono ?_
  obtain ⟨Eb, hEb⟩ : ∃ E : Int, (if qb then 0 else 2) = E := ⟨_, rfl⟩
  rw [hEb]
  rintro r w2 ⟨rfl, hb2⟩
  have HA2 := Lib.hid (HA1.out.next hb2)
  have HB2 := Lib.hid (HB1.out.next hb2)
  have HL2 : Hid (Below W.heap.size W w2) := Lib.hid (HL1.out.trans (hb2.mono HL1.out.size))
  have HEB := Lib.hid hEb
  clear hb2 hEb HA1 HB1 HL1 KA KB h3
  go_upto_region 5 with (fail)
  go_cut [48] (fun t wx => t = .bool false ∧ wx = w2)
  case first =>
    cases qa
    · have e1 : Ea = 2 := HEA.out.symm
      subst e1
      go_wp2_with fail
      go_meet
      exact ⟨rfl, rfl⟩
    have e1 : Ea = 0 := HEA.out.symm
    subst e1
    cases qb
    · have e2 : Eb = 2 := HEB.out.symm
      subst e2
      go_wp2_with fail
      go_meet
      exact ⟨rfl, rfl⟩
    have e2 : Eb = 0 := HEB.out.symm
    subst e2
    obtain ⟨d, hd⟩ : ∃ d, decide (a = b) = d := ⟨_, rfl⟩
    have hV : ((⟨Va.toArray⟩ : ByteArray).toList == (⟨Vb.toArray⟩ : ByteArray).toList) = d := by
      rw [ByteArray.toList_eq, ByteArray.toList_eq, ← hd, ← HVA.out, ← HVB.out]
      unfold bputV
      rw [HQA.out, HQB.out, if_pos rfl, if_pos rfl, Bool.eq_iff_iff]
      simp only [beq_iff_eq, decide_eq_true_eq]
      simpa using bbytes_inj a b HOA.out HOB.out
    have hV2 : (Va == Vb) = d := by rw [ByteArray.toList_eq, ByteArray.toList_eq] at hV; simpa using hV
    have eF : ∀ W : World, (Op.equalIn 10000 33 (BV a) (BV b)).run Tryd.prog W = .ok d W := fun W => by rw [run_eqB, hd]
    clear hd
    cases d
    all_goals (
      go_wp2_with (first
        | (refine load_bp 4 rfl (by kernel_rfl) W.heap.size a rfl HA2.out ?_)
        | (refine load_bp 5 rfl (by kernel_rfl) (W.heap.size + 1) b rfl HB2.out ?_))
      go_meet
      exact ⟨rfl, rfl⟩)
  obtain ⟨rfl, hw⟩ := hcut
  rw [hw]
  clear hw
  go_upto_if 50 with (fail)
  go_cut [8] (fun t wx => t = .bool false ∧ Hid (Below w2.heap.size w2 wx))
  case first =>
    cases qa
    · have e1 : Ea = 2 := HEA.out.symm
      subst e1
      go_wp2_with fail
      go_meet
      exact ⟨rfl, Lib.hid (Below.refl _ _)⟩
    have e1 : Ea = 0 := HEA.out.symm
    subst e1
    obtain ⟨ZZ, hZ⟩ : ∃ ZZ : List UInt8, List.replicate n 0 = ZZ := ⟨_, rfl⟩
    have hZl : ZZ.length = n := by rw [← hZ]; simp
    have hVa : Va = bbytes a := by rw [← HVA.out]; unfold bputV; rw [HQA.out]; rfl
    have hVal : Va.length = 42 := by rw [hVa]; exact bbytes_len a
    have hadd : ∀ W : World, (Op.stringOp .add ⟨Va.toArray⟩ ⟨ZZ.toArray⟩).run Tryd.prog W = .ok (.string ⟨(Va ++ ZZ).toArray⟩) W := fun W => run_string_add_lists W Va ZZ (by omega) (by omega)
    obtain ⟨VZ, hVZ⟩ : ∃ V, Va ++ ZZ = V := ⟨_, rfl⟩
    rw [hVZ] at hadd
    have ht := btake_put a HOA.out HQA.out ZZ (by rw [← hZ]; simp [allz])
    rw [← hVa, hVZ] at ht
    have hVZl : VZ.length ≤ 8388000 := by rw [← hVZ]; simp [hVal, hZl]; omega
    have HT := Lib.hid ht
    have HVZL := Lib.hid hVZl
    have HZ := Lib.hid hZ
    have HZL := Lib.hid hZl
    have HN := Lib.hid hn
    have hn2 : (n : Int) ≤ 255 := by omega
    clear ht hVZ hVa hVal hZ hZl hn hVZl
    obtain ⟨i, hi, hz0, hz1, hz2⟩ := info_parts u8_info
    go_wp2_with (at_make; refine wpList_make_full _ rfl _ _ 43 rfl w2.heap.size 5 i _ 1 Tryd.underlying43 hi hz0 hz1 _ _ _ _ n rfl rfl rfl rfl (by have := HN.out; rw [hz2]; omega) (by have := HN.out; simp only [maxLen]; omega) (Nat.le_refl _) ?_)
    intro u2 hown2 hg2
    have O2 : OwnB u2 w2.heap.size (.slice (some ⟨w2.heap.size, 0, none⟩) n n) ZZ := by
      unfold OwnB
      rw [HZL.out, ← HZ.out, ← made_zero5]
      exact hown2
    have hcv := O2.str.conv
    have A2 : Hid (Below w2.heap.size w2 u2) := Lib.hid ((Below.refl _ _).grown hg2 (Nat.le_refl _) (fun k hk => by cases hk))
    have K2 : Hid (BpA 33 u2 W.heap.size a) := Lib.hid (BpA.grown HA2.out hg2)
    clear hown2 hg2 O2 hz0 hz1 hz2 hi
    go_wp2_with fail
    refine (btake_impl _ VZ HVZL.out).mono ?_
    rw [HT.out.1, HT.out.2]
    rintro r u3 ⟨rfl, hb3⟩
    have K3 : Hid (BpA 33 (u3.alloc (.cells #[.int .u64 a.v.r, .int .u32 a.v.c, .int .u64 a.v.b, .int .u8 a.v.p, .int .u8 a.h, .int .u64 a.ver, .int .u8 a.role, .bool a.pr, .bool a.ag, .bool a.tp, .int .u64 a.ec] 33)) W.heap.size a) := Lib.hid ((K2.out.next hb3).alloc _)
    have L3 : Hid (BpA 33 (u3.alloc (.cells #[.int .u64 a.v.r, .int .u32 a.v.c, .int .u64 a.v.b, .int .u8 a.v.p, .int .u8 a.h, .int .u64 a.ver, .int .u8 a.role, .bool a.pr, .bool a.ag, .bool a.tp, .int .u64 a.ec] 33)) u3.heap.size a) := Lib.hid (BpA.new _ _ _)
    have A3 : Hid (Below w2.heap.size w2 (u3.alloc (.cells #[.int .u64 a.v.r, .int .u32 a.v.c, .int .u64 a.v.b, .int .u8 a.v.p, .int .u8 a.h, .int .u64 a.ver, .int .u8 a.role, .bool a.pr, .bool a.ag, .bool a.tp, .int .u64 a.ec] 33))) := Lib.hid ((A2.out.trans (hb3.mono A2.out.size)).alloc (Nat.le_trans A2.out.size hb3.size) _)
    have eF : ∀ W : World, (Op.equalIn 10000 33 (BV a) (BV a)).run Tryd.prog W = .ok true W := fun W => by rw [run_eqB]; simp
    clear hb3 K2 A2 hcv hadd
    go_wp2_with (first
      | (refine load_bp 13 rfl (by kernel_rfl) u3.heap.size a rfl L3.out ?_)
      | (refine load_bp 4 rfl (by kernel_rfl) W.heap.size a rfl K3.out ?_))
    go_meet
    exact ⟨rfl, A3⟩
  obtain ⟨rfl, HC⟩ := hcut
  have HL3 : Hid (Below W.heap.size W wc) := Lib.hid (HL2.out.trans (HC.out.mono HL2.out.size))
  obtain ⟨w3, rfl⟩ : ∃ w3, w3 = wc := ⟨_, rfl⟩
  clear HC HA2 HB2 HL2 HVA HVB HOA HOB HQA HQB HEA HEB hn
  go_wp2_with fail
  refine (btake_impl _ s (by have := HSL.out; omega)).mono ?_
  by_cases hE : btakeE s = 0
  · obtain ⟨h42, hF, hmy, hbb, haz⟩ := bput_take s hE
    have hok := bof_ok s
    obtain ⟨y, hy⟩ : ∃ y, bof s = y := ⟨_, rfl⟩
    obtain ⟨T5, hT5⟩ : ∃ T5, s.take 42 = T5 := ⟨_, rfl⟩
    have hT5l : T5.length = 42 := by rw [← hT5]; simp; omega
    rw [hy] at hF hmy hbb hok
    rw [hT5] at hbb
    have hPv : bputV y = T5 ∧ bputE y = 0 := by unfold bputV bputE; rw [hmy, hbb]; exact ⟨rfl, rfl⟩
    rw [hE, hF]
    have KY := Lib.hid (fun w => bput_impl w y hok)
    rw [hPv.1, hPv.2] at KY
    have HT5 := Lib.hid hT5
    have HAZ := Lib.hid haz
    have H42 := Lib.hid h42
    have HT5L := Lib.hid hT5l
    clear hE hF hmy hbb hok hy hT5 hPv haz
    rintro r w4 ⟨rfl, hb4⟩
    have HY4 : Hid (BpA 33 (w4.alloc (.cells #[.int .u64 y.v.r, .int .u32 y.v.c, .int .u64 y.v.b, .int .u8 y.v.p, .int .u8 y.h, .int .u64 y.ver, .int .u8 y.role, .bool y.pr, .bool y.ag, .bool y.tp, .int .u64 y.ec] 33)) w4.heap.size y) := Lib.hid (BpA.new _ _ _)
    have HL4 : Hid (Below W.heap.size W (w4.alloc (.cells #[.int .u64 y.v.r, .int .u32 y.v.c, .int .u64 y.v.b, .int .u8 y.v.p, .int .u8 y.h, .int .u64 y.ver, .int .u8 y.role, .bool y.pr, .bool y.ag, .bool y.tp, .int .u64 y.ec] 33))) := Lib.hid ((HL3.out.trans (hb4.mono HL3.out.size)).alloc (Nat.le_trans HL3.out.size hb4.size) _)
    clear hb4 HL3
    go_wp2_with (refine load_bp 15 rfl (by kernel_rfl) w4.heap.size y rfl HY4.out ?_)
    refine (KY.out _).mono ?_
    rintro r w5 ⟨rfl, hb5⟩
    have HL5 : Hid (Below W.heap.size W w5) := Lib.hid (HL4.out.trans (hb5.mono HL4.out.size))
    clear hb5 HY4 HL4
    have hsl : (s.length : Int) ≤ 2000 := by have := HSL.out; omega
    have hs42 : (42 : Int) ≤ (s.length : Int) := by omega
    have hd : decide ((s.length : Int) < 42) = false := by simp; omega
    have hxs : ∀ w, (Instr.slice 9 (.string ⟨s.toArray⟩) none (some (.int .i64 42)) none).run Tryd.prog w = .ok (.string ⟨T5.toArray⟩) w := fun w => by
      have hz : (⟨s.toArray⟩ : ByteArray).size = s.length := rfl
      have := run_slice_string_h (P := Tryd.prog) (w := w) (s := ⟨s.toArray⟩) (t := 9) Tryd.underlying9 .i64 42 (by omega) (by rw [hz]; omega)
      rw [this, ← HT5.out]
      exact congrArg (fun b => Result.ok (Value.string b) w) (extract_take s 42)
    go_upto_region 17 with (fail)
    clear hxs hd
    go_wp2
    go_loop [19] (fun i => ∃ k : Nat, 42 ≤ k ∧ k ≤ s.length ∧ i = .int .i64 k) (fun i => s.length - (intOf i).toNat)
    case atStart => exact ⟨42, Nat.le_refl _, h42, rfl⟩
    case round =>
      obtain ⟨k, hk1, hk2, rfl⟩ := hrel
      by_cases hlt : k < s.length
      · have h0 := allz_at s HAZ.out k hk1 hlt
        have hy : ∀ h, (⟨s.toArray⟩ : ByteArray)[k]'h = 0 := fun h => by rw [byte_at5 s k h]; exact h0
        clear h0
        go_wp2
        go_round
        case rel => exact ⟨k + 1, by omega, by omega, by go_num⟩
        case measure => simp [intOf]; omega
      · go_wp2_with fail
        refine (wakes5 _).mono ?_
        rintro r w7 ⟨rfl, hb7⟩
        have HL7 : Hid (Below W.heap.size W w7) := Lib.hid (HL5.out.trans (hb7.mono HL5.out.size))
        clear hb7
        go_wp2
        go_ret
        exact ⟨rfl, HL7.out⟩
  · have hF : btakeF s = Bp.zero := by unfold btakeF; rw [if_neg hE]
    obtain ⟨e, he⟩ : ∃ e, btakeE s = e := ⟨_, rfl⟩
    rw [he] at hE
    rw [he, hF]
    have hee : (e != 0) = true := by simpa using hE
    clear hE hF he
    rintro r w4 ⟨rfl, hb4⟩
    have HY4 : Hid (BpA 33 (w4.alloc (.cells #[.int .u64 Bp.zero.v.r, .int .u32 Bp.zero.v.c, .int .u64 Bp.zero.v.b, .int .u8 Bp.zero.v.p, .int .u8 Bp.zero.h, .int .u64 Bp.zero.ver, .int .u8 Bp.zero.role, .bool Bp.zero.pr, .bool Bp.zero.ag, .bool Bp.zero.tp, .int .u64 Bp.zero.ec] 33)) w4.heap.size Bp.zero) := Lib.hid (BpA.new _ _ _)
    have HL4 : Hid (Below W.heap.size W (w4.alloc (.cells #[.int .u64 Bp.zero.v.r, .int .u32 Bp.zero.v.c, .int .u64 Bp.zero.v.b, .int .u8 Bp.zero.v.p, .int .u8 Bp.zero.h, .int .u64 Bp.zero.ver, .int .u8 Bp.zero.role, .bool Bp.zero.pr, .bool Bp.zero.ag, .bool Bp.zero.tp, .int .u64 Bp.zero.ec] 33))) := Lib.hid ((HL3.out.trans (hb4.mono HL3.out.size)).alloc (Nat.le_trans HL3.out.size hb4.size) _)
    have eF : ∀ W : World, (Op.equalIn 10000 33 (BV Bp.zero) (.agg #[.int .u64 0, .int .u32 0, .int .u64 0, .int .u8 0, .int .u8 0, .int .u64 0, .int .u8 0, .bool false, .bool false, .bool false, .int .u64 0])).run Tryd.prog W = .ok true W := fun W => by have := run_eqB Bp.zero Bp.zero W; rw [decide_eq_true rfl] at this; exact this
    clear hb4 HL3
    go_wp2_with (refine load_bp 15 rfl (by kernel_rfl) w4.heap.size Bp.zero rfl HY4.out ?_)
    refine (wakes5 _).mono ?_
    rintro r w7 ⟨rfl, hb7⟩
    have HL7 : Hid (Below W.heap.size W w7) := Lib.hid (HL4.out.trans (hb7.mono HL4.out.size))
    clear hb7
    go_wp2
    go_ret
    exact ⟨rfl, HL7.out⟩
set_option maxRecDepth 100000 in
set_option maxHeartbeats 4000000 in
theorem walk {H : Type} {enc : TypeId × Value → H} (W : World) (base : Nat) {v0 v1 v2 v3 : Value} {d0 d1 d2 d3 : DataW H} {p0 p1 p2 p3 : List MemPlace}
    (o0 : Value.okWide Tryd.prog W .any base 33 v0) (h0 : DataW.Trod enc Tryd.prog W 0 (fun _ => true) true 33 v0 d0 p0) (o1 : Value.okWide Tryd.prog W .any base 33 v1) (h1 : DataW.Trod enc Tryd.prog W 0 (fun _ => true) true 33 v1 d1 p1) (o2 : Value.okWide Tryd.prog W .any base 9 v2) (h2 : DataW.Trod enc Tryd.prog W 0 (fun _ => true) true 9 v2 d2 p2) (o3 : Value.okWide Tryd.prog W .any base 5 v3) (h3 : DataW.Trod enc Tryd.prog W 0 (fun _ => true) true 5 v3 d3 p3) :
    Calls Tryd.prog 5 #[v0, v1, v2, v3] W fun e w' => e = .returned (.bool true) ∧ Below W.heap.size W w' := by
  obtain ⟨a, ha, rfl⟩ := open_bp o0 h0
  obtain ⟨b, hb, rfl⟩ := open_bp o1 h1
  obtain ⟨sb, rfl, rfl, rfl, hs⟩ := open_string Tryd.underlying9 o2 h2
  obtain ⟨⟨s⟩⟩ := sb
  obtain ⟨n, rfl, hn⟩ := open_num Tryd.underlying5 o3 h3
  obtain ⟨k, rfl⟩ := Int.eq_ofNat_of_zero_le (wf_u8 hn).1
  exact walkB W a b ha hb s k (by have := (wf_u8 hn).2; omega)

theorem own : ownKnob Tryd.prog.godebug = none := by kernel_rfl
theorem laidOut : laidOutB Tryd.prog = true := by kernel_rfl
set_option maxRecDepth 100000 in
theorem lifted (os : Os) (started : os.Started) (H : Type) (enc : TypeId × Value → H) :
    ReturnsInHanded {} Tryd.checked os 5 .any (fun w args => (Rows.bpduBackSpec.pre enc Tryd.prog Tryd.f5 Rows.bpduBackRow.domain false w args ∧ laidMetH Tryd.prog Rows.bpduBackRow.laid w) ∧ sizedMet enc Tryd.prog Tryd.f5 (OpenSpec.ofChange Rows.bpduBackSpec) false w args) (Rows.bpduBackSpec.post enc Tryd.prog Tryd.f5 false true false false) := by
  refine returnsInHanded_of_change_and (C := Tryd.checked) (X := (fun w _ => laidMetH Tryd.prog Rows.bpduBackRow.laid w)) (fun _ _ _ hh h => h.of_heap hh) own started (by kernel_rfl) Tryd.func5
    (ChangeSpec.witness_shaped (enc := enc) (C := Tryd.checked) (os := os) (X := (fun w _ => laidMetH Tryd.prog Rows.bpduBackRow.laid w)) false (World.laidAll Tryd.prog os Rows.bpduBackRow.laid) #[.agg #[.int .u64 0, .int .u32 0, .int .u64 0, .int .u8 0, .int .u8 0, .int .u64 0, .int .u8 0, .bool false, .bool false, .bool false, .int .u64 0], .agg #[.int .u64 0, .int .u32 0, .int .u64 0, .int .u8 0, .int .u8 0, .int .u64 0, .int .u8 0, .bool false, .bool false, .bool false, .int .u64 0], .string ⟨#[]⟩, .int .u8 0] 8 (World.laidAll_os _ _ _)
      (World.shaped_of_ZipB (by kernel_rfl) (by kernel_rfl)) (by kernel_rfl) (by kernel_rfl) (by kernel_rfl)
      (by rw [MakeChecks.laidMetH_plain _ _ _ (by kernel_rfl)]; exact laidMet_laidAll _ (by kernel_rfl) (by kernel_rfl))) ?_
  intro W base args ds gs before hval0 hW hcnd _ _ _
  have hval : ∀ (j : Nat) t v, Tryd.f5.params[j]? = some t → args[j]? = some v → Value.okWide Tryd.prog W .any base t v := hval0
  have hW' := hW
  obtain ⟨p, q, hA0, hV, rfl, hfz, hnd⟩ := hW
  have hA : DataW.TrodAll enc Tryd.prog W 0 (fun _ => true) true Tryd.f5.params.toList args.toList ds p := hA0
  rw [Tryd.params5] at hA hval
  obtain ⟨v0, vs0, d0, ds0, p0, q0, hargs, rfl, rfl, h0, r0⟩ := trodAll_cons hA
  obtain ⟨v1, vs1, d1, ds1, p1, q1, rfl, rfl, rfl, h1, r1⟩ := trodAll_cons r0
  obtain ⟨v2, vs2, d2, ds2, p2, q2, rfl, rfl, rfl, h2, r2⟩ := trodAll_cons r1
  obtain ⟨v3, vs3, d3, ds3, p3, q3, rfl, rfl, rfl, h3, r3⟩ := trodAll_cons r2
  obtain ⟨rfl, rfl, rfl⟩ := trodAll_nil r3
  obtain rfl : args = #[v0, v1, v2, v3] := by cases args; simp_all
  obtain ⟨rfl, rfl⟩ := trodVars_none hV
  have o0 := hval 0 33 v0 rfl rfl
  have lt0 : ∀ x ∈ p0, x.block < W.heap.size := by obtain ⟨m, hm⟩ := h0; exact DataW.trod_lt m _ _ _ hm
  have o1 := hval 1 33 v1 rfl rfl
  have lt1 : ∀ x ∈ p1, x.block < W.heap.size := by obtain ⟨m, hm⟩ := h1; exact DataW.trod_lt m _ _ _ hm
  have o2 := hval 2 9 v2 rfl rfl
  have lt2 : ∀ x ∈ p2, x.block < W.heap.size := by obtain ⟨m, hm⟩ := h2; exact DataW.trod_lt m _ _ _ hm
  have o3 := hval 3 5 v3 rfl rfl
  have lt3 : ∀ x ∈ p3, x.block < W.heap.size := by obtain ⟨m, hm⟩ := h3; exact DataW.trod_lt m _ _ _ hm
  clear hA0 hval0
  refine (walk W base o0 h0 o1 h1 o2 h2 o3 h3).mono fun e W' ⟨he, bel⟩ => ?_
  subst he
  exact ⟨_, rfl, _, _, _, [], _, [], hW', trodAll_mk1 (shut_bool Tryd.underlying4 _), (trodAll_cons_mk (Below.trod laidOut (by kernel_rfl) (of_decide_eq_true (by kernel_rfl)) h0 bel lt0) (trodAll_cons_mk (Below.trod laidOut (by kernel_rfl) (of_decide_eq_true (by kernel_rfl)) h1 bel lt1) (trodAll_cons_mk (Below.trod laidOut (by kernel_rfl) (of_decide_eq_true (by kernel_rfl)) h2 bel lt2) (trodAll_cons_mk (Below.trod laidOut (by kernel_rfl) (of_decide_eq_true (by kernel_rfl)) h3 bel lt3) trodAll_mk0)))), rfl, bel.frame _, fun h => by cases h⟩

theorem over : Rows.bpduBackRow.holds Tryd.pinned (OpenSpec.ofChange Rows.bpduBackSpec) :=
  OpenClaim.holds_of_wide 5 Tryd.f5 rfl rfl rfl rfl rfl rfl rfl ⟨rfl, rfl, rfl, rfl, rfl⟩ rfl rfl rfl rfl rfl (by kernel_rfl) Tryd.func5 (by kernel_rfl)
    (of_decide_eq_true (by kernel_rfl)) (by unfold Func.isWrapper; first | (rw [if_pos (by decide +kernel)]; kernel_rfl) | (rw [if_neg (by decide +kernel)]; exact ⟨rfl, rfl⟩))
    (fun os started H enc _ => lifted os started H enc)

/-- THE STATEMENT: the row, tied to the program's text -/
theorem proved : Rows.BpduBackCardSaid :=
  Claim7.holds_tied_plain_at .later [] Rows.bpduBackCard.laidKinds true Rows.bpduBackCard.stood.harness false over (fun _ h => by cases h) (by kernel_rfl) (fun _ h => by cases h) bpduBack_row_tie rfl ⟨rfl, rfl⟩ (by kernel_rfl) rfl
    (fun f fn hf hfn => by
      obtain rfl : f = 5 := Option.some.inj ((show Tryd.prog.funcNamed "viaduct/viaductlaw05.BpduBack" = some 5 by kernel_rfl).symm.trans hf) |>.symm
      obtain rfl : fn = Tryd.f5 := (Option.some.inj (Tryd.func5.symm.trans hfn)).symm
      exact ⟨by kernel_rfl, fun j t ht => by
        rw [Tryd.params5] at ht
        have hm : t ∈ [33, 33, 9, 5] := by simpa using Array.mem_of_getElem? ht
        have hall : ([33, 33, 9, 5].all fun u => !Tryd.prog.wantsStandIn u) = true := by kernel_rfl
        exact (show Tryd.prog.wantsStandIn t = false by simpa using List.all_eq_true.1 hall t hm)⟩)
    (by kernel_rfl)
end Go.Proofs.YtbkfbaloolbkdaaDoor.bpduBack
