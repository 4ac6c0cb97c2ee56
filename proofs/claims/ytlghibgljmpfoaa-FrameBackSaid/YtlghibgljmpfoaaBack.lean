/- FrameBack: what is put is taken, and bytes that are taken are put as themselves: for every frame and every text, without a condition. -/
import Derived.Test.YtlghibgljmpfoaaFrameC
import Derived.OpenShut
import Derived.ShutString
import Derived.ChangeOld
import Derived.Deep.DeepCutAuto
namespace Go.Proofs.Ytlghibgljmpfoaa.frameBack
open Go.ChangeShapes Go.WideShapes Go.ChangeAt Go.RowKit
open Go.ChangeMaps (open_string shut_string)
set_option linter.unusedVariables false
set_option linter.unusedSimpArgs false

set_option maxRecDepth 100000 in
set_option maxHeartbeats 8000000 in
theorem walk11 (hP : PutC) (hT : TakeC) (hL : LenC) (hW : WakesC 6) (W : World) (f : Fr) (s : List UInt8) (hlen : ¬ 2000 < f.data.length) (hsl : ¬ 2000 < s.length) (hE : fputE f = 0) (hs : ftakeE s = 0) :
    Calls Try.prog 4 #[FV f, .string ⟨s.toArray⟩] W fun e w' => e = .returned (.bool true) ∧ Below W.heap.size W w' := by
  have HP := Lib.hid hP
  have HT := Lib.hid hT
  have HL := Lib.hid hL
  have HW := Lib.hid hW
  clear hP hT hL hW
  have HF := Lib.hid (FrA.new W f)
  have HBW := Lib.hid ((Below.refl W.heap.size W).alloc (Nat.le_refl _) (.cells #[.int .u8 f.d0.toNat, .int .u8 f.d1.toNat, .int .u8 f.d2.toNat, .int .u8 f.d3.toNat, .int .u8 f.d4.toNat, .int .u8 f.d5.toNat, .int .u8 f.s0.toNat, .int .u8 f.s1.toNat, .int .u8 f.s2.toNat, .int .u8 f.s3.toNat, .int .u8 f.s4.toNat, .int .u8 f.s5.toNat, .bool f.tag, .int .u8 f.pri.toNat, .int .u16 f.vid.toNat, .int .u16 f.ty.toNat, .string ⟨f.data.toArray⟩] 26))
  have h3 : decide ((2000 : Int) < (f.data.length : Int)) = false := by simp; omega
  have h4 : decide ((2000 : Int) < (s.length : Int)) = false := by simp; omega
  have hdl : f.data.length ≤ 8388000 := by omega
  have HDL := Lib.hid hdl
  have hsl2 : s.length ≤ 8388000 := by omega
  have HSL := Lib.hid hsl2
  clear hdl hsl2
  go_enter Try.func4, Try.ntmps4
  go_wp2_with (refine wpList_load_frame 2 rfl (by kernel_rfl) (W.heap.size) f rfl (HF.out) ?_)
  refine (HP.out _ f HDL.out).mono ?_
  obtain ⟨ht1, ht2⟩ := take_put f hE
  have hv : fputV f = fbytes f := by unfold fputV; rw [if_pos hE]
  have hln := fbytes_len f
  rw [hE, hv]
  obtain ⟨b, hb⟩ : ∃ b, fbytes f = b := ⟨_, rfl⟩
  rw [hb] at ht1 ht2 hln ⊢
  have hbl : b.length ≤ 8388000 := by unfold flen at hln; split at hln <;> omega
  have HT1 := Lib.hid ht1
  have HT2 := Lib.hid ht2
  have HLN := Lib.hid hln
  have HBL := Lib.hid hbl
  clear ht1 ht2 hv hln hb hE hbl hlen hsl
  rintro r w1 ⟨rfl, hb1⟩
  have HF1 := Lib.hid (HF.out.next hb1)
  have HB1 := Lib.hid (HBW.out.trans (hb1.mono (by simp)))
  clear hb1 HF HBW
  go_wp2_with fail
  refine (HT.out _ b HBL.out).mono ?_
  rw [HT1.out, HT2.out]
  rintro r w2 ⟨rfl, hb2⟩
  have st1 := stores_new w2 (.int .u8 f.d0.toNat) (.int .u8 f.d1.toNat) (.int .u8 f.d2.toNat) (.int .u8 f.d3.toNat) (.int .u8 f.d4.toNat) (.int .u8 f.d5.toNat) (.int .u8 f.s0.toNat) (.int .u8 f.s1.toNat) (.int .u8 f.s2.toNat) (.int .u8 f.s3.toNat) (.int .u8 f.s4.toNat) (.int .u8 f.s5.toNat) (.bool f.tag) (.int .u8 f.pri.toNat) (.int .u16 f.vid.toNat) (.int .u16 f.ty.toNat) (.string ⟨f.data.toArray⟩) (by kernel_rfl)
  have HF2 := Lib.hid ((HF1.out.next hb2).alloc (.cells #[.int .u8 f.d0.toNat, .int .u8 f.d1.toNat, .int .u8 f.d2.toNat, .int .u8 f.d3.toNat, .int .u8 f.d4.toNat, .int .u8 f.d5.toNat, .int .u8 f.s0.toNat, .int .u8 f.s1.toNat, .int .u8 f.s2.toNat, .int .u8 f.s3.toNat, .int .u8 f.s4.toNat, .int .u8 f.s5.toNat, .bool f.tag, .int .u8 f.pri.toNat, .int .u16 f.vid.toNat, .int .u16 f.ty.toNat, .string ⟨f.data.toArray⟩] 26))
  have HG2 := Lib.hid (FrA.new w2 f)
  have HB2 : Hid (Below W.heap.size W (w2.alloc (.cells #[.int .u8 f.d0.toNat, .int .u8 f.d1.toNat, .int .u8 f.d2.toNat, .int .u8 f.d3.toNat, .int .u8 f.d4.toNat, .int .u8 f.d5.toNat, .int .u8 f.s0.toNat, .int .u8 f.s1.toNat, .int .u8 f.s2.toNat, .int .u8 f.s3.toNat, .int .u8 f.s4.toNat, .int .u8 f.s5.toNat, .bool f.tag, .int .u8 f.pri.toNat, .int .u16 f.vid.toNat, .int .u16 f.ty.toNat, .string ⟨f.data.toArray⟩] 26))) := Lib.hid ((HB1.out.trans (hb2.mono HB1.out.size)).alloc (by have := HB1.out.size; have := hb2.size; omega) _)
  have eF : ∀ W' : World, (Op.equalIn 10000 26 (FV f) (FV f)).run Try.prog W' = .ok true W' := fun W' => by have := run_eqF f f W'; rw [Fr.same_self] at this; exact this
  clear hb2 HF1 HB1
  go_wp2_with (first | (refine wpList_load_frame 7 rfl (by kernel_rfl) (w2.heap.size) f rfl (HG2.out) ?_) | (refine wpList_load_frame 2 rfl (by kernel_rfl) (W.heap.size) f rfl (HF2.out) ?_))
  refine (HL.out _ f HDL.out).mono ?_
  rintro r w3 ⟨rfl, hb3⟩
  have HB3 : Hid (Below W.heap.size W w3) := Lib.hid (HB2.out.trans (hb3.mono HB2.out.size))
  have hln : (((b.length : Nat) : Int) != ((flen f : Nat) : Int)) = false := by rw [HLN.out]; simp
  clear hb3 st1 eF HF2 HG2
  go_upto_region 8 with (fail)
  go_wp2_with fail
  refine (HT.out _ s HSL.out).mono ?_
  obtain ⟨hp1, hp2⟩ := put_take s hs
  have hp3 : fputV (ftakeF s) = s := by unfold fputV; rw [if_pos hp1, hp2]
  have hgl : (ftakeF s).data.length ≤ 8388000 := by have := fbytes_len (ftakeF s); rw [hp2] at this; unfold flen at this; have := HSL.out; omega
  rw [hs]
  obtain ⟨g, hg⟩ : ∃ g, ftakeF s = g := ⟨_, rfl⟩
  rw [hg] at hp1 hp2 hp3 hgl ⊢
  have HP1 := Lib.hid hp1
  have HP3 := Lib.hid hp3
  have HGL := Lib.hid hgl
  clear hp1 hp2 hp3 hgl hs hg
  rintro r wA ⟨rfl, hbA⟩
  have st2 := stores_new wA (.int .u8 g.d0.toNat) (.int .u8 g.d1.toNat) (.int .u8 g.d2.toNat) (.int .u8 g.d3.toNat) (.int .u8 g.d4.toNat) (.int .u8 g.d5.toNat) (.int .u8 g.s0.toNat) (.int .u8 g.s1.toNat) (.int .u8 g.s2.toNat) (.int .u8 g.s3.toNat) (.int .u8 g.s4.toNat) (.int .u8 g.s5.toNat) (.bool g.tag) (.int .u8 g.pri.toNat) (.int .u16 g.vid.toNat) (.int .u16 g.ty.toNat) (.string ⟨g.data.toArray⟩) (by kernel_rfl)
  have HGA := Lib.hid (FrA.new wA g)
  have HBA : Hid (Below W.heap.size W (wA.alloc (.cells #[.int .u8 g.d0.toNat, .int .u8 g.d1.toNat, .int .u8 g.d2.toNat, .int .u8 g.d3.toNat, .int .u8 g.d4.toNat, .int .u8 g.d5.toNat, .int .u8 g.s0.toNat, .int .u8 g.s1.toNat, .int .u8 g.s2.toNat, .int .u8 g.s3.toNat, .int .u8 g.s4.toNat, .int .u8 g.s5.toNat, .bool g.tag, .int .u8 g.pri.toNat, .int .u16 g.vid.toNat, .int .u16 g.ty.toNat, .string ⟨g.data.toArray⟩] 26))) := Lib.hid ((HB3.out.trans (hbA.mono HB3.out.size)).alloc (by have := HB3.out.size; have := hbA.size; omega) _)
  clear hbA
  go_wp2_with (refine wpList_load_frame 9 rfl (by kernel_rfl) (wA.heap.size) g rfl (HGA.out) ?_)
  refine (HP.out _ g HGL.out).mono ?_
  rw [HP1.out, HP3.out]
  rintro r wC ⟨rfl, hbC⟩
  have HBC : Hid (Below W.heap.size W wC) := Lib.hid (HBA.out.trans (hbC.mono HBA.out.size))
  clear hbC st2
  go_wp2_with fail
  refine (HW.out _).mono ?_
  rintro r wD ⟨rfl, hbD⟩
  have HBD : Hid (Below W.heap.size W wD) := Lib.hid (HBC.out.trans (hbD.mono HBC.out.size))
  clear hbD
  go_wp2
  go_ret
  exact ⟨rfl, HBD.out⟩
set_option maxRecDepth 100000 in
set_option maxHeartbeats 8000000 in
theorem walk10 (hP : PutC) (hT : TakeC) (hL : LenC) (hW : WakesC 6) (W : World) (f : Fr) (s : List UInt8) (hlen : ¬ 2000 < f.data.length) (hsl : ¬ 2000 < s.length) (hE : fputE f = 0) (hs : ¬ ftakeE s = 0) :
    Calls Try.prog 4 #[FV f, .string ⟨s.toArray⟩] W fun e w' => e = .returned (.bool true) ∧ Below W.heap.size W w' := by
  have HP := Lib.hid hP
  have HT := Lib.hid hT
  have HL := Lib.hid hL
  have HW := Lib.hid hW
  clear hP hT hL hW
  have HF := Lib.hid (FrA.new W f)
  have HBW := Lib.hid ((Below.refl W.heap.size W).alloc (Nat.le_refl _) (.cells #[.int .u8 f.d0.toNat, .int .u8 f.d1.toNat, .int .u8 f.d2.toNat, .int .u8 f.d3.toNat, .int .u8 f.d4.toNat, .int .u8 f.d5.toNat, .int .u8 f.s0.toNat, .int .u8 f.s1.toNat, .int .u8 f.s2.toNat, .int .u8 f.s3.toNat, .int .u8 f.s4.toNat, .int .u8 f.s5.toNat, .bool f.tag, .int .u8 f.pri.toNat, .int .u16 f.vid.toNat, .int .u16 f.ty.toNat, .string ⟨f.data.toArray⟩] 26))
  have h3 : decide ((2000 : Int) < (f.data.length : Int)) = false := by simp; omega
  have h4 : decide ((2000 : Int) < (s.length : Int)) = false := by simp; omega
  have hdl : f.data.length ≤ 8388000 := by omega
  have HDL := Lib.hid hdl
  have hsl2 : s.length ≤ 8388000 := by omega
  have HSL := Lib.hid hsl2
  clear hdl hsl2
  go_enter Try.func4, Try.ntmps4
  go_wp2_with (refine wpList_load_frame 2 rfl (by kernel_rfl) (W.heap.size) f rfl (HF.out) ?_)
  refine (HP.out _ f HDL.out).mono ?_
  obtain ⟨ht1, ht2⟩ := take_put f hE
  have hv : fputV f = fbytes f := by unfold fputV; rw [if_pos hE]
  have hln := fbytes_len f
  rw [hE, hv]
  obtain ⟨b, hb⟩ : ∃ b, fbytes f = b := ⟨_, rfl⟩
  rw [hb] at ht1 ht2 hln ⊢
  have hbl : b.length ≤ 8388000 := by unfold flen at hln; split at hln <;> omega
  have HT1 := Lib.hid ht1
  have HT2 := Lib.hid ht2
  have HLN := Lib.hid hln
  have HBL := Lib.hid hbl
  clear ht1 ht2 hv hln hb hE hbl hlen hsl
  rintro r w1 ⟨rfl, hb1⟩
  have HF1 := Lib.hid (HF.out.next hb1)
  have HB1 := Lib.hid (HBW.out.trans (hb1.mono (by simp)))
  clear hb1 HF HBW
  go_wp2_with fail
  refine (HT.out _ b HBL.out).mono ?_
  rw [HT1.out, HT2.out]
  rintro r w2 ⟨rfl, hb2⟩
  have st1 := stores_new w2 (.int .u8 f.d0.toNat) (.int .u8 f.d1.toNat) (.int .u8 f.d2.toNat) (.int .u8 f.d3.toNat) (.int .u8 f.d4.toNat) (.int .u8 f.d5.toNat) (.int .u8 f.s0.toNat) (.int .u8 f.s1.toNat) (.int .u8 f.s2.toNat) (.int .u8 f.s3.toNat) (.int .u8 f.s4.toNat) (.int .u8 f.s5.toNat) (.bool f.tag) (.int .u8 f.pri.toNat) (.int .u16 f.vid.toNat) (.int .u16 f.ty.toNat) (.string ⟨f.data.toArray⟩) (by kernel_rfl)
  have HF2 := Lib.hid ((HF1.out.next hb2).alloc (.cells #[.int .u8 f.d0.toNat, .int .u8 f.d1.toNat, .int .u8 f.d2.toNat, .int .u8 f.d3.toNat, .int .u8 f.d4.toNat, .int .u8 f.d5.toNat, .int .u8 f.s0.toNat, .int .u8 f.s1.toNat, .int .u8 f.s2.toNat, .int .u8 f.s3.toNat, .int .u8 f.s4.toNat, .int .u8 f.s5.toNat, .bool f.tag, .int .u8 f.pri.toNat, .int .u16 f.vid.toNat, .int .u16 f.ty.toNat, .string ⟨f.data.toArray⟩] 26))
  have HG2 := Lib.hid (FrA.new w2 f)
  have HB2 : Hid (Below W.heap.size W (w2.alloc (.cells #[.int .u8 f.d0.toNat, .int .u8 f.d1.toNat, .int .u8 f.d2.toNat, .int .u8 f.d3.toNat, .int .u8 f.d4.toNat, .int .u8 f.d5.toNat, .int .u8 f.s0.toNat, .int .u8 f.s1.toNat, .int .u8 f.s2.toNat, .int .u8 f.s3.toNat, .int .u8 f.s4.toNat, .int .u8 f.s5.toNat, .bool f.tag, .int .u8 f.pri.toNat, .int .u16 f.vid.toNat, .int .u16 f.ty.toNat, .string ⟨f.data.toArray⟩] 26))) := Lib.hid ((HB1.out.trans (hb2.mono HB1.out.size)).alloc (by have := HB1.out.size; have := hb2.size; omega) _)
  have eF : ∀ W' : World, (Op.equalIn 10000 26 (FV f) (FV f)).run Try.prog W' = .ok true W' := fun W' => by have := run_eqF f f W'; rw [Fr.same_self] at this; exact this
  clear hb2 HF1 HB1
  go_wp2_with (first | (refine wpList_load_frame 7 rfl (by kernel_rfl) (w2.heap.size) f rfl (HG2.out) ?_) | (refine wpList_load_frame 2 rfl (by kernel_rfl) (W.heap.size) f rfl (HF2.out) ?_))
  refine (HL.out _ f HDL.out).mono ?_
  rintro r w3 ⟨rfl, hb3⟩
  have HB3 : Hid (Below W.heap.size W w3) := Lib.hid (HB2.out.trans (hb3.mono HB2.out.size))
  have hln : (((b.length : Nat) : Int) != ((flen f : Nat) : Int)) = false := by rw [HLN.out]; simp
  clear hb3 st1 eF HF2 HG2
  go_upto_region 8 with (fail)
  go_wp2_with fail
  refine (HT.out _ s HSL.out).mono ?_
  have hg : ftakeF s = Fr.zero := by unfold ftakeF; rw [if_neg hs]
  rw [hg]
  obtain ⟨e, he⟩ : ∃ e, ftakeE s = e := ⟨_, rfl⟩
  rw [he] at hs ⊢
  have hse : (e != 0) = true := by simpa using hs
  have HSE := Lib.hid hse
  clear hg he hs hse
  rintro r wA ⟨rfl, hbA⟩
  have hse := HSE.out
  have st2 := stores_new wA (.int .u8 Fr.zero.d0.toNat) (.int .u8 Fr.zero.d1.toNat) (.int .u8 Fr.zero.d2.toNat) (.int .u8 Fr.zero.d3.toNat) (.int .u8 Fr.zero.d4.toNat) (.int .u8 Fr.zero.d5.toNat) (.int .u8 Fr.zero.s0.toNat) (.int .u8 Fr.zero.s1.toNat) (.int .u8 Fr.zero.s2.toNat) (.int .u8 Fr.zero.s3.toNat) (.int .u8 Fr.zero.s4.toNat) (.int .u8 Fr.zero.s5.toNat) (.bool Fr.zero.tag) (.int .u8 Fr.zero.pri.toNat) (.int .u16 Fr.zero.vid.toNat) (.int .u16 Fr.zero.ty.toNat) (.string ⟨Fr.zero.data.toArray⟩) (by kernel_rfl)
  have eZ : ∀ W' : World, (Op.equalIn 10000 26 (FV Fr.zero) (.agg #[.int .u8 0, .int .u8 0, .int .u8 0, .int .u8 0, .int .u8 0, .int .u8 0, .int .u8 0, .int .u8 0, .int .u8 0, .int .u8 0, .int .u8 0, .int .u8 0, .bool false, .int .u8 0, .int .u16 0, .int .u16 0, .string ⟨#[]⟩])).run Try.prog W' = .ok true W' := fun W' => by have := run_eqF Fr.zero Fr.zero W'; rw [Fr.same_self] at this; exact this
  have HGA := Lib.hid (FrA.new wA Fr.zero)
  have HBA : Hid (Below W.heap.size W (wA.alloc (.cells #[.int .u8 Fr.zero.d0.toNat, .int .u8 Fr.zero.d1.toNat, .int .u8 Fr.zero.d2.toNat, .int .u8 Fr.zero.d3.toNat, .int .u8 Fr.zero.d4.toNat, .int .u8 Fr.zero.d5.toNat, .int .u8 Fr.zero.s0.toNat, .int .u8 Fr.zero.s1.toNat, .int .u8 Fr.zero.s2.toNat, .int .u8 Fr.zero.s3.toNat, .int .u8 Fr.zero.s4.toNat, .int .u8 Fr.zero.s5.toNat, .bool Fr.zero.tag, .int .u8 Fr.zero.pri.toNat, .int .u16 Fr.zero.vid.toNat, .int .u16 Fr.zero.ty.toNat, .string ⟨Fr.zero.data.toArray⟩] 26))) := Lib.hid ((HB3.out.trans (hbA.mono HB3.out.size)).alloc (by have := HB3.out.size; have := hbA.size; omega) _)
  clear hbA
  go_wp2_with (refine wpList_load_frame 9 rfl (by kernel_rfl) (wA.heap.size) Fr.zero rfl (HGA.out) ?_)
  refine (HW.out _).mono ?_
  rintro r wD ⟨rfl, hbD⟩
  have HBD : Hid (Below W.heap.size W wD) := Lib.hid (HBA.out.trans (hbD.mono HBA.out.size))
  clear hbD
  go_wp2
  go_ret
  exact ⟨rfl, HBD.out⟩
set_option maxRecDepth 100000 in
set_option maxHeartbeats 8000000 in
theorem walk01 (hP : PutC) (hT : TakeC) (hL : LenC) (hW : WakesC 6) (W : World) (f : Fr) (s : List UInt8) (hlen : ¬ 2000 < f.data.length) (hsl : ¬ 2000 < s.length) (hE : ¬ fputE f = 0) (hs : ftakeE s = 0) :
    Calls Try.prog 4 #[FV f, .string ⟨s.toArray⟩] W fun e w' => e = .returned (.bool true) ∧ Below W.heap.size W w' := by
  have HP := Lib.hid hP
  have HT := Lib.hid hT
  have HL := Lib.hid hL
  have HW := Lib.hid hW
  clear hP hT hL hW
  have HF := Lib.hid (FrA.new W f)
  have HBW := Lib.hid ((Below.refl W.heap.size W).alloc (Nat.le_refl _) (.cells #[.int .u8 f.d0.toNat, .int .u8 f.d1.toNat, .int .u8 f.d2.toNat, .int .u8 f.d3.toNat, .int .u8 f.d4.toNat, .int .u8 f.d5.toNat, .int .u8 f.s0.toNat, .int .u8 f.s1.toNat, .int .u8 f.s2.toNat, .int .u8 f.s3.toNat, .int .u8 f.s4.toNat, .int .u8 f.s5.toNat, .bool f.tag, .int .u8 f.pri.toNat, .int .u16 f.vid.toNat, .int .u16 f.ty.toNat, .string ⟨f.data.toArray⟩] 26))
  have h3 : decide ((2000 : Int) < (f.data.length : Int)) = false := by simp; omega
  have h4 : decide ((2000 : Int) < (s.length : Int)) = false := by simp; omega
  have hdl : f.data.length ≤ 8388000 := by omega
  have HDL := Lib.hid hdl
  have hsl2 : s.length ≤ 8388000 := by omega
  have HSL := Lib.hid hsl2
  clear hdl hsl2
  go_enter Try.func4, Try.ntmps4
  go_wp2_with (refine wpList_load_frame 2 rfl (by kernel_rfl) (W.heap.size) f rfl (HF.out) ?_)
  refine (HP.out _ f HDL.out).mono ?_
  obtain ⟨e, he⟩ : ∃ e, fputE f = e := ⟨_, rfl⟩
  rw [he] at hE ⊢
  obtain ⟨b, hb⟩ : ∃ b, fputV f = b := ⟨_, rfl⟩
  rw [hb]
  have hee : (e == 0) = false := by simpa using hE
  clear he hE hb hlen hsl
  rintro r w1 ⟨rfl, hb1⟩
  have HB1 := Lib.hid (HBW.out.trans (hb1.mono (by simp)))
  clear hb1 HF HBW
  go_upto_region 8 with (fail)
  go_wp2_with fail
  refine (HT.out _ s HSL.out).mono ?_
  obtain ⟨hp1, hp2⟩ := put_take s hs
  have hp3 : fputV (ftakeF s) = s := by unfold fputV; rw [if_pos hp1, hp2]
  have hgl : (ftakeF s).data.length ≤ 8388000 := by have := fbytes_len (ftakeF s); rw [hp2] at this; unfold flen at this; have := HSL.out; omega
  rw [hs]
  obtain ⟨g, hg⟩ : ∃ g, ftakeF s = g := ⟨_, rfl⟩
  rw [hg] at hp1 hp2 hp3 hgl ⊢
  have HP1 := Lib.hid hp1
  have HP3 := Lib.hid hp3
  have HGL := Lib.hid hgl
  clear hp1 hp2 hp3 hgl hs hg
  rintro r wA ⟨rfl, hbA⟩
  have st2 := stores_new wA (.int .u8 g.d0.toNat) (.int .u8 g.d1.toNat) (.int .u8 g.d2.toNat) (.int .u8 g.d3.toNat) (.int .u8 g.d4.toNat) (.int .u8 g.d5.toNat) (.int .u8 g.s0.toNat) (.int .u8 g.s1.toNat) (.int .u8 g.s2.toNat) (.int .u8 g.s3.toNat) (.int .u8 g.s4.toNat) (.int .u8 g.s5.toNat) (.bool g.tag) (.int .u8 g.pri.toNat) (.int .u16 g.vid.toNat) (.int .u16 g.ty.toNat) (.string ⟨g.data.toArray⟩) (by kernel_rfl)
  have HGA := Lib.hid (FrA.new wA g)
  have HBA : Hid (Below W.heap.size W (wA.alloc (.cells #[.int .u8 g.d0.toNat, .int .u8 g.d1.toNat, .int .u8 g.d2.toNat, .int .u8 g.d3.toNat, .int .u8 g.d4.toNat, .int .u8 g.d5.toNat, .int .u8 g.s0.toNat, .int .u8 g.s1.toNat, .int .u8 g.s2.toNat, .int .u8 g.s3.toNat, .int .u8 g.s4.toNat, .int .u8 g.s5.toNat, .bool g.tag, .int .u8 g.pri.toNat, .int .u16 g.vid.toNat, .int .u16 g.ty.toNat, .string ⟨g.data.toArray⟩] 26))) := Lib.hid ((HB1.out.trans (hbA.mono HB1.out.size)).alloc (by have := HB1.out.size; have := hbA.size; omega) _)
  clear hbA
  go_wp2_with (refine wpList_load_frame 9 rfl (by kernel_rfl) (wA.heap.size) g rfl (HGA.out) ?_)
  refine (HP.out _ g HGL.out).mono ?_
  rw [HP1.out, HP3.out]
  rintro r wC ⟨rfl, hbC⟩
  have HBC : Hid (Below W.heap.size W wC) := Lib.hid (HBA.out.trans (hbC.mono HBA.out.size))
  clear hbC st2
  go_wp2_with fail
  refine (HW.out _).mono ?_
  rintro r wD ⟨rfl, hbD⟩
  have HBD : Hid (Below W.heap.size W wD) := Lib.hid (HBC.out.trans (hbD.mono HBC.out.size))
  clear hbD
  go_wp2
  go_ret
  exact ⟨rfl, HBD.out⟩
set_option maxRecDepth 100000 in
set_option maxHeartbeats 8000000 in
theorem walk00 (hP : PutC) (hT : TakeC) (hL : LenC) (hW : WakesC 6) (W : World) (f : Fr) (s : List UInt8) (hlen : ¬ 2000 < f.data.length) (hsl : ¬ 2000 < s.length) (hE : ¬ fputE f = 0) (hs : ¬ ftakeE s = 0) :
    Calls Try.prog 4 #[FV f, .string ⟨s.toArray⟩] W fun e w' => e = .returned (.bool true) ∧ Below W.heap.size W w' := by
  have HP := Lib.hid hP
  have HT := Lib.hid hT
  have HL := Lib.hid hL
  have HW := Lib.hid hW
  clear hP hT hL hW
  have HF := Lib.hid (FrA.new W f)
  have HBW := Lib.hid ((Below.refl W.heap.size W).alloc (Nat.le_refl _) (.cells #[.int .u8 f.d0.toNat, .int .u8 f.d1.toNat, .int .u8 f.d2.toNat, .int .u8 f.d3.toNat, .int .u8 f.d4.toNat, .int .u8 f.d5.toNat, .int .u8 f.s0.toNat, .int .u8 f.s1.toNat, .int .u8 f.s2.toNat, .int .u8 f.s3.toNat, .int .u8 f.s4.toNat, .int .u8 f.s5.toNat, .bool f.tag, .int .u8 f.pri.toNat, .int .u16 f.vid.toNat, .int .u16 f.ty.toNat, .string ⟨f.data.toArray⟩] 26))
  have h3 : decide ((2000 : Int) < (f.data.length : Int)) = false := by simp; omega
  have h4 : decide ((2000 : Int) < (s.length : Int)) = false := by simp; omega
  have hdl : f.data.length ≤ 8388000 := by omega
  have HDL := Lib.hid hdl
  have hsl2 : s.length ≤ 8388000 := by omega
  have HSL := Lib.hid hsl2
  clear hdl hsl2
  go_enter Try.func4, Try.ntmps4
  go_wp2_with (refine wpList_load_frame 2 rfl (by kernel_rfl) (W.heap.size) f rfl (HF.out) ?_)
  refine (HP.out _ f HDL.out).mono ?_
  obtain ⟨e, he⟩ : ∃ e, fputE f = e := ⟨_, rfl⟩
  rw [he] at hE ⊢
  obtain ⟨b, hb⟩ : ∃ b, fputV f = b := ⟨_, rfl⟩
  rw [hb]
  have hee : (e == 0) = false := by simpa using hE
  clear he hE hb hlen hsl
  rintro r w1 ⟨rfl, hb1⟩
  have HB1 := Lib.hid (HBW.out.trans (hb1.mono (by simp)))
  clear hb1 HF HBW
  go_upto_region 8 with (fail)
  go_wp2_with fail
  refine (HT.out _ s HSL.out).mono ?_
  have hg : ftakeF s = Fr.zero := by unfold ftakeF; rw [if_neg hs]
  rw [hg]
  obtain ⟨e, he⟩ : ∃ e, ftakeE s = e := ⟨_, rfl⟩
  rw [he] at hs ⊢
  have hse : (e != 0) = true := by simpa using hs
  have HSE := Lib.hid hse
  clear hg he hs hse
  rintro r wA ⟨rfl, hbA⟩
  have hse := HSE.out
  have st2 := stores_new wA (.int .u8 Fr.zero.d0.toNat) (.int .u8 Fr.zero.d1.toNat) (.int .u8 Fr.zero.d2.toNat) (.int .u8 Fr.zero.d3.toNat) (.int .u8 Fr.zero.d4.toNat) (.int .u8 Fr.zero.d5.toNat) (.int .u8 Fr.zero.s0.toNat) (.int .u8 Fr.zero.s1.toNat) (.int .u8 Fr.zero.s2.toNat) (.int .u8 Fr.zero.s3.toNat) (.int .u8 Fr.zero.s4.toNat) (.int .u8 Fr.zero.s5.toNat) (.bool Fr.zero.tag) (.int .u8 Fr.zero.pri.toNat) (.int .u16 Fr.zero.vid.toNat) (.int .u16 Fr.zero.ty.toNat) (.string ⟨Fr.zero.data.toArray⟩) (by kernel_rfl)
  have eZ : ∀ W' : World, (Op.equalIn 10000 26 (FV Fr.zero) (.agg #[.int .u8 0, .int .u8 0, .int .u8 0, .int .u8 0, .int .u8 0, .int .u8 0, .int .u8 0, .int .u8 0, .int .u8 0, .int .u8 0, .int .u8 0, .int .u8 0, .bool false, .int .u8 0, .int .u16 0, .int .u16 0, .string ⟨#[]⟩])).run Try.prog W' = .ok true W' := fun W' => by have := run_eqF Fr.zero Fr.zero W'; rw [Fr.same_self] at this; exact this
  have HGA := Lib.hid (FrA.new wA Fr.zero)
  have HBA : Hid (Below W.heap.size W (wA.alloc (.cells #[.int .u8 Fr.zero.d0.toNat, .int .u8 Fr.zero.d1.toNat, .int .u8 Fr.zero.d2.toNat, .int .u8 Fr.zero.d3.toNat, .int .u8 Fr.zero.d4.toNat, .int .u8 Fr.zero.d5.toNat, .int .u8 Fr.zero.s0.toNat, .int .u8 Fr.zero.s1.toNat, .int .u8 Fr.zero.s2.toNat, .int .u8 Fr.zero.s3.toNat, .int .u8 Fr.zero.s4.toNat, .int .u8 Fr.zero.s5.toNat, .bool Fr.zero.tag, .int .u8 Fr.zero.pri.toNat, .int .u16 Fr.zero.vid.toNat, .int .u16 Fr.zero.ty.toNat, .string ⟨Fr.zero.data.toArray⟩] 26))) := Lib.hid ((HB1.out.trans (hbA.mono HB1.out.size)).alloc (by have := HB1.out.size; have := hbA.size; omega) _)
  clear hbA
  go_wp2_with (refine wpList_load_frame 9 rfl (by kernel_rfl) (wA.heap.size) Fr.zero rfl (HGA.out) ?_)
  refine (HW.out _).mono ?_
  rintro r wD ⟨rfl, hbD⟩
  have HBD : Hid (Below W.heap.size W wD) := Lib.hid (HBA.out.trans (hbD.mono HBA.out.size))
  clear hbD
  go_wp2
  go_ret
  exact ⟨rfl, HBD.out⟩
set_option maxRecDepth 100000 in
set_option maxHeartbeats 8000000 in
theorem walkF (hP : PutC) (hT : TakeC) (hL : LenC) (hW : WakesC 6) (W : World) (f : Fr) (s : List UInt8)  :
    Calls Try.prog 4 #[FV f, .string ⟨s.toArray⟩] W fun e w' => e = .returned (.bool true) ∧ Below W.heap.size W w' := by
  have HP := Lib.hid hP
  have HT := Lib.hid hT
  have HL := Lib.hid hL
  have HW := Lib.hid hW
  clear hP hT hL hW
  have HF := Lib.hid (FrA.new W f)
  have HBW := Lib.hid ((Below.refl W.heap.size W).alloc (Nat.le_refl _) (.cells #[.int .u8 f.d0.toNat, .int .u8 f.d1.toNat, .int .u8 f.d2.toNat, .int .u8 f.d3.toNat, .int .u8 f.d4.toNat, .int .u8 f.d5.toNat, .int .u8 f.s0.toNat, .int .u8 f.s1.toNat, .int .u8 f.s2.toNat, .int .u8 f.s3.toNat, .int .u8 f.s4.toNat, .int .u8 f.s5.toNat, .bool f.tag, .int .u8 f.pri.toNat, .int .u16 f.vid.toNat, .int .u16 f.ty.toNat, .string ⟨f.data.toArray⟩] 26))
  by_cases hlen : 2000 < f.data.length
  · have h3 : decide ((2000 : Int) < (f.data.length : Int)) = true := by simp; omega
    go_enter Try.func4, Try.ntmps4
    go_wp2_with fail
    refine (HW.out _).mono ?_
    rintro r w1 ⟨rfl, hb1⟩
    go_wp2
    go_ret
    exact ⟨rfl, HBW.out.trans (hb1.mono (by simp))⟩
  have h3 : decide ((2000 : Int) < (f.data.length : Int)) = false := by simp; omega
  by_cases hsl : 2000 < s.length
  · have h4 : decide ((2000 : Int) < (s.length : Int)) = true := by simp; omega
    go_enter Try.func4, Try.ntmps4
    go_wp2_with fail
    refine (HW.out _).mono ?_
    rintro r w1 ⟨rfl, hb1⟩
    go_wp2
    go_ret
    exact ⟨rfl, HBW.out.trans (hb1.mono (by simp))⟩
  have h4 : decide ((2000 : Int) < (s.length : Int)) = false := by simp; omega
  by_cases hE : fputE f = 0
  · by_cases hs : ftakeE s = 0
    · exact walk11 HP.out HT.out HL.out HW.out W f s hlen hsl hE hs
    · exact walk10 HP.out HT.out HL.out HW.out W f s hlen hsl hE hs
  · by_cases hs : ftakeE s = 0
    · exact walk01 HP.out HT.out HL.out HW.out W f s hlen hsl hE hs
    · exact walk00 HP.out HT.out HL.out HW.out W f s hlen hsl hE hs
end Go.Proofs.Ytlghibgljmpfoaa.frameBack
