/- Layer 16: the law's wakes, Does of nil, ConfigNil's walk, over the bundle. -/
import Derived.Test.YtfdiolfelecccaaZzSame16
namespace Go.Proofs.Ytfdiolfelecccaa
open Go.RowKit
set_option linter.unusedVariables false
set_option linter.unusedSimpArgs false
set_option maxRecDepth 100000

def wkA : As := ⟨3, [], [97], 1, 4, [1, 2]⟩
def wkE : Mp := ⟨0, 1, 0, true⟩
def wkT (n : Nat) : Tb := ⟨2, if n < 1 then [] else [wkA], if n < 2 then [] else [wkE], if n < 3 then [] else [⟨0, 1, 4⟩]⟩
theorem wk16_ok : asM wkA = true := by decide +kernel
theorem wk16_a : (wkT 0).addA wkA = (wkT 1, 0, 0) := by
  unfold Tb.addA
  rw [if_neg (by rw [wk16_ok]; decide)]
  rfl
theorem wk16_b : (wkT 1).addE wkE = (wkT 2, 0) := by rfl
theorem wk16_c : (wkT 2).addM ⟨0, 1, 3⟩ = (wkT 2, 9) := by rfl
theorem wk16_d : (wkT 2).addM ⟨0, 1, 4⟩ = (wkT 3, 0) := by rfl
theorem wk16_e : (wkT 3).set 0 1 false = 0 ∧ (wkT 3).set 0 1 true = 8 ∧ (wkT 3).mid 0 1 = 4 := by decide +kernel
theorem wk16_s (n : Nat) : Sm (wkT n) 1000 := by
  unfold wkT
  refine ⟨?_, ?_, ?_⟩
  all_goals (simp only; split <;> simp)
set_option maxHeartbeats 8000000 in
theorem wakes16 {R : (Nat → Prop) → World → Nat → Tb → Prop} (HH : CgI R) (w : World) : Calls Try.prog 7 #[] w fun r w' => r = .returned (.bool true) ∧ Below w.heap.size w w' := by
  have H := Lib.hid HH
  have K1 : Hid (∀ w, Calls Try.prog 8 #[.int .i64 2] w fun e w' => ∃ S b, e = .returned (.tuple #[.pointer (some ⟨b, 0, none⟩), .int .i64 0]) ∧ R S w' b (wkT 0) ∧ (∀ k, S k → w.heap.size ≤ k) ∧ Below w.heap.size w w') := Lib.hid (fun w => HH.new 2 w (by decide) (by decide))
  have K2 : Hid (∀ S w b B c, R S w b (wkT 0) → Els 1 u16c w B [1, 2] → (B = none → c = 0) → Calls Try.prog 17 #[.pointer (some ⟨b, 0, none⟩), .agg #[.int .u8 3, .string ⟨#[]⟩, .string ⟨#[97]⟩, .int .u16 1, .int .u8 4, .slice B 2 c]] w fun e w' => ∃ S', e = .returned (.tuple #[.int .i64 0, .int .i64 0]) ∧ R S' w' b (wkT 1) ∧ StepT S S' w w') := Lib.hid (fun S w b B c h h1 h2 => by
    have := HH.addA S w b (wkT 0) wkA B c h (wk16_s 0) h1 h2 (by decide) (by decide) (by decide)
    rw [wk16_a] at this
    exact this)
  have K3 : Hid (∀ S w b, R S w b (wkT 1) → Calls Try.prog 18 #[.pointer (some ⟨b, 0, none⟩), .agg #[.int .i64 0, .int .u16 1, .int .u8 0, .bool true]] w fun e w' => ∃ S', e = .returned (.int .i64 0) ∧ R S' w' b (wkT 2) ∧ StepT S S' w w') := Lib.hid (fun S w b h => by
    have := HH.addE S w b (wkT 1) wkE h (wk16_s 1)
    rw [wk16_b] at this
    exact this)
  have K4 : Hid (∀ S w b, R S w b (wkT 2) → Calls Try.prog 19 #[.pointer (some ⟨b, 0, none⟩), .agg #[.int .u8 0, .int .u16 1, .int .u8 3]] w fun e w' => ∃ S', e = .returned (.int .i64 9) ∧ R S' w' b (wkT 2) ∧ StepT S S' w w') := Lib.hid (fun S w b h => by
    have := HH.addM S w b (wkT 2) ⟨0, 1, 3⟩ h (wk16_s 2)
    rw [wk16_c] at this
    exact this)
  have K5 : Hid (∀ S w b, R S w b (wkT 2) → Calls Try.prog 19 #[.pointer (some ⟨b, 0, none⟩), .agg #[.int .u8 0, .int .u16 1, .int .u8 4]] w fun e w' => ∃ S', e = .returned (.int .i64 0) ∧ R S' w' b (wkT 3) ∧ StepT S S' w w') := Lib.hid (fun S w b h => by
    have := HH.addM S w b (wkT 2) ⟨0, 1, 4⟩ h (wk16_s 2)
    rw [wk16_d] at this
    exact this)
  have K6 : Hid (∀ S w b, R S w b (wkT 3) → Calls Try.prog 14 #[.pointer (some ⟨b, 0, none⟩), .int .u8 0, .int .u16 1] w fun e w' => e = .returned (.agg #[.int .u8 0, .int .u8 8, .int .i64 4]) ∧ R S w' b (wkT 3) ∧ Below w.heap.size w w') := Lib.hid (fun S w b h => by
    have := HH.att S w b (wkT 3) 0 1 h (wk16_s 3)
    rw [wk16_e.1, wk16_e.2.1, wk16_e.2.2] at this
    exact this)
  have K7 : Hid (∀ S w b, R S w b (wkT 3) → Calls Try.prog 13 #[.pointer (some ⟨b, 0, none⟩)] w fun e w' => ∃ B c, e = .returned (.slice B 1 c) ∧ Below w.heap.size w w') := Lib.hid (fun S w b h => (HH.meps S w b (wkT 3) h (wk16_s 3)).mono fun e w' ⟨B, c, h1, _, _, _, h2, _⟩ => ⟨B, c, h1, h2⟩)
  have q : ∀ w : World, (Op.equalIn 10000 56 (.agg #[.int .u8 0, .int .u8 8, .int .i64 4]) (.agg #[.int .u8 0, .int .u8 8, .int .i64 4])).run Try.prog w = .ok true w := fun w => run_eqAt 0 8 4 w
  clear HH
  go_enter Try.func7, Try.ntmps7
  go_wp2_with fail
  refine (K1.out _).mono ?_
  rintro e_ w1 ⟨S1, b, rfl, hr, hs, hb⟩
  have HR1 := Lib.hid (H.out.next hr ((Below.refl _ _).alloc (Nat.le_refl _) (.cells #[.int .u16 1, .int .u16 2] 23)))
  have HS1 := Lib.hid hs
  have HB1 : Hid (Below w.heap.size w (w1.alloc (.cells #[.int .u16 1, .int .u16 2] 23))) := Lib.hid (hb.alloc hb.size _)
  have HE1 : Hid (Els 1 u16c (w1.alloc (.cells #[.int .u16 1, .int .u16 2] 23)) (some ⟨w1.heap.size, 0, none⟩) [1, 2]) := Lib.hid (by
    intro _
    refine ⟨_, 0, rfl, by simp, fun i hi j v hv => ?_⟩
    have := (Blk.new w1 23 #[.int .u16 1, .int .u16 2]).cell i
    match i, hi with
    | 0, _ => match j with
      | 0 => exact this.trans (by simpa [u16c] using hv)
      | _ + 1 => simp [u16c] at hv
    | 1, _ => match j with
      | 0 => exact this.trans (by simpa [u16c] using hv)
      | _ + 1 => simp [u16c] at hv)
  clear hr hs hb K1
  go_wp2_with fail
  refine (K2.out _ _ _ _ _ HR1.out HE1.out (fun h => by cases h)).mono ?_
  rintro e_ w2 ⟨S2, rfl, hr, hst⟩
  have HR2 := Lib.hid hr
  have HB2 : Hid (Below w.heap.size w w2) := Lib.hid (HB1.out.trans (hst.chg.below HB1.out.size (fun k hk h => by have := HS1.out k h; omega)))
  have HS2 : Hid (∀ k, S2 k → w.heap.size ≤ k) := Lib.hid (fun k h => (hst.own k h).elim (HS1.out k) (fun h' => Nat.le_trans HB1.out.size h'))
  clear hr hst HR1 HS1 HB1 HE1 K2
  go_wp2_with fail
  refine (K3.out _ _ _ HR2.out).mono ?_
  rintro e_ w3 ⟨S3, rfl, hr, hst⟩
  have HR3 := Lib.hid hr
  have HB3 : Hid (Below w.heap.size w w3) := Lib.hid (HB2.out.trans (hst.chg.below HB2.out.size (fun k hk h => by have := HS2.out k h; omega)))
  have HS3 : Hid (∀ k, S3 k → w.heap.size ≤ k) := Lib.hid (fun k h => (hst.own k h).elim (HS2.out k) (fun h' => Nat.le_trans HB2.out.size h'))
  clear hr hst HR2 HS2 HB2 K3
  go_wp2_with fail
  refine (K4.out _ _ _ HR3.out).mono ?_
  rintro e_ w4 ⟨S4, rfl, hr, hst⟩
  have HR4 := Lib.hid hr
  have HB4 : Hid (Below w.heap.size w w4) := Lib.hid (HB3.out.trans (hst.chg.below HB3.out.size (fun k hk h => by have := HS3.out k h; omega)))
  have HS4 : Hid (∀ k, S4 k → w.heap.size ≤ k) := Lib.hid (fun k h => (hst.own k h).elim (HS3.out k) (fun h' => Nat.le_trans HB3.out.size h'))
  clear hr hst HR3 HS3 HB3 K4
  go_wp2_with fail
  refine (K5.out _ _ _ HR4.out).mono ?_
  rintro e_ w5 ⟨S5, rfl, hr, hst⟩
  have HR5 := Lib.hid hr
  have HB5 : Hid (Below w.heap.size w w5) := Lib.hid (HB4.out.trans (hst.chg.below HB4.out.size (fun k hk h => by have := HS4.out k h; omega)))
  clear hr hst HR4 HS4 HB4 K5
  go_wp2_with fail
  refine (K6.out _ _ _ HR5.out).mono ?_
  rintro e_ w6 ⟨rfl, hr, hb⟩
  have HR6 := Lib.hid hr
  have HB6 : Hid (Below w.heap.size w w6) := Lib.hid (HB5.out.trans (hb.mono HB5.out.size))
  clear hr hb HR5 HB5 K6
  go_wp2_with fail
  refine (K7.out _ _ _ HR6.out).mono ?_
  rintro e_ w7 ⟨B, c, rfl, hb⟩
  have HB7 : Hid (Below w.heap.size w w7) := Lib.hid (HB6.out.trans (hb.mono HB6.out.size))
  clear hb HR6 HB6 K7
  go_wp2
  go_ret
  exact ⟨rfl, HB7.out⟩
set_option maxHeartbeats 8000000 in
theorem doesnil16_any {R : (Nat → Prop) → World → Nat → Tb → Prop} (HH : CgI R) (w : World) (x : Ac) (B : Option Addr) (c : Nat) :
    Calls Try.prog 9 #[.pointer none, AcV x B c] w fun e w' => e = .returned (.tuple #[.int .i64 0, .int .i64 1]) ∧ Below w.heap.size w w' := by
  have H := Lib.hid HH
  have HB0 : Hid (Below w.heap.size w (w.alloc (.cells #[.int .u8 x.k.toNat, .int .u8 x.a.l.toNat, .string ⟨x.a.d.toArray⟩, .string ⟨x.a.n.toArray⟩, .int .u16 x.a.v.toNat, .int .u8 x.a.i.toNat, .slice B x.a.m.length c, .int .i64 x.e.a, .int .u16 x.e.m.toNat, .int .u8 x.e.p.toNat, .bool x.e.u, .int .u8 x.m.p.toNat, .int .u16 x.m.v.toNat, .int .u8 x.m.l.toNat] 43))) := Lib.hid ((Below.refl _ _).alloc (Nat.le_refl _) _)
  have HK0 := Blk.new w 43 #[.int .u8 x.k.toNat, .int .u8 x.a.l.toNat, .string ⟨x.a.d.toArray⟩, .string ⟨x.a.n.toArray⟩, .int .u16 x.a.v.toNat, .int .u8 x.a.i.toNat, .slice B x.a.m.length c, .int .i64 x.e.a, .int .u16 x.e.m.toNat, .int .u8 x.e.p.toNat, .bool x.e.u, .int .u8 x.m.p.toNat, .int .u16 x.m.v.toNat, .int .u8 x.m.l.toNat]
  have a0 := HK0.cell 0
  have a1 := HK0.cell 1
  have a2 := HK0.cell 2
  have a3 := HK0.cell 3
  have a4 := HK0.cell 4
  have a5 := HK0.cell 5
  have a6 := HK0.cell 6
  have a7 := HK0.cell 7
  have a8 := HK0.cell 8
  have a9 := HK0.cell 9
  have a10 := HK0.cell 10
  have a11 := HK0.cell 11
  have a12 := HK0.cell 12
  have a13 := HK0.cell 13
  simp only [List.getElem?_toArray, List.getElem?_cons_succ, List.getElem?_cons_zero] at a0 a1 a2 a3 a4 a5 a6 a7 a8 a9 a10 a11 a12 a13
  clear HK0 HH
  show Calls _ _ #[_, .agg #[.int .u8 x.k.toNat, .int .u8 x.a.l.toNat, .string ⟨x.a.d.toArray⟩, .string ⟨x.a.n.toArray⟩, .int .u16 x.a.v.toNat, .int .u8 x.a.i.toNat, .slice B x.a.m.length c, .int .i64 x.e.a, .int .u16 x.e.m.toNat, .int .u8 x.e.p.toNat, .bool x.e.u, .int .u8 x.m.p.toNat, .int .u16 x.m.v.toNat, .int .u8 x.m.l.toNat]] _ _
  by_cases h0 : x.k = 0
  · have q0 : ((x.k.toNat : Int) == 0) = true := by rw [h0]; rfl
    clear h0
    go_enter Try.func9, Try.ntmps9
    go_wp2_with fail
    refine (mep16_any x.e _).mono ?_
    rintro r w1 ⟨rfl, hb1⟩
    have HB1 : Hid (Below w.heap.size w w1) := Lib.hid (HB0.out.trans (hb1.mono HB0.out.size))
    clear hb1 HB0
    go_wp2_with fail
    refine (H.out.addEN _ x.e).mono ?_
    rintro r w2 ⟨rfl, hb2⟩
    have HB2 : Hid (Below w.heap.size w w2) := Lib.hid (HB1.out.trans (hb2.mono HB1.out.size))
    clear hb2
    go_wp2
    go_ret2
    exact ⟨rfl, HB2.out⟩
  by_cases h1 : x.k = 1
  · have q0 : ((x.k.toNat : Int) == 0) = false := by rw [h1]; rfl
    have q1 : ((x.k.toNat : Int) == 1) = true := by rw [h1]; rfl
    clear h0 h1
    go_enter Try.func9, Try.ntmps9
    have HB1 := HB0
    go_wp2_with fail
    refine (H.out.dropEN _ x.e.a x.e.m).mono ?_
    rintro r w2 ⟨rfl, hb2⟩
    have HB2 : Hid (Below w.heap.size w w2) := Lib.hid (HB1.out.trans (hb2.mono HB1.out.size))
    clear hb2
    go_wp2
    go_ret2
    exact ⟨rfl, HB2.out⟩
  by_cases h2 : x.k = 2
  · have q0 : ((x.k.toNat : Int) == 0) = false := by rw [h2]; rfl
    have q1 : ((x.k.toNat : Int) == 1) = false := by rw [h2]; rfl
    have q2 : ((x.k.toNat : Int) == 2) = true := by rw [h2]; rfl
    clear h0 h1 h2
    go_enter Try.func9, Try.ntmps9
    go_wp2_with fail
    refine (mip16_any x.m _).mono ?_
    rintro r w1 ⟨rfl, hb1⟩
    have HB1 : Hid (Below w.heap.size w w1) := Lib.hid (HB0.out.trans (hb1.mono HB0.out.size))
    clear hb1 HB0
    go_wp2_with fail
    refine (H.out.addMN _ x.m).mono ?_
    rintro r w2 ⟨rfl, hb2⟩
    have HB2 : Hid (Below w.heap.size w w2) := Lib.hid (HB1.out.trans (hb2.mono HB1.out.size))
    clear hb2
    go_wp2
    go_ret2
    exact ⟨rfl, HB2.out⟩
  by_cases h3 : x.k = 3
  · have q0 : ((x.k.toNat : Int) == 0) = false := by rw [h3]; rfl
    have q1 : ((x.k.toNat : Int) == 1) = false := by rw [h3]; rfl
    have q2 : ((x.k.toNat : Int) == 2) = false := by rw [h3]; rfl
    have q3 : ((x.k.toNat : Int) == 3) = true := by rw [h3]; rfl
    clear h0 h1 h2 h3
    go_enter Try.func9, Try.ntmps9
    have HB1 := HB0
    go_wp2_with fail
    refine (H.out.dropMN _ x.m.p x.m.v).mono ?_
    rintro r w2 ⟨rfl, hb2⟩
    have HB2 : Hid (Below w.heap.size w w2) := Lib.hid (HB1.out.trans (hb2.mono HB1.out.size))
    clear hb2
    go_wp2
    go_ret2
    exact ⟨rfl, HB2.out⟩
  · have q0 : ((x.k.toNat : Int) == 0) = false := u8_ne (b := 0) h0
    have q1 : ((x.k.toNat : Int) == 1) = false := u8_ne (b := 1) h1
    have q2 : ((x.k.toNat : Int) == 2) = false := u8_ne (b := 2) h2
    have q3 : ((x.k.toNat : Int) == 3) = false := u8_ne (b := 3) h3
    clear h0 h1 h2 h3
    go_enter Try.func9, Try.ntmps9
    go_wp2_with fail
    refine (assoc16_any x.a B c _).mono ?_
    rintro r w1 ⟨rfl, hb1⟩
    have HB1 : Hid (Below w.heap.size w w1) := Lib.hid (HB0.out.trans (hb1.mono HB0.out.size))
    clear hb1 HB0
    go_wp2_with fail
    refine (H.out.addAN _ x.a B c).mono ?_
    rintro r w2 ⟨rfl, hb2⟩
    have HB2 : Hid (Below w.heap.size w w2) := Lib.hid (HB1.out.trans (hb2.mono HB1.out.size))
    clear hb2
    go_wp2
    go_ret2
    exact ⟨rfl, HB2.out⟩
end Go.Proofs.Ytfdiolfelecccaa
