/- Layer 18: the law's wakes. -/
import Derived.Test.YtkmdgpfaaniibaaZzTe18
namespace Go.Proofs.Ytkmdgpfaaniibaa
open Go.RowKit
set_option linter.unusedVariables false
set_option linter.unusedSimpArgs false
set_option maxRecDepth 100000

theorem ris18 : risen [2] = [2] := sorted_eq (risen_sorted (by decide)) (by simp) (fun x => by
  rw [risen_mem]
  simp only [List.mem_singleton]
  exact ⟨fun h => h.1, fun h => ⟨h, by rw [h]; decide⟩⟩)
def wo18 : On := ⟨3, 1, 4, wk18a⟩
theorem wo18_may : rmMay wo18 [2] = true := by decide +kernel
def wm0 : Rm := rmNew wo18 [2]
def wm3 : Rm := rmTick (rmTick (rmTick wm0))
def wm4 : Rm := rmTick wm3
def wm5 : Rm := rmHear wm4 ⟨3, true, 4, 0, 2, wk18a⟩
def wm6 : Rm := rmHear wm5 ⟨3, false, 4, 0, 3, wk18a⟩
def wm7 : Rm := rmHear wm6 ⟨2, false, 4, 0, 2, wk18a⟩
theorem wl3 : rmLost wm3 = [] := by decide +kernel
theorem wl4 : rmLost wm4 = [2] := by decide +kernel
theorem ww5 : rmWorst wm5 = 1 := by decide +kernel
theorem ww6 : rmWorst wm6 = 3 := by decide +kernel
theorem ww7 : rmWorst wm7 = 4 := by decide +kernel
theorem wd7 : rmDef wm7 = true := by decide +kernel
theorem wa18 : wk18a.length = 48 := by decide +kernel
set_option maxHeartbeats 4000000 in
theorem wakes18 {R : World → (Nat → Prop) → Nat → Rm → Prop} (HI : RmI R) (w : World) : Calls Try.prog 7 #[] w fun r w' => r = .returned (.bool true) ∧ Below w.heap.size w w' := by
  have H := Lib.hid HI
  have KV := Lib.hid (fun w => maid18_any w)
  have wa := wa18
  have KN : Hid (∀ (A : Option Addr) (w : World), Els 1 u16c w A [2] → Calls Try.prog 8 #[.agg #[.int .u8 3, .int .u16 1, .int .u8 4, .string ⟨wk18a.toArray⟩], .slice A 1 1] w fun e w' => ∃ b S, e = .returned (.tuple #[.pointer (some ⟨b, 0, none⟩), .int .i64 0]) ∧ R w' S b wm0 ∧ (∀ k, S k → w.heap.size ≤ k) ∧ Below w.heap.size w w') := Lib.hid (fun A w h => by
    have := HI.new wo18 A 1 [2] w wo18_may h
    rw [ris18] at this
    exact this)
  have KT : Hid (∀ (w : World) S b m, R w S b m → Calls Try.prog 12 #[.pointer (some ⟨b, 0, none⟩)] w fun e w' => e = .returned (.tuple #[]) ∧ R w' S b (rmTick m) ∧ Chg S w w') := Lib.hid (fun w S b m h => HI.tick w S b m h)
  have KL3 : Hid (∀ (w : World) S b, R w S b wm3 → Calls Try.prog 16 #[.pointer (some ⟨b, 0, none⟩)] w fun e w' => ∃ A c, e = .returned (.slice A 0 c) ∧ R w' S b wm3 ∧ Below w.heap.size w w') := Lib.hid (fun w S b h => by
    have := HI.lost w S b wm3 h
    rw [wl3] at this
    exact this.mono fun _ _ ⟨A, c, h1, h2, h3, h4, h5⟩ => ⟨A, c, h1, h4, h5⟩)
  have KL4 : Hid (∀ (w : World) S b, R w S b wm4 → Calls Try.prog 16 #[.pointer (some ⟨b, 0, none⟩)] w fun e w' => ∃ A c, e = .returned (.slice A 1 c) ∧ Els 1 u16c w' A [2] ∧ (∀ a, A = some a → w.heap.size ≤ a.block) ∧ R w' S b wm4 ∧ Below w.heap.size w w') := Lib.hid (fun w S b h => by
    have := HI.lost w S b wm4 h
    rw [wl4] at this
    exact this)
  have KH5 : Hid (∀ (w : World) S b, R w S b wm4 → Calls Try.prog 13 #[.pointer (some ⟨b, 0, none⟩), .agg #[.int .u8 3, .bool true, .int .u8 4, .int .u32 0, .int .u16 2, .string ⟨wk18a.toArray⟩]] w fun e w' => e = .returned (.tuple #[]) ∧ R w' S b wm5 ∧ Chg S w w') := Lib.hid (fun w S b h => HI.hear w S b wm4 ⟨3, true, 4, 0, 2, wk18a⟩ h (by rw [wa]; decide))
  have KH6 : Hid (∀ (w : World) S b, R w S b wm5 → Calls Try.prog 13 #[.pointer (some ⟨b, 0, none⟩), .agg #[.int .u8 3, .bool false, .int .u8 4, .int .u32 0, .int .u16 3, .string ⟨wk18a.toArray⟩]] w fun e w' => e = .returned (.tuple #[]) ∧ R w' S b wm6 ∧ Chg S w w') := Lib.hid (fun w S b h => HI.hear w S b wm5 ⟨3, false, 4, 0, 3, wk18a⟩ h (by rw [wa]; decide))
  have KH7 : Hid (∀ (w : World) S b, R w S b wm6 → Calls Try.prog 13 #[.pointer (some ⟨b, 0, none⟩), .agg #[.int .u8 2, .bool false, .int .u8 4, .int .u32 0, .int .u16 2, .string ⟨wk18a.toArray⟩]] w fun e w' => e = .returned (.tuple #[]) ∧ R w' S b wm7 ∧ Chg S w w') := Lib.hid (fun w S b h => HI.hear w S b wm6 ⟨2, false, 4, 0, 2, wk18a⟩ h (by rw [wa]; decide))
  have KW5 : Hid (∀ (w : World) S b, R w S b wm5 → Calls Try.prog 19 #[.pointer (some ⟨b, 0, none⟩)] w fun e w' => e = .returned (.int .u8 1) ∧ R w' S b wm5 ∧ Below w.heap.size w w') := Lib.hid (fun w S b h => by
    have := HI.worst w S b wm5 h
    rw [ww5] at this
    exact this)
  have KW6 : Hid (∀ (w : World) S b, R w S b wm6 → Calls Try.prog 19 #[.pointer (some ⟨b, 0, none⟩)] w fun e w' => e = .returned (.int .u8 3) ∧ R w' S b wm6 ∧ Below w.heap.size w w') := Lib.hid (fun w S b h => by
    have := HI.worst w S b wm6 h
    rw [ww6] at this
    exact this)
  have KW7 : Hid (∀ (w : World) S b, R w S b wm7 → Calls Try.prog 19 #[.pointer (some ⟨b, 0, none⟩)] w fun e w' => e = .returned (.int .u8 4) ∧ R w' S b wm7 ∧ Below w.heap.size w w') := Lib.hid (fun w S b h => by
    have := HI.worst w S b wm7 h
    rw [ww7] at this
    exact this)
  have KD7 : Hid (∀ (w : World) S b, R w S b wm7 → Calls Try.prog 18 #[.pointer (some ⟨b, 0, none⟩)] w fun e w' => e = .returned (.bool true) ∧ R w' S b wm7 ∧ Below w.heap.size w w') := Lib.hid (fun w S b h => by
    have := HI.defects w S b wm7 h
    rw [wd7] at this
    exact this)
  obtain ⟨V, hV⟩ : ∃ V, wk18a = V := ⟨_, rfl⟩
  rw [hV] at KV KN KH5 KH6 KH7
  clear hV wa HI
  go_enter Try.func7, Try.ntmps7
  go_wp2_with fail
  refine (KV.out _).mono ?_
  rintro r w1 ⟨rfl, hb⟩
  have HB1 : Hid (Below w.heap.size w w1) := Lib.hid hb
  clear hb
  go_wp2_with fail
  refine (KN.out _ _ (els_one18 w1 _ (2 : UInt16) _ rfl)).mono ?_
  rintro r w2 ⟨b, S, rfl, hR, hS, hb⟩
  have hb' : Below w.heap.size w1 w2 := ((Below.refl w1.heap.size w1).alloc (Nat.le_refl _) (.cells #[.int .u16 2] 22) |>.mono HB1.out.size).trans (hb.mono (by have := HB1.out.size; simp; omega))
  have HB2 : Hid (Below w.heap.size w w2) := Lib.hid (HB1.out.trans hb')
  have HS : Hid (∀ k, S k → w.heap.size ≤ k) := Lib.hid (fun k hk => by have := hS k hk; have := HB1.out.size; simp at *; omega)
  have HR2 := Lib.hid hR
  clear hb hb' hR hS HB1 KN
  go_wp2_with fail
  refine (KT.out _ _ _ _ HR2.out).mono ?_
  rintro r w3 ⟨rfl, hR, hc⟩
  have HR3 := Lib.hid hR
  have HB3 := Lib.hid (chg_from18 HB2.out HS.out hc)
  clear hR hc HR2 HB2
  go_wp2_with fail
  refine (KT.out _ _ _ _ HR3.out).mono ?_
  rintro r w4 ⟨rfl, hR, hc⟩
  have HR4 := Lib.hid hR
  have HB4 := Lib.hid (chg_from18 HB3.out HS.out hc)
  clear hR hc HR3 HB3
  go_wp2_with fail
  refine (KT.out _ _ _ _ HR4.out).mono ?_
  rintro r w5 ⟨rfl, hR, hc⟩
  have HR5 := Lib.hid hR
  have HB5 := Lib.hid (chg_from18 HB4.out HS.out hc)
  clear hR hc HR4 HB4
  go_wp2_with fail
  refine (KL3.out _ _ _ HR5.out).mono ?_
  rintro r w6 ⟨A3, c3, rfl, hR, hb⟩
  have HR6 := Lib.hid hR
  have HB6 : Hid (Below w.heap.size w w6) := Lib.hid (HB5.out.trans (hb.mono HB5.out.size))
  clear hR hb HR5 HB5
  go_wp2_with fail
  refine (KT.out _ _ _ _ HR6.out).mono ?_
  rintro r w7 ⟨rfl, hR, hc⟩
  have HR7 := Lib.hid hR
  have HB7 := Lib.hid (chg_from18 HB6.out HS.out hc)
  clear hR hc HR6 HB6
  go_wp2_with fail
  refine (KL4.out _ _ _ HR7.out).mono ?_
  rintro r w8 ⟨A4, c4, rfl, hE, hf, hR, hb⟩
  have HL8 := Lib.hid hE
  have HF : Hid (∀ a, A4 = some a → ¬ S a.block) := Lib.hid (fun a ha hs => by have := hf a ha; have := H.out.inn _ _ _ _ HR7.out _ hs; omega)
  have HR8 := Lib.hid hR
  have HB8 : Hid (Below w.heap.size w w8) := Lib.hid (HB7.out.trans (hb.mono HB7.out.size))
  clear hR hb hE hf HR7 HB7
  go_wp2_with fail
  refine (KV.out _).mono ?_
  rintro r w9 ⟨rfl, hb⟩
  have HR9 := Lib.hid (H.out.after HR8.out hb)
  have HB9 : Hid (Below w.heap.size w w9) := Lib.hid (HB8.out.trans (hb.mono HB8.out.size))
  have HL9 := Lib.hid (HL8.out.next hb)
  clear hb HR8 HB8 HL8
  go_wp2_with fail
  refine (KH5.out _ _ _ HR9.out).mono ?_
  rintro r w10 ⟨rfl, hR, hc⟩
  have HR10 := Lib.hid hR
  have HB10 := Lib.hid (chg_from18 HB9.out HS.out hc)
  have HL10 := Lib.hid (elsL_chg HL9.out hc HF.out)
  clear hR hc HR9 HB9 HL9
  go_wp2_with fail
  refine (KW5.out _ _ _ HR10.out).mono ?_
  rintro r w11 ⟨rfl, hR, hb⟩
  have HR11 := Lib.hid hR
  have HB11 : Hid (Below w.heap.size w w11) := Lib.hid (HB10.out.trans (hb.mono HB10.out.size))
  have HL11 := Lib.hid (HL10.out.next hb)
  clear HL10
  clear hR hb HR10 HB10
  go_wp2_with fail
  refine (KV.out _).mono ?_
  rintro r w12 ⟨rfl, hb⟩
  have HR12 := Lib.hid (H.out.after HR11.out hb)
  have HB12 : Hid (Below w.heap.size w w12) := Lib.hid (HB11.out.trans (hb.mono HB11.out.size))
  have HL12 := Lib.hid (HL11.out.next hb)
  clear hb HR11 HB11 HL11
  go_wp2_with fail
  refine (KH6.out _ _ _ HR12.out).mono ?_
  rintro r w13 ⟨rfl, hR, hc⟩
  have HR13 := Lib.hid hR
  have HB13 := Lib.hid (chg_from18 HB12.out HS.out hc)
  have HL13 := Lib.hid (elsL_chg HL12.out hc HF.out)
  clear hR hc HR12 HB12 HL12
  go_wp2_with fail
  refine (KW6.out _ _ _ HR13.out).mono ?_
  rintro r w14 ⟨rfl, hR, hb⟩
  have HR14 := Lib.hid hR
  have HB14 : Hid (Below w.heap.size w w14) := Lib.hid (HB13.out.trans (hb.mono HB13.out.size))
  have HL14 := Lib.hid (HL13.out.next hb)
  clear HL13
  clear hR hb HR13 HB13
  go_wp2_with fail
  refine (KV.out _).mono ?_
  rintro r w15 ⟨rfl, hb⟩
  have HR15 := Lib.hid (H.out.after HR14.out hb)
  have HB15 : Hid (Below w.heap.size w w15) := Lib.hid (HB14.out.trans (hb.mono HB14.out.size))
  have HL15 := Lib.hid (HL14.out.next hb)
  clear hb HR14 HB14 HL14
  go_wp2_with fail
  refine (KH7.out _ _ _ HR15.out).mono ?_
  rintro r w16 ⟨rfl, hR, hc⟩
  have HR16 := Lib.hid hR
  have HB16 := Lib.hid (chg_from18 HB15.out HS.out hc)
  have HL16 := Lib.hid (elsL_chg HL15.out hc HF.out)
  clear hR hc HR15 HB15 HL15
  obtain ⟨b9, o9, rfl, hb9, c9⟩ := u16c_at (i := 0) (x := 2) HL16.out rfl
  simp only [Nat.add_zero] at c9
  go_wp2_with fail
  refine (KW7.out _ _ _ HR16.out).mono ?_
  rintro r w17 ⟨rfl, hR, hb⟩
  have HR17 := Lib.hid hR
  have HB17 : Hid (Below w.heap.size w w17) := Lib.hid (HB16.out.trans (hb.mono HB16.out.size))
  clear hR hb HR16 HB16 c9
  go_wp2_with fail
  refine (KD7.out _ _ _ HR17.out).mono ?_
  rintro r w18 ⟨rfl, hR, hb⟩
  have HB18 : Hid (Below w.heap.size w w18) := Lib.hid (HB17.out.trans (hb.mono HB17.out.size))
  go_wp2
  go_ret
  exact ⟨rfl, HB18.out⟩
end Go.Proofs.Ytkmdgpfaaniibaa
