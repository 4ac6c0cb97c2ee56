/- Layer 18: RemoteNil's walk. -/
import Derived.Test.YtkmdgpfaaniibaaZzWk18
import Derived.Deep.DeepCutAuto
namespace Go.Proofs.Ytkmdgpfaaniibaa
open Go.RowKit
set_option linter.unusedVariables false
set_option linter.unusedSimpArgs false
set_option maxRecDepth 100000

set_option maxHeartbeats 4000000 in
theorem nil18_walk {R : World → (Nat → Prop) → Nat → Rm → Prop} (HI : RmI R) (W : World) (c : Ck) (i : UInt8) :
    Calls Try.prog 4 #[.agg #[.int .u8 c.l.toNat, .bool c.r, .int .u8 c.i.toNat, .int .u32 c.q.toNat, .int .u16 c.m.toNat, .string ⟨c.a.toArray⟩], .int .u8 i.toNat] W fun e w' => e = .returned (.bool true) ∧ Below W.heap.size W w' := by
  have H := Lib.hid HI
  have KWK := Lib.hid (fun w => wakes18 HI w)
  have HB0 : Hid (Below W.heap.size W (W.alloc (.cells #[.int .u8 c.l.toNat, .bool c.r, .int .u8 c.i.toNat, .int .u32 c.q.toNat, .int .u16 c.m.toNat, .string ⟨c.a.toArray⟩] 40))) := Lib.hid ((Below.refl _ _).alloc (Nat.le_refl _) _)
  have HK0 : Hid (Blk (W.alloc (.cells #[.int .u8 c.l.toNat, .bool c.r, .int .u8 c.i.toNat, .int .u32 c.q.toNat, .int .u16 c.m.toNat, .string ⟨c.a.toArray⟩] 40)) W.heap.size 40 #[.int .u8 c.l.toNat, .bool c.r, .int .u8 c.i.toNat, .int .u32 c.q.toNat, .int .u16 c.m.toNat, .string ⟨c.a.toArray⟩]) := Lib.hid (Blk.new _ _ _)
  obtain ⟨q, hq⟩ : ∃ q, c.a.length = q := ⟨_, rfl⟩
  have hsz : (⟨c.a.toArray⟩ : ByteArray).size = q := by rw [← hq]; simp [ByteArray.size]
  have KC := Lib.hid (fun w => check18_any c w)
  have c0 := HK0.out.cell 0
  have c1 := HK0.out.cell 1
  have c2 := HK0.out.cell 2
  have c3 := HK0.out.cell 3
  have c4 := HK0.out.cell 4
  have c5 := HK0.out.cell 5
  simp only [List.getElem?_toArray, List.getElem?_cons_succ, List.getElem?_cons_zero] at c0 c1 c2 c3 c4 c5
  by_cases h1 : 100 < q
  · have p1 : (100 : Int) < (q : Int) := by omega
    clear h1 hq HI
    go_enter Try.func4, Try.ntmps4
    go_wp2_with fail
    refine (KWK.out _).mono ?_
    rintro r w1 ⟨rfl, hb⟩
    have HBz : Hid (Below W.heap.size W w1) := Lib.hid (HB0.out.trans (hb.mono HB0.out.size))
    go_wp2
    go_ret
    exact ⟨rfl, HBz.out⟩
  have p1 : ¬ (100 : Int) < (q : Int) := by omega
  have KH := Lib.hid (fun w => HI.hearN w c (by omega))
  have KL := Lib.hid (fun w => HI.lasts i w)
  have KR := Lib.hid (fun w => lasts_any i w)
  obtain ⟨L, hL⟩ : ∃ L, lsN i = L := ⟨_, rfl⟩
  rw [hL] at KL KR
  clear h1 hq HI hL
  go_enter Try.func4, Try.ntmps4
  go_wp2_with fail
  refine (KC.out _).mono ?_
  rintro r w1 ⟨rfl, hb⟩
  have HB1 : Hid (Below W.heap.size W w1) := Lib.hid (HB0.out.trans (hb.mono HB0.out.size))
  clear hb HB0 c0 c1 c2 c3 c4 c5
  go_wp2_with fail
  refine (KH.out _).mono ?_
  rintro r w2 ⟨rfl, hb⟩
  have HB2 : Hid (Below W.heap.size W w2) := Lib.hid (HB1.out.trans (hb.mono HB1.out.size))
  clear hb HB1 
  go_wp2_with fail
  refine (H.out.tickN _).mono ?_
  rintro r w3 ⟨rfl, hb⟩
  have HB3 : Hid (Below W.heap.size W w3) := Lib.hid (HB2.out.trans (hb.mono HB2.out.size))
  clear hb HB2 
  go_wp2_with fail
  refine (H.out.lostN _).mono ?_
  rintro r w4 ⟨A1, d1, rfl, hb⟩
  have HB4 : Hid (Below W.heap.size W w4) := Lib.hid (HB3.out.trans (hb.mono HB3.out.size))
  clear hb HB3 
  go_wp2_with fail
  refine (H.out.rdisN _).mono ?_
  rintro r w5 ⟨A2, d2, rfl, hb⟩
  have HB5 : Hid (Below W.heap.size W w5) := Lib.hid (HB4.out.trans (hb.mono HB4.out.size))
  clear hb HB4 
  go_wp2_with fail
  refine (H.out.defectsN _).mono ?_
  rintro r w6 ⟨rfl, hb⟩
  have HB6 : Hid (Below W.heap.size W w6) := Lib.hid (HB5.out.trans (hb.mono HB5.out.size))
  clear hb HB5 
  go_wp2_with fail
  refine (H.out.worstN _).mono ?_
  rintro r w7 ⟨rfl, hb⟩
  have HB7 : Hid (Below W.heap.size W w7) := Lib.hid (HB6.out.trans (hb.mono HB6.out.size))
  clear hb HB6 
  go_wp2_with fail
  refine (KL.out _).mono ?_
  rintro r w8 ⟨rfl, hb⟩
  have HB8 : Hid (Below W.heap.size W w8) := Lib.hid (HB7.out.trans (hb.mono HB7.out.size))
  clear hb HB7 
  go_wp2_with fail
  refine (KR.out _).mono ?_
  rintro r w9 ⟨rfl, rfl⟩
  go_wp2_with fail
  refine (KWK.out _).mono ?_
  rintro r w10 ⟨rfl, hb⟩
  have HBz : Hid (Below W.heap.size W w10) := Lib.hid (HB8.out.trans (hb.mono HB8.out.size))
  go_wp2
  go_ret
  exact ⟨rfl, HBz.out⟩
end Go.Proofs.Ytkmdgpfaaniibaa
