/- The law's Of: a word of the document as the program's. -/
import Derived.Test.YtlpmilaofcakbaaBp
import Derived.Test.YtlpmilaofcakbaaVecW
import Derived.Deep.DeepCutAuto
namespace Go.Proofs.Ytlpmilaofcakbaa
open Go.RowKit
set_option linter.unusedVariables false
set_option linter.unusedSimpArgs false
set_option maxRecDepth 100000

set_option maxRecDepth 100000 in
set_option maxHeartbeats 2000000 in
theorem lof_any (w : World) (x : Bp) : Calls Try.prog 19 #[BV x] w fun e w' => e = .returned (BV x) ∧ Gro w w' := by
  obtain ⟨b, hb⟩ : ∃ b, w.heap.size = b := ⟨_, rfl⟩
  obtain ⟨w1, hw1⟩ : ∃ w1, (w.alloc (.cells #[.int .u64 x.v.r, .int .u32 x.v.c, .int .u64 x.v.b, .int .u8 x.v.p, .int .u8 x.h, .int .u64 x.ver, .int .u8 x.role, .bool x.pr, .bool x.ag, .bool x.tp, .int .u64 x.ec] 37)).alloc (.cells #[.int .u64 0, .int .u32 0, .int .u64 0, .int .u8 0, .int .u8 0, .int .u64 0, .int .u8 0, .bool false, .bool false, .bool false, .int .u64 0] 54) = w1 := ⟨_, rfl⟩
  have HG := Lib.hid (show Gro w w1 by rw [← hw1]; exact ((Gro.refl w).alloc _).alloc _)
  have HX := Lib.hid (show BpA 37 w1 b x by rw [← hw1, ← hb]; exact Blk.alloc (BpA.new 37 w x) _)
  have HZ := Lib.hid (show BpA 54 w1 (b + 1) Bp.zero by rw [← hw1, ← hb]; have := BpA.zero 54 (w.alloc (.cells #[.int .u64 x.v.r, .int .u32 x.v.c, .int .u64 x.v.b, .int .u8 x.v.p, .int .u8 x.h, .int .u64 x.ver, .int .u8 x.role, .bool x.pr, .bool x.ag, .bool x.tp, .int .u64 x.ec] 37)); simpa using this)
  have HW := Lib.hid (And.intro hw1 hb)
  clear hw1 hb
  go_enter Try.func19, Try.ntmps19
  go_upto_region 1 with fail
  rw [HW.out.1, HW.out.2]
  obtain ⟨x0, x1, x2, x3, x4, x5, x6, x7, x8, x9, x10⟩ := HX.out.cells
  clear x4 x5 x6 x7 x8 x9 x10
  go_upto_region 2 with fail
  have hba := (Below.refl w1.heap.size w1).alloc (Nat.le_refl _) (.cells #[.int .u64 x.v.r, .int .u32 x.v.c, .int .u64 x.v.b, .int .u8 x.v.p] 52)
  obtain ⟨w2, hw2⟩ : ∃ w2, w1.alloc (.cells #[.int .u64 x.v.r, .int .u32 x.v.c, .int .u64 x.v.b, .int .u8 x.v.p] 52) = w2 := ⟨_, rfl⟩
  obtain ⟨c, hc⟩ : ∃ c, w1.heap.size = c := ⟨_, rfl⟩
  have HV := Lib.hid (show VA w2 c x.v by rw [← hw2, ← hc]; exact VA.new w1 x.v)
  rw [hw2] at hba
  have HX2 := Lib.hid (HX.out.next hba)
  have HZ2 := Lib.hid (HZ.out.next hba)
  have HG2 := Lib.hid (show Gro w w2 by rw [← hw2]; exact HG.out.alloc _)
  have HW2 := Lib.hid (And.intro hw2 hc)
  clear hba hw2 hc x0 x1 x2 x3 HX HZ HG
  rw [HW2.out.1, HW2.out.2]
  clear HW2
  obtain ⟨x0, x1, x2, x3, x4, x5, x6, x7, x8, x9, x10⟩ := HX2.out.cells
  clear x0 x1 x2 x3
  obtain ⟨v0, v1, v2, v3⟩ := HV.out.cells
  go_wp2_with (refine store_bp rfl 2 32 rfl (b + 1) x Bp.zero rfl rfl HZ2.out ?_)
  exact bodyPost_ret (v := BV x) (results_cell_row (p := 2) (by kernel_rfl) _ _ (b + 1) 54 _ (0, 0) _ rfl (Blk.row HZ2.out _) Try.underlying54 rfl (by kernel_rfl)) rfl ⟨rfl, below_row HG2.out.below (by have := HW.out.2; omega) _, HG2.out.drawn⟩
end Go.Proofs.Ytlpmilaofcakbaa
