/- Layer 17: LevelTells's walk, over the package's contracts. -/
import Derived.Test.YtpoeamamdiomkaaLaw17
import Derived.Deep.RegionHeld3
import Derived.Deep.DeepCutAuto
namespace Go.Proofs.Ytpoeamamdiomkaa
open Go.RowKit
set_option linter.unusedVariables false
set_option linter.unusedSimpArgs false
set_option maxRecDepth 100000

theorem keep17t {W w w' : World} {gA gD gU : Nat} {d u : UInt8} {m : Int} (h0 : w.cell? ⟨gA, 0, none⟩ = some (.int .u8 d.toNat)) (h1 : w.cell? ⟨gA, 1, none⟩ = some (.int .u8 u.toNat)) (h2 : w.cell? ⟨gA, 2, none⟩ = some (.int .i64 m)) (h3 : w.cell? ⟨gD, 0, none⟩ = some (.bool (bt d 0))) (h4 : w.cell? ⟨gD, 1, none⟩ = some (.bool (bt d 1))) (h5 : w.cell? ⟨gD, 2, none⟩ = some (.bool (bt d 2))) (h6 : w.cell? ⟨gD, 3, none⟩ = some (.bool (bt d 3))) (h7 : w.cell? ⟨gD, 4, none⟩ = some (.bool (bt d 4))) (h8 : w.cell? ⟨gD, 5, none⟩ = some (.bool (bt d 5))) (h9 : w.cell? ⟨gD, 6, none⟩ = some (.bool (bt d 6))) (h10 : w.cell? ⟨gD, 7, none⟩ = some (.bool (bt d 7))) (h11 : w.cell? ⟨gU, 0, none⟩ = some (.bool (bt u 0))) (h12 : w.cell? ⟨gU, 1, none⟩ = some (.bool (bt u 1))) (h13 : w.cell? ⟨gU, 2, none⟩ = some (.bool (bt u 2))) (h14 : w.cell? ⟨gU, 3, none⟩ = some (.bool (bt u 3))) (h15 : w.cell? ⟨gU, 4, none⟩ = some (.bool (bt u 4))) (h16 : w.cell? ⟨gU, 5, none⟩ = some (.bool (bt u 5))) (h17 : w.cell? ⟨gU, 6, none⟩ = some (.bool (bt u 6))) (h18 : w.cell? ⟨gU, 7, none⟩ = some (.bool (bt u 7)))  (hB : Hid (Below W.heap.size W w)) (hb : Below w.heap.size w w') : w'.cell? ⟨gA, 0, none⟩ = some (.int .u8 d.toNat) ∧ w'.cell? ⟨gA, 1, none⟩ = some (.int .u8 u.toNat) ∧ w'.cell? ⟨gA, 2, none⟩ = some (.int .i64 m) ∧ w'.cell? ⟨gD, 0, none⟩ = some (.bool (bt d 0)) ∧ w'.cell? ⟨gD, 1, none⟩ = some (.bool (bt d 1)) ∧ w'.cell? ⟨gD, 2, none⟩ = some (.bool (bt d 2)) ∧ w'.cell? ⟨gD, 3, none⟩ = some (.bool (bt d 3)) ∧ w'.cell? ⟨gD, 4, none⟩ = some (.bool (bt d 4)) ∧ w'.cell? ⟨gD, 5, none⟩ = some (.bool (bt d 5)) ∧ w'.cell? ⟨gD, 6, none⟩ = some (.bool (bt d 6)) ∧ w'.cell? ⟨gD, 7, none⟩ = some (.bool (bt d 7)) ∧ w'.cell? ⟨gU, 0, none⟩ = some (.bool (bt u 0)) ∧ w'.cell? ⟨gU, 1, none⟩ = some (.bool (bt u 1)) ∧ w'.cell? ⟨gU, 2, none⟩ = some (.bool (bt u 2)) ∧ w'.cell? ⟨gU, 3, none⟩ = some (.bool (bt u 3)) ∧ w'.cell? ⟨gU, 4, none⟩ = some (.bool (bt u 4)) ∧ w'.cell? ⟨gU, 5, none⟩ = some (.bool (bt u 5)) ∧ w'.cell? ⟨gU, 6, none⟩ = some (.bool (bt u 6)) ∧ w'.cell? ⟨gU, 7, none⟩ = some (.bool (bt u 7)) ∧ Hid (Below W.heap.size W w') := by
  have hk : ∀ {g i : Nat} {v : Value}, w.cell? ⟨g, i, none⟩ = some v → w'.cell? ⟨g, i, none⟩ = some v := fun {g i v} h => (hb.cell (p := ⟨g, i, none⟩) (World.block_lt_of_cell? w _ h)).trans h
  exact ⟨hk h0, hk h1, hk h2, hk h3, hk h4, hk h5, hk h6, hk h7, hk h8, hk h9, hk h10, hk h11, hk h12, hk h13, hk h14, hk h15, hk h16, hk h17, hk h18, Lib.hid (hB.out.trans (hb.mono hB.out.size))⟩
set_option maxHeartbeats 8000000 in
theorem leveltells_walk (HWC : LvWireC) (HRC : LvRelayC) (W : World) (d u : UInt8) (m : Int) (l : UInt8) :
    Calls Try.prog 3 #[.int .u8 d.toNat, .int .u8 u.toNat, .int .i64 m, .int .u8 l.toNat] W fun e w' => e = .returned (.bool true) ∧ Below W.heap.size W w' := by
  have HW := Lib.hid HWC
  have HR := Lib.hid HRC
  clear HWC HRC
  obtain ⟨F1, hF1⟩ : ∃ x, fa d u m l.toNat = x := ⟨_, rfl⟩
  obtain ⟨F2, hF2⟩ : ∃ x, fa u d m l.toNat = x := ⟨_, rfl⟩
  have KW := Lib.hid (fun w => HW.out d u m l w)
  have KR := Lib.hid (fun w => HR.out d u m l w)
  have K1 := Lib.hid (fun w => reffate_any d u m l.toNat w)
  have K2 := Lib.hid (fun w => reffate_any u d m l.toNat w)
  have hw1 : IntKind.i64.wrap (F1 : Int) = (F1 : Int) := by have := fa_le d u m l.toNat; simp [IntKind.wrap, IntKind.signed, IntKind.bits]; omega
  have hw2 : IntKind.i64.wrap (F2 : Int) = (F2 : Int) := by have := fa_le u d m l.toNat; simp [IntKind.wrap, IntKind.signed, IntKind.bits]; omega
  have hwl : IntKind.i64.wrap (l.toNat : Int) = (l.toNat : Int) := by have := l.toNat_lt; simp [IntKind.wrap, IntKind.signed, IntKind.bits]; omega
  rw [hF1] at KW K1
  rw [hF2] at KR K2
  clear hF1 hF2
  have HB0 : Hid (Below W.heap.size W (W.alloc (.cells #[.int .u8 d.toNat, .int .u8 u.toNat, .int .i64 m] 23))) := Lib.hid ((Below.refl _ _).alloc (Nat.le_refl _) _)
  have HA0 : Hid (Blk (W.alloc (.cells #[.int .u8 d.toNat, .int .u8 u.toNat, .int .i64 m] 23)) W.heap.size 23 #[.int .u8 d.toNat, .int .u8 u.toNat, .int .i64 m]) := Lib.hid (Blk.new W _ _)
  go_enter Try.func3, Try.ntmps3
  go_wp2_with fail
  refine (levels_any d _).mono ?_
  rintro r w1 ⟨rfl, hb1⟩
  have HB1 : Hid (Below W.heap.size W w1) := Lib.hid (HB0.out.trans (hb1.mono HB0.out.size))
  have HA1 := Lib.hid (HA0.out.below hb1 HA0.out.lt)
  clear hb1 HB0 HA0
  go_wp2_with fail
  refine (levels_any u _).mono ?_
  rintro r w2 ⟨rfl, hb2⟩
  have HB2 : Hid (Below W.heap.size W w2) := Lib.hid (HB1.out.trans (hb2.mono HB1.out.size))
  have HA2 := Lib.hid (HA1.out.below hb2 HA1.out.lt)
  clear hb2 HB1 HA1
  have HB3 : Hid (Below W.heap.size W (w2.alloc (.cells #[.bool (bt d 0), .bool (bt d 1), .bool (bt d 2), .bool (bt d 3), .bool (bt d 4), .bool (bt d 5), .bool (bt d 6), .bool (bt d 7)] 24))) := Lib.hid (HB2.out.alloc HB2.out.size _)
  have HA3 := Lib.hid (HA2.out.alloc (.cells #[.bool (bt d 0), .bool (bt d 1), .bool (bt d 2), .bool (bt d 3), .bool (bt d 4), .bool (bt d 5), .bool (bt d 6), .bool (bt d 7)] 24))
  have HD3 := Lib.hid (Blk.new w2 24 #[.bool (bt d 0), .bool (bt d 1), .bool (bt d 2), .bool (bt d 3), .bool (bt d 4), .bool (bt d 5), .bool (bt d 6), .bool (bt d 7)])
  clear HB2 HA2
  have HB4 : Hid (Below W.heap.size W ((w2.alloc (.cells #[.bool (bt d 0), .bool (bt d 1), .bool (bt d 2), .bool (bt d 3), .bool (bt d 4), .bool (bt d 5), .bool (bt d 6), .bool (bt d 7)] 24)).alloc (.cells #[.bool (bt u 0), .bool (bt u 1), .bool (bt u 2), .bool (bt u 3), .bool (bt u 4), .bool (bt u 5), .bool (bt u 6), .bool (bt u 7)] 24))) := Lib.hid (HB3.out.alloc HB3.out.size _)
  have HA4 := Lib.hid (HA3.out.alloc (.cells #[.bool (bt u 0), .bool (bt u 1), .bool (bt u 2), .bool (bt u 3), .bool (bt u 4), .bool (bt u 5), .bool (bt u 6), .bool (bt u 7)] 24))
  have HD4 := Lib.hid (HD3.out.alloc (.cells #[.bool (bt u 0), .bool (bt u 1), .bool (bt u 2), .bool (bt u 3), .bool (bt u 4), .bool (bt u 5), .bool (bt u 6), .bool (bt u 7)] 24))
  have HU4 := Lib.hid (Blk.new (w2.alloc (.cells #[.bool (bt d 0), .bool (bt d 1), .bool (bt d 2), .bool (bt d 3), .bool (bt d 4), .bool (bt d 5), .bool (bt d 6), .bool (bt d 7)] 24)) 24 #[.bool (bt u 0), .bool (bt u 1), .bool (bt u 2), .bool (bt u 3), .bool (bt u 4), .bool (bt u 5), .bool (bt u 6), .bool (bt u 7)])
  clear HB3 HA3 HD3
  go_upto_region 3 with (fail)
  have HU9 : Hid (Blk ((w2.alloc (.cells #[.bool (bt d 0), .bool (bt d 1), .bool (bt d 2), .bool (bt d 3), .bool (bt d 4), .bool (bt d 5), .bool (bt d 6), .bool (bt d 7)] 24)).alloc (.cells #[.bool (bt u 0), .bool (bt u 1), .bool (bt u 2), .bool (bt u 3), .bool (bt u 4), .bool (bt u 5), .bool (bt u 6), .bool (bt u 7)] 24)) (w2.heap.size + 1) 24 #[.bool (bt u 0), .bool (bt u 1), .bool (bt u 2), .bool (bt u 3), .bool (bt u 4), .bool (bt u 5), .bool (bt u 6), .bool (bt u 7)]) := Lib.hid (by
    have := HU4.out
    simpa using this)
  have HAd : Hid (Blk ((w2.alloc (.cells #[.bool (bt d 0), .bool (bt d 1), .bool (bt d 2), .bool (bt d 3), .bool (bt d 4), .bool (bt d 5), .bool (bt d 6), .bool (bt d 7)] 24)).alloc (.cells #[.bool (bt u 0), .bool (bt u 1), .bool (bt u 2), .bool (bt u 3), .bool (bt u 4), .bool (bt u 5), .bool (bt u 6), .bool (bt u 7)] 24)).drew W.heap.size 23 #[.int .u8 d.toNat, .int .u8 u.toNat, .int .i64 m]) := Lib.hid (Blk.drew HA4.out)
  have HDd : Hid (Blk ((w2.alloc (.cells #[.bool (bt d 0), .bool (bt d 1), .bool (bt d 2), .bool (bt d 3), .bool (bt d 4), .bool (bt d 5), .bool (bt d 6), .bool (bt d 7)] 24)).alloc (.cells #[.bool (bt u 0), .bool (bt u 1), .bool (bt u 2), .bool (bt u 3), .bool (bt u 4), .bool (bt u 5), .bool (bt u 6), .bool (bt u 7)] 24)).drew w2.heap.size 24 #[.bool (bt d 0), .bool (bt d 1), .bool (bt d 2), .bool (bt d 3), .bool (bt d 4), .bool (bt d 5), .bool (bt d 6), .bool (bt d 7)]) := Lib.hid (Blk.drew HD4.out)
  have HUd : Hid (Blk ((w2.alloc (.cells #[.bool (bt d 0), .bool (bt d 1), .bool (bt d 2), .bool (bt d 3), .bool (bt d 4), .bool (bt d 5), .bool (bt d 6), .bool (bt d 7)] 24)).alloc (.cells #[.bool (bt u 0), .bool (bt u 1), .bool (bt u 2), .bool (bt u 3), .bool (bt u 4), .bool (bt u 5), .bool (bt u 6), .bool (bt u 7)] 24)).drew (w2.heap.size + 1) 24 #[.bool (bt u 0), .bool (bt u 1), .bool (bt u 2), .bool (bt u 3), .bool (bt u 4), .bool (bt u 5), .bool (bt u 6), .bool (bt u 7)]) := Lib.hid (Blk.drew HU9.out)
  have HBd : Hid (Below W.heap.size W ((w2.alloc (.cells #[.bool (bt d 0), .bool (bt d 1), .bool (bt d 2), .bool (bt d 3), .bool (bt d 4), .bool (bt d 5), .bool (bt d 6), .bool (bt d 7)] 24)).alloc (.cells #[.bool (bt u 0), .bool (bt u 1), .bool (bt u 2), .bool (bt u 3), .bool (bt u 4), .bool (bt u 5), .bool (bt u 6), .bool (bt u 7)] 24)).drew) := Lib.hid HB4.out.drew
  clear HA4 HD4 HU4 HU9 HB4
  generalize ((w2.alloc (.cells #[.bool (bt d 0), .bool (bt d 1), .bool (bt d 2), .bool (bt d 3), .bool (bt d 4), .bool (bt d 5), .bool (bt d 6), .bool (bt d 7)] 24)).alloc (.cells #[.bool (bt u 0), .bool (bt u 1), .bool (bt u 2), .bool (bt u 3), .bool (bt u 4), .bool (bt u 5), .bool (bt u 6), .bool (bt u 7)] 24)) = w5 at *
  have k0 := HAd.out.cell 0
  have k1 := HAd.out.cell 1
  have k2 := HAd.out.cell 2
  have k3 := HDd.out.cell 0
  have k4 := HDd.out.cell 1
  have k5 := HDd.out.cell 2
  have k6 := HDd.out.cell 3
  have k7 := HDd.out.cell 4
  have k8 := HDd.out.cell 5
  have k9 := HDd.out.cell 6
  have k10 := HDd.out.cell 7
  have k11 := HUd.out.cell 0
  have k12 := HUd.out.cell 1
  have k13 := HUd.out.cell 2
  have k14 := HUd.out.cell 3
  have k15 := HUd.out.cell 4
  have k16 := HUd.out.cell 5
  have k17 := HUd.out.cell 6
  have k18 := HUd.out.cell 7
  simp only [List.getElem?_toArray, List.getElem?_cons_succ, List.getElem?_cons_zero] at k0 k1 k2 k3 k4 k5 k6 k7 k8 k9 k10 k11 k12 k13 k14 k15 k16 k17 k18
  clear HAd HDd HUd
  go_region_held3 (fun w_ => w_.cell? ⟨W.heap.size, 0, none⟩ = some (.int .u8 d.toNat) ∧ w_.cell? ⟨W.heap.size, 1, none⟩ = some (.int .u8 u.toNat) ∧ w_.cell? ⟨W.heap.size, 2, none⟩ = some (.int .i64 m) ∧ w_.cell? ⟨w2.heap.size, 0, none⟩ = some (.bool (bt d 0)) ∧ w_.cell? ⟨w2.heap.size, 1, none⟩ = some (.bool (bt d 1)) ∧ w_.cell? ⟨w2.heap.size, 2, none⟩ = some (.bool (bt d 2)) ∧ w_.cell? ⟨w2.heap.size, 3, none⟩ = some (.bool (bt d 3)) ∧ w_.cell? ⟨w2.heap.size, 4, none⟩ = some (.bool (bt d 4)) ∧ w_.cell? ⟨w2.heap.size, 5, none⟩ = some (.bool (bt d 5)) ∧ w_.cell? ⟨w2.heap.size, 6, none⟩ = some (.bool (bt d 6)) ∧ w_.cell? ⟨w2.heap.size, 7, none⟩ = some (.bool (bt d 7)) ∧ w_.cell? ⟨w2.heap.size + 1, 0, none⟩ = some (.bool (bt u 0)) ∧ w_.cell? ⟨w2.heap.size + 1, 1, none⟩ = some (.bool (bt u 1)) ∧ w_.cell? ⟨w2.heap.size + 1, 2, none⟩ = some (.bool (bt u 2)) ∧ w_.cell? ⟨w2.heap.size + 1, 3, none⟩ = some (.bool (bt u 3)) ∧ w_.cell? ⟨w2.heap.size + 1, 4, none⟩ = some (.bool (bt u 4)) ∧ w_.cell? ⟨w2.heap.size + 1, 5, none⟩ = some (.bool (bt u 5)) ∧ w_.cell? ⟨w2.heap.size + 1, 6, none⟩ = some (.bool (bt u 6)) ∧ w_.cell? ⟨w2.heap.size + 1, 7, none⟩ = some (.bool (bt u 7))) (first | go_keep)
    (first
      | (go_at_call 6; refine (KW.out _).mono ?_; rintro r w_ ⟨rfl, hb_⟩; obtain ⟨k0, k1, k2, k3, k4, k5, k6, k7, k8, k9, k10, k11, k12, k13, k14, k15, k16, k17, k18, HBd⟩ := keep17t (gA := W.heap.size) (gD := w2.heap.size) (gU := w2.heap.size + 1) k0 k1 k2 k3 k4 k5 k6 k7 k8 k9 k10 k11 k12 k13 k14 k15 k16 k17 k18 HBd hb_; clear hb_)
      | (go_at_call 8; refine (KR.out _).mono ?_; rintro r w_ ⟨rfl, hb_⟩; obtain ⟨k0, k1, k2, k3, k4, k5, k6, k7, k8, k9, k10, k11, k12, k13, k14, k15, k16, k17, k18, HBd⟩ := keep17t (gA := W.heap.size) (gD := w2.heap.size) (gU := w2.heap.size + 1) k0 k1 k2 k3 k4 k5 k6 k7 k8 k9 k10 k11 k12 k13 k14 k15 k16 k17 k18 HBd hb_; clear hb_)
      | (go_at_call 7; (with_reducible refine (K1.out _).mono ?_); rintro r w_ ⟨rfl, hb_⟩; obtain ⟨k0, k1, k2, k3, k4, k5, k6, k7, k8, k9, k10, k11, k12, k13, k14, k15, k16, k17, k18, HBd⟩ := keep17t (gA := W.heap.size) (gD := w2.heap.size) (gU := w2.heap.size + 1) k0 k1 k2 k3 k4 k5 k6 k7 k8 k9 k10 k11 k12 k13 k14 k15 k16 k17 k18 HBd hb_; clear hb_)
      | (go_at_call 7; (with_reducible refine (K2.out _).mono ?_); rintro r w_ ⟨rfl, hb_⟩; obtain ⟨k0, k1, k2, k3, k4, k5, k6, k7, k8, k9, k10, k11, k12, k13, k14, k15, k16, k17, k18, HBd⟩ := keep17t (gA := W.heap.size) (gD := w2.heap.size) (gU := w2.heap.size + 1) k0 k1 k2 k3 k4 k5 k6 k7 k8 k9 k10 k11 k12 k13 k14 k15 k16 k17 k18 HBd hb_; clear hb_)
      | (go_at_call 9; refine (wakes17 HW.out HR.out _).mono ?_; rintro r w_ ⟨rfl, hb_⟩; obtain ⟨k0, k1, k2, k3, k4, k5, k6, k7, k8, k9, k10, k11, k12, k13, k14, k15, k16, k17, k18, HBd⟩ := keep17t (gA := W.heap.size) (gD := w2.heap.size) (gU := w2.heap.size + 1) k0 k1 k2 k3 k4 k5 k6 k7 k8 k9 k10 k11 k12 k13 k14 k15 k16 k17 k18 HBd hb_; clear hb_)
      | fail "no")
  go_wp2
  go_ret
  exact ⟨rfl, HBd.out⟩
end Go.Proofs.Ytpoeamamdiomkaa
