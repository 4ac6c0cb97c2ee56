/- Package bpdu: mayBe, putFlags, putVector, Put. -/
import Derived.Test.YtbkfbaloolbkdaaDoorBpSpec
import Derived.Test.YtbkfbaloolbkdaaDoorStr
import Derived.Deep.DeepCutAuto
namespace Go.Proofs.YtbkfbaloolbkdaaDoor
open Go.RowKit
set_option linter.unusedVariables false
set_option linter.unusedSimpArgs false
set_option maxRecDepth 100000

set_option maxHeartbeats 2000000 in
theorem bmay_any (w : World) (x : Bp) :
    Calls Tryd.prog 14 #[BV x] w fun r w' => r = .returned (.bool (bmay x)) ∧ Below w.heap.size w w' := by
  obtain ⟨v, h, ver, role, pr, ag, tp, ec⟩ := x
  have C := (BpA.new 33 w ⟨v, h, ver, role, pr, ag, tp, ec⟩).cells
  obtain ⟨c0, c1, c2, c3, c4, c5, c6, c7, c8, c9, c10⟩ := C
  dsimp only at c0 c1 c2 c3 c4 c5 c6 c7 c8 c9 c10
  cases pr <;> cases ag
  all_goals (
    go_enter Tryd.func14, Tryd.ntmps14
    go_wp2
    all_goals (
      clear c0 c1 c2 c3 c4 c5 c6 c7 c8 c9 c10
      go_ret
      refine ⟨ret_ (congrArg Value.bool (?_ : (_ : Bool) = _)), (Below.refl _ _).alloc (Nat.le_refl _) _⟩
      first
        | (simp_all [bmay]; done)
        | (simp_all [bmay]; omega)))
/-- a flag is put in, or not -/
def orv (a f : Int) (is : Bool) : Int := if is then bits BinOp.or IntKind.u8 a f else a
theorem orv_fl (x : Bp) : orv (orv (orv 0 1 x.pr) 2 x.ag) 4 x.tp = bfl x := by
  show orv (orv (orv 0 1 x.pr) 2 x.ag) 4 x.tp = (((if x.pr then 1 else 0) + ((if x.ag then 2 else 0) + (if x.tp then 4 else 0)) : Nat) : Int)
  cases x.pr <;> cases x.ag <;> cases x.tp <;> decide +kernel
theorem putflag_any {w : World} {g : Nat} {t : TypeId} {a : Int} (f : Int) (is : Bool) (h : Blk w g t #[.int .u8 a]) :
    Calls Tryd.prog 30 #[.int .u8 f, .bool is, .pointer (some ⟨g, 0, none⟩)] w fun r w' => r = .returned (.tuple #[]) ∧ Blk w' g t #[.int .u8 (orv a f is)] ∧ Chg (only g) w w' := by
  have c0 := h.cell 0
  have f0 := h.frozen 0
  cases is
  · go_enter Tryd.func30, Tryd.ntmps30
    go_wp2
    go_end0
    exact ⟨rfl, h, Chg.refl _ _⟩
  · go_enter Tryd.func30, Tryd.ntmps30
    go_wp2
    go_end0
    exact ⟨rfl, h.put 0 _, (Chg.refl _ _).setCell (.inr (by exact rfl)) _⟩
set_option maxHeartbeats 1000000 in
theorem putflags_any (w : World) (x : Bp) :
    Calls Tryd.prog 17 #[BV x] w fun r w' => r = .returned (.int .u8 (bfl x)) ∧ Below w.heap.size w w' := by
  have hmf : ∀ (fn : Fn) (first cap : Array Value) (w : World), (Instr.makeFunc fn first cap).run Tryd.prog w = .ok (.func fn first cap) w := fun _ _ _ _ => rfl
  obtain ⟨W, hW⟩ : ∃ W, (w.alloc (.cells #[.int .u64 x.v.r, .int .u32 x.v.c, .int .u64 x.v.b, .int .u8 x.v.p, .int .u8 x.h, .int .u64 x.ver, .int .u8 x.role, .bool x.pr, .bool x.ag, .bool x.tp, .int .u64 x.ec] 33)).alloc (.cells #[.int .u8 0] 5) = W := ⟨_, rfl⟩
  have HX0 : Hid (BpA 33 W w.heap.size x) := Lib.hid (by rw [← hW]; exact (BpA.new 33 w x).alloc _)
  have HG0 : Hid (Blk W (w.heap.size + 1) 5 #[.int .u8 0]) := Lib.hid (by rw [← hW]; have := Blk.new (w.alloc (.cells #[.int .u64 x.v.r, .int .u32 x.v.c, .int .u64 x.v.b, .int .u8 x.v.p, .int .u8 x.h, .int .u64 x.ver, .int .u8 x.role, .bool x.pr, .bool x.ag, .bool x.tp, .int .u64 x.ec] 33)) 5 #[.int .u8 0]; simpa using this)
  have HB0 : Hid (Below w.heap.size w W) := Lib.hid (by rw [← hW]; exact ((Below.refl _ _).alloc (Nat.le_refl _) _).alloc (by simp) _)
  have c7 := HX0.out.cells.c7
  go_enter Tryd.func17, Tryd.ntmps17
  go_upto_region 3 with (fail)
  clear hW
  go_wp2_with fail
  refine (putflag_any 1 x.pr HG0.out).mono ?_
  rintro r w1 ⟨rfl, hg1, hc1⟩
  have HX1 : Hid (BpA 33 w1 w.heap.size x) := Lib.hid (Blk.chg HX0.out hc1 (by unfold only; omega))
  have HB1 : Hid (Below w.heap.size w w1) := Lib.hid (HB0.out.trans (hc1.below HB0.out.size (by unfold only; intro k hk hk'; omega)))
  have HG1 := Lib.hid hg1
  have c8 := HX1.out.cells.c8
  clear hg1 hc1 c7 HX0 HB0 HG0
  go_wp2_with fail
  refine (putflag_any 2 x.ag HG1.out).mono ?_
  rintro r w2 ⟨rfl, hg2, hc2⟩
  have HX2 : Hid (BpA 33 w2 w.heap.size x) := Lib.hid (Blk.chg HX1.out hc2 (by unfold only; omega))
  have HB2 : Hid (Below w.heap.size w w2) := Lib.hid (HB1.out.trans (hc2.below HB1.out.size (by unfold only; intro k hk hk'; omega)))
  have HG2 := Lib.hid hg2
  have c9 := HX2.out.cells.c9
  clear hg2 hc2 c8 HX1 HB1 HG1
  go_wp2_with fail
  refine (putflag_any 4 x.tp HG2.out).mono ?_
  rw [orv_fl]
  rintro r w3 ⟨rfl, hg3, hc3⟩
  have HB3 : Hid (Below w.heap.size w w3) := Lib.hid (HB2.out.trans (hc3.below HB2.out.size (by unfold only; intro k hk hk'; omega)))
  have cg := hg3.cell 0
  clear hg3 hc3 c9 HX2 HB2 HG2
  go_wp2
  go_ret
  exact ⟨rfl, HB3.out⟩
theorem put8_str {w : World} {v : Value} {l : List UInt8} (x : Int) (h : Str w v l) (hl : l.length ≤ 70368744177664) (h0 : 0 ≤ x) (h1 : x ≤ 255) :
    Calls Tryd.prog 16 #[v, .int .u8 x] w fun e w' => ∃ v', e = .returned v' ∧ Str w' v' (l ++ dig 1 x.toNat) ∧ Below w.heap.size w w' := by
  obtain ⟨A, c, rfl, hz, hy⟩ := h
  exact (put8_any A c l x hy hz hl h0 h1).mono (fun e w' ⟨v', h1, h2, h3⟩ => ⟨v', h1, h2.str, h3⟩)
theorem put16_str {w : World} {v : Value} {l : List UInt8} (x : Int) (h : Str w v l) (hl : l.length ≤ 70368744177664) (h0 : 0 ≤ x) (h1 : x ≤ 65535) :
    Calls Tryd.prog 15 #[v, .int .u16 x] w fun e w' => ∃ v', e = .returned v' ∧ Str w' v' (l ++ dig 2 x.toNat) ∧ Below w.heap.size w w' := by
  obtain ⟨A, c, rfl, hz, hy⟩ := h
  exact (put16_any A c l x hy hz hl h0 h1).mono (fun e w' ⟨v', h1, h2, h3⟩ => ⟨v', h1, h2.str, h3⟩)
theorem put32_str {w : World} {v : Value} {l : List UInt8} (x : Int) (h : Str w v l) (hl : l.length ≤ 70368744177664) (h0 : 0 ≤ x) (h1 : x ≤ 4294967295) :
    Calls Tryd.prog 31 #[v, .int .u32 x] w fun e w' => ∃ v', e = .returned v' ∧ Str w' v' (l ++ dig 4 x.toNat) ∧ Below w.heap.size w w' := by
  obtain ⟨A, c, rfl, hz, hy⟩ := h
  exact (put32_any A c l x hy hz hl h0 h1).mono (fun e w' ⟨v', h1, h2, h3⟩ => ⟨v', h1, h2.str, h3⟩)
theorem put64_str {w : World} {v : Value} {l : List UInt8} (x : Int) (h : Str w v l) (hl : l.length ≤ 70368744177664) (h0 : 0 ≤ x) (h1 : x ≤ 18446744073709551615) :
    Calls Tryd.prog 19 #[v, .int .u64 x] w fun e w' => ∃ v', e = .returned v' ∧ Str w' v' (l ++ dig 8 x.toNat) ∧ Below w.heap.size w w' := by
  obtain ⟨A, c, rfl, hz, hy⟩ := h
  exact (put64_any A c l x hy hz hl h0 h1).mono (fun e w' ⟨v', h1, h2, h3⟩ => ⟨v', h1, h2.str, h3⟩)
theorem str_nil (w : World) : Str w (.slice none 0 0) [] := ⟨none, 0, rfl, fun _ => rfl, Byt.nil_ _ _⟩
set_option maxHeartbeats 1000000 in
theorem putvec_any {w : World} {v : Value} {l : List UInt8} (x : Ve) (h : Str w v l) (hl : l.length ≤ 1000000) (hx : x.ok) :
    Calls Tryd.prog 18 #[v, VV x] w fun e w' => ∃ v', e = .returned v' ∧ Str w' v' (l ++ dig 8 x.r.toNat ++ dig 4 x.c.toNat ++ dig 8 x.b.toNat ++ dig 1 x.p.toNat) ∧ Below w.heap.size w w' := by
  have n0 := u64wf hx.r
  have n1 := u32wf hx.c
  have n2 := u64wf hx.b
  have n3 := u8wf hx.p
  have N0 := Lib.hid n0
  have N1 := Lib.hid n1
  have N2 := Lib.hid n2
  have N3 := Lib.hid n3
  clear n0 n1 n2 n3 hx
  have HV0 := Lib.hid (Blk.new w 31 #[.int .u64 x.r, .int .u32 x.c, .int .u64 x.b, .int .u8 x.p])
  have HS0 : Hid (Str (w.alloc (.cells #[.int .u64 x.r, .int .u32 x.c, .int .u64 x.b, .int .u8 x.p] 31)) v l) := Lib.hid (h.below ((Below.refl _ _).alloc (Nat.le_refl _) _))
  have HB0 := Lib.hid ((Below.refl w.heap.size w).alloc (Nat.le_refl _) (.cells #[.int .u64 x.r, .int .u32 x.c, .int .u64 x.b, .int .u8 x.p] 31))
  clear h
  have c0 := HV0.out.cell 0
  go_enter Tryd.func18, Tryd.ntmps18
  go_wp2_with fail
  refine (put64_str x.r HS0.out (by first | omega | (simp [dig_len]; omega)) N0.out.1 (by have := N0.out.2; omega)).mono ?_
  rintro r w1 ⟨v1, rfl, hs1, hb1⟩
  have HS1 := Lib.hid hs1
  have HB1 : Hid (Below w.heap.size w w1) := Lib.hid (HB0.out.trans (hb1.mono HB0.out.size))
  have HV1 := Lib.hid (Blk.below HV0.out hb1 HV0.out.lt)
  clear c0 hs1 hb1 HS0 HB0 HV0
  have c1 := HV1.out.cell 1
  go_wp2_with fail
  refine (put32_str x.c HS1.out (by first | omega | (simp [dig_len]; omega)) N1.out.1 (by have := N1.out.2; omega)).mono ?_
  rintro r w2 ⟨v2, rfl, hs2, hb2⟩
  have HS2 := Lib.hid hs2
  have HB2 : Hid (Below w.heap.size w w2) := Lib.hid (HB1.out.trans (hb2.mono HB1.out.size))
  have HV2 := Lib.hid (Blk.below HV1.out hb2 HV1.out.lt)
  clear c1 hs2 hb2 HS1 HB1 HV1
  have c2 := HV2.out.cell 2
  go_wp2_with fail
  refine (put64_str x.b HS2.out (by first | omega | (simp [dig_len]; omega)) N2.out.1 (by have := N2.out.2; omega)).mono ?_
  rintro r w3 ⟨v3, rfl, hs3, hb3⟩
  have HS3 := Lib.hid hs3
  have HB3 : Hid (Below w.heap.size w w3) := Lib.hid (HB2.out.trans (hb3.mono HB2.out.size))
  have HV3 := Lib.hid (Blk.below HV2.out hb3 HV2.out.lt)
  clear c2 hs3 hb3 HS2 HB2 HV2
  have c3 := HV3.out.cell 3
  go_wp2_with fail
  refine (put8_str x.p HS3.out (by first | omega | (simp [dig_len]; omega)) N3.out.1 (by have := N3.out.2; omega)).mono ?_
  rintro r w4 ⟨v4, rfl, hs4, hb4⟩
  have HS4 := Lib.hid hs4
  have HB4 : Hid (Below w.heap.size w w4) := Lib.hid (HB3.out.trans (hb4.mono HB3.out.size))
  clear hs4 hb4 c3
  go_wp2
  go_ret
  exact ⟨_, rfl, HS4.out, HB4.out⟩
def PutB : Prop := ∀ (w : World) (x : Bp), x.ok →
    Calls Tryd.prog 7 #[BV x] w fun r w' => r = .returned (.tuple #[.string ⟨(bputV x).toArray⟩, .int .i64 (bputE x)]) ∧ Below w.heap.size w w'
set_option maxHeartbeats 2000000 in
theorem bput_impl : PutB := by
  intro w x hx
  have HX0 := Lib.hid (BpA.new 33 w x)
  have HB0 := Lib.hid ((Below.refl w.heap.size w).alloc (Nat.le_refl _) (.cells #[.int .u64 x.v.r, .int .u32 x.v.c, .int .u64 x.v.b, .int .u8 x.v.p, .int .u8 x.h, .int .u64 x.ver, .int .u8 x.role, .bool x.pr, .bool x.ag, .bool x.tp, .int .u64 x.ec] 33))
  cases hm : bmay x
  · have hv : bputV x = [] ∧ bputE x = 2 := by simp [bputV, bputE, hm]
    have HV := Lib.hid hv
    have HM := Lib.hid hm
    clear hv hm
    go_enter Tryd.func7, Tryd.ntmps7
    go_wp2_with (refine load_bp 1 rfl (by kernel_rfl) w.heap.size x rfl HX0.out ?_)
    refine (bmay_any _ x).mono ?_
    rw [HM.out]
    rintro r w1 ⟨rfl, hb1⟩
    have HB1 : Hid (Below w.heap.size w w1) := Lib.hid (HB0.out.trans (hb1.mono (by simp only [World.size_alloc]; omega)))
    clear hb1
    go_wp2
    rw [HV.out.1, HV.out.2]
    exact bodyPost_ret (v := .tuple #[.string ⟨#[]⟩, .int .i64 2]) (by simp [results, Tryd.results7, go_sem]) rfl ⟨rfl, HB1.out⟩
  have hv : bputV x = bbytes x ∧ bputE x = 0 := by simp [bputV, bputE, hm]
  have HV := Lib.hid hv
  have HM := Lib.hid hm
  have n6 := u8wf hx.role
  have n4 := u8wf hx.h
  have n5 := u64wf hx.ver
  have n10 := u64wf hx.ec
  have nf := bfl_lt x
  have N6 := Lib.hid n6
  have N4 := Lib.hid n4
  have N5 := Lib.hid n5
  have N10 := Lib.hid n10
  have NF := Lib.hid nf
  have NV := Lib.hid hx.v
  clear hv hm n6 n4 n5 n10 nf hx
  go_enter Tryd.func7, Tryd.ntmps7
  go_wp2_with (refine load_bp 1 rfl (by kernel_rfl) w.heap.size x rfl HX0.out ?_)
  refine (bmay_any _ x).mono ?_
  rw [HM.out]
  rintro r w1 ⟨rfl, hb1⟩
  have HX1 := Lib.hid (HX0.out.next hb1)
  have HB1 : Hid (Below w.heap.size w w1) := Lib.hid (HB0.out.trans (hb1.mono (by simp only [World.size_alloc]; omega)))
  clear hb1 HX0 HB0
  go_wp2_with fail
  refine (put16_str 17229 (str_nil _) (by simp) (by omega) (by omega)).mono ?_
  rw [show ([] : List UInt8) ++ dig 2 (17229 : Int).toNat = [67, 77] from rfl]
  rintro r w2 ⟨v2, rfl, hs2, hb2⟩
  have HX2 := Lib.hid (HX1.out.next hb2)
  have HB2 : Hid (Below w.heap.size w w2) := Lib.hid (HB1.out.trans (hb2.mono HB1.out.size))
  have HS2 := Lib.hid hs2
  clear hs2 hb2 HX1 HB1
  have c6 := HX2.out.cells.c6
  go_wp2_with fail
  refine (put8_str x.role HS2.out (by first | omega | (simp; done)) N6.out.1 (by have := N6.out.2; omega)).mono ?_
  rintro r w3 ⟨v3, rfl, hs3, hb3⟩
  have HX3 := Lib.hid (HX2.out.next hb3)
  have HB3 : Hid (Below w.heap.size w w3) := Lib.hid (HB2.out.trans (hb3.mono HB2.out.size))
  have HS3 := Lib.hid hs3
  clear hs3 hb3 HX2 HB2 HS2 c6
  go_wp2_with (refine load_bp 1 rfl (by kernel_rfl) w.heap.size x rfl HX3.out ?_)
  refine (putflags_any _ x).mono ?_
  rintro r w4 ⟨rfl, hb4⟩
  have HX4 := Lib.hid (HX3.out.next hb4)
  have HB4 : Hid (Below w.heap.size w w4) := Lib.hid (HB3.out.trans (hb4.mono HB3.out.size))
  have HS4 := Lib.hid (HS3.out.below hb4)
  clear hb4 HX3 HB3 HS3
  go_wp2_with fail
  refine (put8_str (bfl x) HS4.out (by first | omega | (simp [dig_len]; done) | (simp [dig_len]; omega)) (by omega) (by have := NF.out; omega)).mono ?_
  rw [Int.toNat_natCast]
  rintro r w5 ⟨v5, rfl, hs5, hb5⟩
  have HX5 := Lib.hid (HX4.out.next hb5)
  have HB5 : Hid (Below w.heap.size w w5) := Lib.hid (HB4.out.trans (hb5.mono HB4.out.size))
  have HS5 := Lib.hid hs5
  clear hs5 hb5 HX4 HB4 HS4
  obtain ⟨c0, c1, c2, c3, c4, c5, c6, c7, c8, c9, c10⟩ := HX5.out.cells
  clear c4 c5 c6 c7 c8 c9 c10
  go_wp2_with fail
  refine (putvec_any x.v HS5.out (by first | omega | (simp [dig_len]; done) | (simp [dig_len]; omega)) NV.out).mono ?_
  rintro r w6 ⟨v6, rfl, hs6, hb6⟩
  have HX6 := Lib.hid (HX5.out.next hb6)
  have HB6 : Hid (Below w.heap.size w w6) := Lib.hid (HB5.out.trans (hb6.mono HB5.out.size))
  have HS6 := Lib.hid hs6
  clear hs6 hb6 HX5 HB5 HS5 c0 c1 c2 c3
  have c4 := HX6.out.cells.c4
  go_wp2_with fail
  refine (put8_str x.h HS6.out (by first | omega | (simp [dig_len]; done) | (simp [dig_len]; omega)) N4.out.1 (by have := N4.out.2; omega)).mono ?_
  rintro r w7 ⟨v7, rfl, hs7, hb7⟩
  have HX7 := Lib.hid (HX6.out.next hb7)
  have HB7 : Hid (Below w.heap.size w w7) := Lib.hid (HB6.out.trans (hb7.mono HB6.out.size))
  have HS7 := Lib.hid hs7
  clear hs7 hb7 HX6 HB6 HS6 c4
  have c5 := HX7.out.cells.c5
  go_wp2_with fail
  refine (put64_str x.ver HS7.out (by first | omega | (simp [dig_len]; done) | (simp [dig_len]; omega)) N5.out.1 (by have := N5.out.2; omega)).mono ?_
  rintro r w8 ⟨v8, rfl, hs8, hb8⟩
  have HX8 := Lib.hid (HX7.out.next hb8)
  have HB8 : Hid (Below w.heap.size w w8) := Lib.hid (HB7.out.trans (hb8.mono HB7.out.size))
  have HS8 := Lib.hid hs8
  clear hs8 hb8 HX7 HB7 HS7 c5
  have c10 := HX8.out.cells.c10
  go_wp2_with fail
  refine (put64_str x.ec HS8.out (by first | omega | (simp [dig_len]; done) | (simp [dig_len]; omega)) N10.out.1 (by have := N10.out.2; omega)).mono ?_
  rintro r w9 ⟨v9, rfl, hs9, hb9⟩
  have HX9 := Lib.hid (HX8.out.next hb9)
  have HB9 : Hid (Below w.heap.size w w9) := Lib.hid (HB8.out.trans (hb9.mono HB8.out.size))
  have hcv := hs9.conv
  obtain ⟨V, hV⟩ : ∃ V, V = bbytes x := ⟨_, rfl⟩
  have hcv2 : (convert 43 9 v9).run Tryd.prog w9 = .ok (.string ⟨V.toArray⟩) w9 := by rw [hV]; exact hcv
  rw [← hV] at HV
  have HVV := Lib.hid HV
  clear hs9 hb9 hcv hV HX8 HB8 HS8 c10
  go_wp2
  rw [HV.out.1, HV.out.2]
  exact bodyPost_ret (v := .tuple #[.string ⟨V.toArray⟩, .int .i64 0]) (by simp [results, Tryd.results7, go_sem]) rfl ⟨rfl, HB9.out⟩
end Go.Proofs.YtbkfbaloolbkdaaDoor
