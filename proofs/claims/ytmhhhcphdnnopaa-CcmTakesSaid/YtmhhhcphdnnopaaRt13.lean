/- Layer 13: the document's Take. -/
import Derived.Test.YtmhhhcphdnnopaaR13
import Derived.Test.YtmhhhcphdnnopaaRefRd2
import Derived.StillTailTactics
import Derived.Deep.RegionHeld3
namespace Go.Proofs.Ytmhhhcphdnnopaa
open Go.RowKit
set_option linter.unusedVariables false
set_option linter.unusedSimpArgs false
set_option maxRecDepth 100000

set_option maxHeartbeats 4000000 in
theorem reftake13_any (A : Option Addr) (k : Nat) (p : Pd) (w : World) :
    Calls Try.prog 14 #[PdV p A k] w fun e w' => e = .returned (.tuple #[CkV (ckX p), .int .i64 (ckF p : Nat)]) ∧ Below w.heap.size w w' := by
  have HB0 : Hid (Below w.heap.size w ((w.alloc (.cells #[.int .u8 p.l.toNat, .int .u8 p.o.toNat, .int .u8 p.g.toNat, .string ⟨p.x.toArray⟩, .slice A p.t.length k] 37)).alloc (.cells #[.int .u8 0, .bool false, .int .u8 0, .int .u32 0, .int .u16 0, .string ⟨#[]⟩] 25))) := Lib.hid (((Below.refl _ _).alloc (Nat.le_refl _) _).alloc (by simp) _)
  have HK0 : Hid (Blk ((w.alloc (.cells #[.int .u8 p.l.toNat, .int .u8 p.o.toNat, .int .u8 p.g.toNat, .string ⟨p.x.toArray⟩, .slice A p.t.length k] 37)).alloc (.cells #[.int .u8 0, .bool false, .int .u8 0, .int .u32 0, .int .u16 0, .string ⟨#[]⟩] 25)) w.heap.size 37 #[.int .u8 p.l.toNat, .int .u8 p.o.toNat, .int .u8 p.g.toNat, .string ⟨p.x.toArray⟩, .slice A p.t.length k]) := Lib.hid ((Blk.new _ _ _).alloc _)
  have HR0 : Hid (Blk ((w.alloc (.cells #[.int .u8 p.l.toNat, .int .u8 p.o.toNat, .int .u8 p.g.toNat, .string ⟨p.x.toArray⟩, .slice A p.t.length k] 37)).alloc (.cells #[.int .u8 0, .bool false, .int .u8 0, .int .u32 0, .int .u16 0, .string ⟨#[]⟩] 25)) (w.heap.size + 1) 25 #[.int .u8 0, .bool false, .int .u8 0, .int .u32 0, .int .u16 0, .string ⟨#[]⟩]) := Lib.hid (by
    have := Blk.new (w.alloc (.cells #[.int .u8 p.l.toNat, .int .u8 p.o.toNat, .int .u8 p.g.toNat, .string ⟨p.x.toArray⟩, .slice A p.t.length k] 37)) 25 #[.int .u8 0, .bool false, .int .u8 0, .int .u32 0, .int .u16 0, .string ⟨#[]⟩]
    simpa using this)
  by_cases ho : p.o = 1
  · have e0 : ((p.o.toNat : Int) != 1) = false := by rw [ho]; rfl
    by_cases hx : p.x.length = 70
    · have e1 : ((p.x.length : Int) != 70) = false := by rw [hx]; rfl
      obtain ⟨n1, hn1⟩ : ∃ n, num (p.x.take 4) = n := ⟨_, rfl⟩
      obtain ⟨n2, hn2⟩ : ∃ n, num ((p.x.drop 4).take 2) = n := ⟨_, rfl⟩
      have l1 : n1 < 4294967296 := by
        have := num_lt (p.x.take 4)
        rw [List.length_take, hx] at this
        rw [← hn1]; exact this
      have l2 : n2 < 65536 := by
        have := num_lt ((p.x.drop 4).take 2)
        rw [List.length_take, List.length_drop, hx] at this
        rw [← hn2]; exact this
      obtain ⟨y8, hy8⟩ : ∃ y, p.g % 8 = y := ⟨_, rfl⟩
      obtain ⟨Q, hQ⟩ : ∃ y, UInt32.ofNat n1 = y := ⟨_, rfl⟩
      obtain ⟨M, hM⟩ : ∃ y, UInt16.ofNat n2 = y := ⟨_, rfl⟩
      obtain ⟨b, hb⟩ : ∃ y, decide (127 < p.g.toNat) = y := ⟨_, rfl⟩
      obtain ⟨d4, hd4⟩ : ∃ y, p.x.drop 4 = y := ⟨_, rfl⟩
      obtain ⟨d6, hd6⟩ : ∃ y, d4.drop 2 = y := ⟨_, rfl⟩
      obtain ⟨a48, ha⟩ : ∃ y, d6.take 48 = y := ⟨_, rfl⟩
      have hd6' : p.x.drop 6 = d6 := by rw [← hd6, ← hd4, List.drop_drop]
      have hCQ : ckQ p = ⟨p.l, b, y8, Q, M, a48⟩ := by unfold ckQ; rw [hn1, hd4] ; rw [← hd4, hn2, hQ, hM, hb, hy8, hd6', ha]
      have hb' : decide ((127 : Int) < (p.g.toNat : Int)) = b := by rw [← hb, Bool.eq_iff_iff]; simp; omega
      have hr1 : (p.g.toNat : Int) % 8 = (y8.toNat : Int) := by rw [← hy8, UInt8.toNat_mod]; rfl
      have hr2 : Int.tmod (p.g.toNat : Int) 8 = (y8.toNat : Int) := by rw [← hy8, UInt8.toNat_mod]; rfl
      have hwQ : IntKind.u32.wrap (n1 : Int) = (Q.toNat : Int) := by rw [← hQ, UInt32.toNat_ofNat']; simp [IntKind.wrap, IntKind.signed, IntKind.bits]
      have hwM : IntKind.u16.wrap (n2 : Int) = (M.toNat : Int) := by rw [← hM, UInt16.toNat_ofNat']; simp [IntKind.wrap, IntKind.signed, IntKind.bits]
      have hd6l : d6.length = 64 := by rw [← hd6, ← hd4, List.length_drop, List.length_drop, hx]
      have hal : a48.length ≤ 1000000 := by rw [← ha, List.length_take]; omega
      have hcut : ∀ w, (Instr.slice 9 (.string ⟨d6.toArray⟩) none (some (.int .i64 48)) none).run Try.prog w = .ok (.string ⟨a48.toArray⟩) w := fun w => by
        rw [run_slice_string_h (P := Try.prog) (w := w) (s := ⟨d6.toArray⟩) (t := 9) Try.underlying9 .i64 48 (by omega) (by show (48 : Int) ≤ (d6.length : Int); omega)]
        have e : (⟨d6.toArray⟩ : ByteArray).extract 0 48 = ⟨a48.toArray⟩ := by
          rw [extract_take, ha]
        exact congrArg (fun x => Result.ok (Value.string x) w) e
      have KN1 : Hid (∀ w : World, Calls Try.prog 24 #[.agg #[.string ⟨p.x.toArray⟩, .int .i64 0], .int .i64 4] w fun e w' => e = .returned (.tuple #[.int .u64 n1, .agg #[.string ⟨d4.toArray⟩, .int .i64 0]]) ∧ Below w.heap.size w w') := Lib.hid (fun w => by
        have := refnum_ok p.x 4 (by omega) (by omega) (by omega) w
        rw [hn1, hd4] at this
        exact this)
      have KN2 : Hid (∀ w : World, Calls Try.prog 24 #[.agg #[.string ⟨d4.toArray⟩, .int .i64 0], .int .i64 2] w fun e w' => e = .returned (.tuple #[.int .u64 n2, .agg #[.string ⟨d6.toArray⟩, .int .i64 0]]) ∧ Below w.heap.size w w') := Lib.hid (fun w => by
        have := refnum_ok d4 2 (by omega) (by omega) (by rw [← hd4, List.length_drop, hx]; omega) w
        rw [hd6, ← hd4, hn2, hd4] at this
        exact this)
      have KM := Lib.hid (fun w => refmay13_any ⟨p.l, b, y8, Q, M, a48⟩ w hal)
      have HF : Hid (ckF p = if ckM ⟨p.l, b, y8, Q, M, a48⟩ = true then 0 else 4) := Lib.hid (by
        unfold ckF
        rw [hCQ]
        by_cases h : ckM ⟨p.l, b, y8, Q, M, a48⟩ = true
        · rw [if_pos ⟨ho, hx, h⟩, if_pos h]
        · rw [if_neg (fun hh => h hh.2.2), if_neg h])
      have HCQ := Lib.hid hCQ
      obtain ⟨m, hm⟩ : ∃ m, ckM ⟨p.l, b, y8, Q, M, a48⟩ = m := ⟨_, rfl⟩
      rw [hm] at KM HF
      have HHX := Lib.hid hx
      clear hn1 hn2 hy8 hQ hM hb hd4 hd6 ha hd6' hCQ hm hx hd6l hal l1 l2 ho
      go_enter Try.func14, Try.ntmps14
      go_wp2_with fail
      refine (KN1.out _).mono ?_
      rintro e w3 ⟨rfl, hb3⟩
      have HB3 : Hid (Below w.heap.size w w3) := Lib.hid (HB0.out.trans (hb3.mono HB0.out.size))
      have HK3 := Lib.hid (HK0.out.below hb3 HK0.out.lt)
      have HR3 := Lib.hid (HR0.out.below hb3 HR0.out.lt)
      clear hb3 HB0 HK0 HR0
      go_wp2_with fail
      refine (KN2.out _).mono ?_
      rintro e w4 ⟨rfl, hb4⟩
      have HB3a : Hid (Below w.heap.size w (w3.alloc (.cells #[.string ⟨d4.toArray⟩, .int .i64 0] 64))) := Lib.hid (HB3.out.alloc HB3.out.size _)
      have HG : Hid (w.heap.size + 1 < w3.heap.size) := Lib.hid HR3.out.lt
      have HB4 : Hid (Below w.heap.size w w4) := Lib.hid (HB3a.out.trans (hb4.mono HB3a.out.size))
      have HK4 := Lib.hid ((HK3.out.alloc (.cells #[.string ⟨d4.toArray⟩, .int .i64 0] 64)).below hb4 (HK3.out.alloc _).lt)
      have HR4 := Lib.hid ((HR3.out.alloc (.cells #[.string ⟨d4.toArray⟩, .int .i64 0] 64)).below hb4 (HR3.out.alloc _).lt)
      have HS4 := Lib.hid ((Blk.new w3 64 #[.string ⟨d4.toArray⟩, .int .i64 0]).below hb4 (Blk.new w3 64 _).lt)
      obtain ⟨g5, hg5⟩ : ∃ g, w3.heap.size = g := ⟨_, rfl⟩
      rw [hg5] at HG HS4
      rw [hg5]
      clear hb4 hg5 HB3 HK3 HR3 HB3a
      have z0 := HS4.out.cell 0
      have z1 := HS4.out.cell 1
      simp only [List.getElem?_toArray, List.getElem?_cons_succ, List.getElem?_cons_zero] at z0 z1
      have f0 := HS4.out.frozen 0
      have f1 := HS4.out.frozen 1
      go_upto_region 5 with (fail)
      have hne0 : w.heap.size ≠ g5 := by have := HG.out; omega
      have hne1 : w.heap.size + 1 ≠ g5 := by have := HG.out; omega
      have HS5 : Hid (Blk ((w4.setCell ⟨g5, 0, none⟩ (.string ⟨d6.toArray⟩)).setCell ⟨g5, 1, none⟩ (.int .i64 0)) g5 64 #[.string ⟨d6.toArray⟩, .int .i64 0]) := Lib.hid (by
        have := (HS4.out.put 0 (.string ⟨d6.toArray⟩)).put 1 (.int .i64 0)
        simpa using this)
      have HK5 := Lib.hid ((HK4.out.far (p := ⟨g5, 0, none⟩) hne0 (.string ⟨d6.toArray⟩)).far (p := ⟨g5, 1, none⟩) hne0 (.int .i64 0))
      have HR5 := Lib.hid ((HR4.out.far (p := ⟨g5, 0, none⟩) hne1 (.string ⟨d6.toArray⟩)).far (p := ⟨g5, 1, none⟩) hne1 (.int .i64 0))
      have HB5 : Hid (Below w.heap.size w ((w4.setCell ⟨g5, 0, none⟩ (.string ⟨d6.toArray⟩)).setCell ⟨g5, 1, none⟩ (.int .i64 0))) := Lib.hid ((HB4.out.setCell (by have := HG.out; show w.heap.size ≤ g5; omega) _).setCell (by have := HG.out; show w.heap.size ≤ g5; omega) _)
      generalize (w4.setCell ⟨g5, 0, none⟩ (.string ⟨d6.toArray⟩)).setCell ⟨g5, 1, none⟩ (.int .i64 0) = w5 at *
      clear HS4 HK4 HR4 HB4 z0 z1 f0 f1 hne0 hne1
      have HKd := Lib.hid (HK5.out.drew)
      have HRd := Lib.hid (HR5.out.drew)
      have HBd := Lib.hid (HB5.out.drew)
      have HSd := Lib.hid (HS5.out.drew)
      have k0 := HKd.out.cell 0
      have k1 := HKd.out.cell 1
      have k2 := HKd.out.cell 2
      have k3 := HKd.out.cell 3
      simp only [List.getElem?_toArray, List.getElem?_cons_succ, List.getElem?_cons_zero] at k0 k1 k2 k3
      have s0 := HSd.out.cell 0
      simp only [List.getElem?_toArray, List.getElem?_cons_succ, List.getElem?_cons_zero] at s0
      have a0 : (w5.alloc (.cells #[.int .u8 0, .bool false, .int .u8 0, .int .u32 0, .int .u16 0, .string ⟨#[]⟩] 25)).drew.cell? ⟨w.heap.size, 0, none⟩ = some (.int .u8 p.l.toNat) := by
        have h := ((HK5.out.alloc (.cells #[.int .u8 0, .bool false, .int .u8 0, .int .u32 0, .int .u16 0, .string ⟨#[]⟩] 25)).drew).cell 0
        simpa using h
      have a2 : (w5.alloc (.cells #[.int .u8 0, .bool false, .int .u8 0, .int .u32 0, .int .u16 0, .string ⟨#[]⟩] 25)).drew.cell? ⟨w.heap.size, 2, none⟩ = some (.int .u8 p.g.toNat) := by
        have h := ((HK5.out.alloc (.cells #[.int .u8 0, .bool false, .int .u8 0, .int .u32 0, .int .u16 0, .string ⟨#[]⟩] 25)).drew).cell 2
        simpa using h
      have a_s : (w5.alloc (.cells #[.int .u8 0, .bool false, .int .u8 0, .int .u32 0, .int .u16 0, .string ⟨#[]⟩] 25)).drew.cell? ⟨g5, 0, none⟩ = some (.string ⟨d6.toArray⟩) := by
        have h := ((HS5.out.alloc (.cells #[.int .u8 0, .bool false, .int .u8 0, .int .u32 0, .int .u16 0, .string ⟨#[]⟩] 25)).drew).cell 0
        simpa using h
      have q0 : (w5.alloc (.cells #[.int .u8 p.l.toNat, .bool b, .int .u8 y8.toNat, .int .u32 Q.toNat, .int .u16 M.toNat, .string ⟨a48.toArray⟩] 25)).drew.cell? ⟨w.heap.size, 0, none⟩ = some (.int .u8 p.l.toNat) := by
        have h := ((HK5.out.alloc (.cells #[.int .u8 p.l.toNat, .bool b, .int .u8 y8.toNat, .int .u32 Q.toNat, .int .u16 M.toNat, .string ⟨a48.toArray⟩] 25)).drew).cell 0
        simpa using h
      have q2 : (w5.alloc (.cells #[.int .u8 p.l.toNat, .bool b, .int .u8 y8.toNat, .int .u32 Q.toNat, .int .u16 M.toNat, .string ⟨a48.toArray⟩] 25)).drew.cell? ⟨w.heap.size, 2, none⟩ = some (.int .u8 p.g.toNat) := by
        have h := ((HK5.out.alloc (.cells #[.int .u8 p.l.toNat, .bool b, .int .u8 y8.toNat, .int .u32 Q.toNat, .int .u16 M.toNat, .string ⟨a48.toArray⟩] 25)).drew).cell 2
        simpa using h
      have q_s : (w5.alloc (.cells #[.int .u8 p.l.toNat, .bool b, .int .u8 y8.toNat, .int .u32 Q.toNat, .int .u16 M.toNat, .string ⟨a48.toArray⟩] 25)).drew.cell? ⟨g5, 0, none⟩ = some (.string ⟨d6.toArray⟩) := by
        have h := ((HS5.out.alloc (.cells #[.int .u8 p.l.toNat, .bool b, .int .u8 y8.toNat, .int .u32 Q.toNat, .int .u16 M.toNat, .string ⟨a48.toArray⟩] 25)).drew).cell 0
        simpa using h
      go_region_held3 (fun w_ => w_.cell? ⟨w.heap.size, 0, none⟩ = some (.int .u8 p.l.toNat) ∧ w_.cell? ⟨w.heap.size, 2, none⟩ = some (.int .u8 p.g.toNat) ∧ w_.cell? ⟨g5, 0, none⟩ = some (.string ⟨d6.toArray⟩)) (first | go_keep)
        (first
          | fail "no")
      have HB7 : Hid (Below w.heap.size w (w5.alloc (.cells #[.int .u8 p.l.toNat, .bool b, .int .u8 y8.toNat, .int .u32 Q.toNat, .int .u16 M.toNat, .string ⟨a48.toArray⟩] 25)).drew) := Lib.hid (HB5.out.alloc HB5.out.size _).drew
      have HR7 := Lib.hid ((HR5.out.alloc (.cells #[.int .u8 p.l.toNat, .bool b, .int .u8 y8.toNat, .int .u32 Q.toNat, .int .u16 M.toNat, .string ⟨a48.toArray⟩] 25)).drew)
      have HQ7 := Lib.hid ((Blk.new w5 25 #[.int .u8 p.l.toNat, .bool b, .int .u8 y8.toNat, .int .u32 Q.toNat, .int .u16 M.toNat, .string ⟨a48.toArray⟩]).drew)
      have u0 := HQ7.out.cell 0
      have u1 := HQ7.out.cell 1
      have u2 := HQ7.out.cell 2
      have u3 := HQ7.out.cell 3
      have u4 := HQ7.out.cell 4
      have u5 := HQ7.out.cell 5
      simp only [List.getElem?_toArray, List.getElem?_cons_succ, List.getElem?_cons_zero] at u0 u1 u2 u3 u4 u5
      clear HKd HRd HBd HSd HK5 HR5 HB5 HS5 k0 k1 k2 k3 s0 a0 a2 a_s q0 q2 q_s
      go_wp2_with fail
      refine (KM.out _).mono ?_
      rintro e w8 ⟨rfl, hb8⟩
      have HB8 : Hid (Below w.heap.size w w8) := Lib.hid (HB7.out.trans (hb8.mono HB7.out.size))
      have HR8 := Lib.hid (HR7.out.below hb8 HR7.out.lt)
      have HQ8 := Lib.hid (HQ7.out.below hb8 HQ7.out.lt)
      clear hb8 HB7 HR7 HQ7 u0 u1 u2 u3 u4 u5
      have k0 := HQ8.out.cell 0
      have k1 := HQ8.out.cell 1
      have k2 := HQ8.out.cell 2
      have k3 := HQ8.out.cell 3
      have k4 := HQ8.out.cell 4
      have k5 := HQ8.out.cell 5
      simp only [List.getElem?_toArray, List.getElem?_cons_succ, List.getElem?_cons_zero] at k0 k1 k2 k3 k4 k5
      cases m
      · have HE : Hid (ckF p = 4 ∧ ckX p = ck0) := Lib.hid (by
          have h := HF.out
          simp only [Bool.false_eq_true, if_false] at h
          exact ckF_no (by omega))
        go_wp2_with (refine wpList_store_row rfl 25 (.tmp 2) (.tmp 49) rfl (w.heap.size + 1) rfl _ rfl 25 _ HR8.out (by kernel_rfl) rfl (by kernel_rfl) ?_)
        refine bodyPost_ret (v := .tuple #[.agg #[.int .u8 0, .bool false, .int .u8 0, .int .u32 0, .int .u16 0, .string ⟨#[]⟩], .int .i64 4]) (results_cell_slot (p := 2) (q := 3) (by kernel_rfl) _ _ (w.heap.size + 1) 25 _ _ rfl (Blk.row HR8.out _) Try.underlying25 rfl (by kernel_rfl) _ rfl) rfl ?_
        exact ⟨by rw [HE.out.1, HE.out.2]; rfl, below_row HB8.out (by omega) _⟩
      · have HE : Hid (ckF p = 0 ∧ ckX p = ⟨p.l, b, y8, Q, M, a48⟩) := Lib.hid (by
          have h := HF.out
          simp only [if_true] at h
          exact ⟨h, by rw [(ckF_ok h).2.2.2, HCQ.out]⟩)
        go_wp2_with (refine wpList_store_row rfl 25 (.tmp 2) (.tmp 50) rfl (w.heap.size + 1) rfl _ rfl 25 _ HR8.out (by kernel_rfl) rfl (by kernel_rfl) ?_)
        refine bodyPost_ret (v := .tuple #[.agg #[.int .u8 p.l.toNat, .bool b, .int .u8 y8.toNat, .int .u32 Q.toNat, .int .u16 M.toNat, .string ⟨a48.toArray⟩], .int .i64 0]) (results_cell_slot (p := 2) (q := 3) (by kernel_rfl) _ _ (w.heap.size + 1) 25 _ _ rfl (Blk.row HR8.out _) Try.underlying25 rfl (by kernel_rfl) _ rfl) rfl ?_
        exact ⟨by rw [HE.out.1, HE.out.2]; rfl, below_row HB8.out (by omega) _⟩
    · have e1 : ((p.x.length : Int) != 70) = true := by simp; omega
      have HE : Hid (ckF p = 4 ∧ ckX p = ck0) := Lib.hid (ckF_no (by unfold ckF; rw [if_neg (fun h => hx h.2.1)]; decide))
      clear hx ho
      go_enter Try.func14, Try.ntmps14
      go_wp2_with (refine wpList_store_row rfl 25 (.tmp 2) (.tmp 17) rfl (w.heap.size + 1) rfl _ rfl 25 _ HR0.out (by kernel_rfl) rfl (by kernel_rfl) ?_)
      refine bodyPost_ret (v := .tuple #[.agg #[.int .u8 0, .bool false, .int .u8 0, .int .u32 0, .int .u16 0, .string ⟨#[]⟩], .int .i64 4]) (results_cell_slot (p := 2) (q := 3) (by kernel_rfl) _ _ (w.heap.size + 1) 25 _ _ rfl (Blk.row HR0.out _) Try.underlying25 rfl (by kernel_rfl) _ rfl) rfl ?_
      exact ⟨by rw [HE.out.1, HE.out.2]; rfl, below_row HB0.out (by omega) _⟩
  · have e0 : ((p.o.toNat : Int) != 1) = true := by
      have := tl_eqI p.o 1
      rw [show ((1 : UInt8).toNat : Int) = 1 from rfl] at this
      unfold bne
      rw [this]
      simpa using ho
    have HE : Hid (ckF p = 4 ∧ ckX p = ck0) := Lib.hid (ckF_no (by unfold ckF; rw [if_neg (fun h => ho h.1)]; decide))
    clear ho
    go_enter Try.func14, Try.ntmps14
    go_wp2_with (refine wpList_store_row rfl 25 (.tmp 2) (.tmp 17) rfl (w.heap.size + 1) rfl _ rfl 25 _ HR0.out (by kernel_rfl) rfl (by kernel_rfl) ?_)
    refine bodyPost_ret (v := .tuple #[.agg #[.int .u8 0, .bool false, .int .u8 0, .int .u32 0, .int .u16 0, .string ⟨#[]⟩], .int .i64 4]) (results_cell_slot (p := 2) (q := 3) (by kernel_rfl) _ _ (w.heap.size + 1) 25 _ _ rfl (Blk.row HR0.out _) Try.underlying25 rfl (by kernel_rfl) _ rfl) rfl ?_
    exact ⟨by rw [HE.out.1, HE.out.2]; rfl, below_row HB0.out (by omega) _⟩
end Go.Proofs.Ytmhhhcphdnnopaa
