/- Layer 13: package ccm's calls. -/
import Derived.Test.YtkmdgpfaaniibaaZzLaw13
import Derived.Test.YtkmdgpfaaniibaaZzMdTk
import Derived.Test.YtkmdgpfaaniibaaZzMdRep
import Derived.BigQuiet
import Derived.Deep.QuietTactic
import Derived.Deep.RegionHeld3
namespace Go.Proofs.Ytkmdgpfaaniibaa
open Go.RowKit
set_option linter.unusedVariables false
set_option linter.unusedSimpArgs false
set_option maxRecDepth 100000

theorem ccticks_impl : CcTicksC := by
  intro i w
  by_cases h4 : i = 4
  · subst h4
    go_enter Try.func23, Try.ntmps23
    go_wp2
    go_ret
    exact ⟨rfl, Below.refl _ _⟩
  · by_cases h5 : i = 5
    · subst h5
      go_enter Try.func23, Try.ntmps23
      go_wp2
      go_ret
      exact ⟨rfl, Below.refl _ _⟩
    · have e4 : ((i.toNat : Int) == 4) = false := by
        rw [beq_eq_false_iff_ne]; intro h; exact h4 (UInt8.toNat_inj.1 (by show i.toNat = 4; omega))
      have e5 : ((i.toNat : Int) == 5) = false := by
        rw [beq_eq_false_iff_ne]; intro h; exact h5 (UInt8.toNat_inj.1 (by show i.toNat = 5; omega))
      have hN : ckN i = 0 := by unfold ckN; rw [if_neg h4, if_neg h5]
      rw [hN]
      clear h4 h5 hN
      go_enter Try.func23, Try.ntmps23
      go_wp2
      go_ret
      exact ⟨rfl, Below.refl _ _⟩
/-- the check within its limits -/
def ckW (c : Ck) : Ck := { c with l := min c.l 7, i := min (max c.i 4) 5, m := min (max c.m 1) 8191 }
theorem u8_min (a b : UInt8) : ((min a b).toNat : Int) = min (a.toNat : Int) (b.toNat : Int) := by
  show (((if a ≤ b then a else b) : UInt8).toNat : Int) = _
  split
  · rename_i h; have := UInt8.le_iff_toNat_le.1 h; omega
  · rename_i h; have : ¬ a.toNat ≤ b.toNat := fun h' => h (UInt8.le_iff_toNat_le.2 h'); omega
theorem u8_max (a b : UInt8) : ((max a b).toNat : Int) = max (a.toNat : Int) (b.toNat : Int) := by
  show (((if a ≤ b then b else a) : UInt8).toNat : Int) = _
  split
  · rename_i h; have := UInt8.le_iff_toNat_le.1 h; omega
  · rename_i h; have : ¬ a.toNat ≤ b.toNat := fun h' => h (UInt8.le_iff_toNat_le.2 h'); omega
theorem u16_min (a b : UInt16) : ((min a b).toNat : Int) = min (a.toNat : Int) (b.toNat : Int) := by
  show (((if a ≤ b then a else b) : UInt16).toNat : Int) = _
  split
  · rename_i h; have := UInt16.le_iff_toNat_le.1 h; omega
  · rename_i h; have : ¬ a.toNat ≤ b.toNat := fun h' => h (UInt16.le_iff_toNat_le.2 h'); omega
theorem u16_max (a b : UInt16) : ((max a b).toNat : Int) = max (a.toNat : Int) (b.toNat : Int) := by
  show (((if a ≤ b then b else a) : UInt16).toNat : Int) = _
  split
  · rename_i h; have := UInt16.le_iff_toNat_le.1 h; omega
  · rename_i h; have : ¬ a.toNat ≤ b.toNat := fun h' => h (UInt16.le_iff_toNat_le.2 h'); omega
theorem u8_4or5 (i : UInt8) : (i = 4 ∨ i = 5) ↔ min (max (i.toNat : Int) 4) 5 = (i.toNat : Int) := by
  constructor
  · rintro (rfl | rfl) <;> decide
  · intro h
    have : i.toNat = 4 ∨ i.toNat = 5 := by omega
    rcases this with h | h
    · exact .inl (UInt8.toNat_inj.1 h)
    · exact .inr (UInt8.toNat_inj.1 h)
theorem ckW_is (c : Ck) : ckM c = (ckA c.a && decide (c = ckW c)) := by
  obtain ⟨l, r, i, q, m, a⟩ := c
  rw [Bool.eq_iff_iff]
  unfold ckM ckW
  simp only [Bool.and_eq_true, Bool.or_eq_true, beq_iff_eq, decide_eq_true_eq, Ck.mk.injEq, true_and, and_true]
  have h1 : l = min l 7 ↔ l.toNat < 8 := by
    have := u8_min l 7
    have e7 : (7 : UInt8).toNat = 7 := rfl
    rw [e7] at this
    constructor
    · intro h; rw [← h] at this; omega
    · intro h; exact UInt8.toNat_inj.1 (by omega)
  have h2 : i = min (max i 4) 5 ↔ (i = 4 ∨ i = 5) := by
    rw [u8_4or5]
    have a1 := u8_min (max i 4) 5
    have a2 := u8_max i 4
    have e4 : (4 : UInt8).toNat = 4 := rfl
    have e5 : (5 : UInt8).toNat = 5 := rfl
    rw [a2, e4, e5] at a1
    constructor
    · intro h; rw [← h] at a1; omega
    · intro h; exact UInt8.toNat_inj.1 (by omega)
  have h3 : m = min (max m 1) 8191 ↔ (0 < m.toNat ∧ m.toNat < 8192) := by
    have a1 := u16_min (max m 1) 8191
    have a2 := u16_max m 1
    have e4 : (1 : UInt16).toNat = 1 := rfl
    have e5 : (8191 : UInt16).toNat = 8191 := rfl
    rw [a2, e4, e5] at a1
    constructor
    · intro h; rw [← h] at a1; omega
    · intro h; exact UInt16.toNat_inj.1 (by omega)
  rw [← h1, ← h2, ← h3]
set_option maxHeartbeats 4000000 in
theorem within_any (c : Ck) (w : World) :
    Calls Try.prog 49 #[CkV c] w fun e w' => e = .returned (CkV (ckW c)) ∧ Below w.heap.size w w' := by
  have m1 : min (c.l.toNat : Int) 7 = ((min c.l 7).toNat : Int) := (u8_min c.l 7).symm
  have m2 : max (c.i.toNat : Int) 4 = ((max c.i 4).toNat : Int) := (u8_max c.i 4).symm
  have m3 : min ((max c.i 4).toNat : Int) 5 = ((min (max c.i 4) 5).toNat : Int) := (u8_min _ 5).symm
  have m4 : max (c.m.toNat : Int) 1 = ((max c.m 1).toNat : Int) := (u16_max c.m 1).symm
  have m5 : min ((max c.m 1).toNat : Int) 8191 = ((min (max c.m 1) 8191).toNat : Int) := (u16_min _ 8191).symm
  show Calls _ _ #[.agg #[.int .u8 c.l.toNat, .bool c.r, .int .u8 c.i.toNat, .int .u32 c.q.toNat, .int .u16 c.m.toNat, .string ⟨c.a.toArray⟩]] _ _
  have e1 : min (max (c.i.toNat : Int) 4) 5 = ((min (max c.i 4) 5).toNat : Int) := by rw [m2, m3]
  have e2 : min (max (c.m.toNat : Int) 1) 8191 = ((min (max c.m 1) 8191).toNat : Int) := by rw [m4, m5]
  have hV : CkV (ckW c) = .agg #[.int .u8 (min (c.l.toNat : Int) 7), .bool c.r, .int .u8 (min (max (c.i.toNat : Int) 4) 5), .int .u32 c.q.toNat, .int .u16 (min (max (c.m.toNat : Int) 1) 8191), .string ⟨c.a.toArray⟩] := by
    rw [m1, e1, e2]; rfl
  rw [hV]
  clear hV e1 e2 m1 m2 m3 m4 m5
  have HRR : Hid (Blk ((w.alloc (.cells #[.int .u8 (min (c.l.toNat : Int) 7), .bool c.r, .int .u8 (min (max (c.i.toNat : Int) 4) 5), .int .u32 c.q.toNat, .int .u16 (min (max (c.m.toNat : Int) 1) 8191), .string ⟨c.a.toArray⟩] 44)).alloc (.cells #[.int .u8 (min (c.l.toNat : Int) 7), .bool c.r, .int .u8 (min (max (c.i.toNat : Int) 4) 5), .int .u32 c.q.toNat, .int .u16 (min (max (c.m.toNat : Int) 1) 8191), .string ⟨c.a.toArray⟩] 44)) (w.heap.size + 1) 44 #[.int .u8 (min (c.l.toNat : Int) 7), .bool c.r, .int .u8 (min (max (c.i.toNat : Int) 4) 5), .int .u32 c.q.toNat, .int .u16 (min (max (c.m.toNat : Int) 1) 8191), .string ⟨c.a.toArray⟩]) := Lib.hid (by
    have := Blk.new (w.alloc (.cells #[.int .u8 (min (c.l.toNat : Int) 7), .bool c.r, .int .u8 (min (max (c.i.toNat : Int) 4) 5), .int .u32 c.q.toNat, .int .u16 (min (max (c.m.toNat : Int) 1) 8191), .string ⟨c.a.toArray⟩] 44)) 44 #[.int .u8 (min (c.l.toNat : Int) 7), .bool c.r, .int .u8 (min (max (c.i.toNat : Int) 4) 5), .int .u32 c.q.toNat, .int .u16 (min (max (c.m.toNat : Int) 1) 8191), .string ⟨c.a.toArray⟩]
    simpa using this)
  go_enter Try.func49, Try.ntmps49
  go_wp2_with fail
  refine bodyPost_ret (v := .agg #[.int .u8 (min (c.l.toNat : Int) 7), .bool c.r, .int .u8 (min (max (c.i.toNat : Int) 4) 5), .int .u32 c.q.toNat, .int .u16 (min (max (c.m.toNat : Int) 1) 8191), .string ⟨c.a.toArray⟩]) (results_cell_one (p := 2) (by kernel_rfl) _ _ (w.heap.size + 1) 44 _ _ rfl HRR.out Try.underlying44 rfl (by kernel_rfl)) rfl ?_
  exact ⟨rfl, ((Below.refl _ _).alloc (Nat.le_refl _) _).alloc (by simp) _⟩
theorem putflags_any (c : Ck) (w : World) (h : c.i = 4 ∨ c.i = 5) :
    Calls Try.prog 43 #[CkV c] w fun e w' => e = .returned (.int .u8 (ckG c).toNat) ∧ Below w.heap.size w w' := by
  obtain ⟨l, r, i, q, m, a⟩ := c
  have hb : Below w.heap.size w (w.alloc (.cells #[.int .u8 l.toNat, .bool r, .int .u8 i.toNat, .int .u32 q.toNat, .int .u16 m.toNat, .string ⟨a.toArray⟩] 44)) := (Below.refl _ _).alloc (Nat.le_refl _) _
  rcases h with h | h
  all_goals (
    simp only at h
    subst h
    cases r)
  all_goals (
    go_enter Try.func43, Try.ntmps43
    go_wp2
    go_ret
    exact ⟨rfl, hb⟩)
theorem dig_zero16 : dig 16 0 = List.replicate 16 0 := by decide
theorem put32n (q : UInt32) (w : World) :
    Calls Try.prog 51 #[.slice none 0 0, .int .u32 q.toNat] w fun e w' => ∃ A c, e = .returned (.slice A 4 c) ∧ (A = none → c = 0) ∧ Byt w' A (dig 4 q.toNat) ∧ Below w.heap.size w w' := by
  have := q.toNat_lt
  refine (put32_any (w := w) none 0 [] (q.toNat : Int) (Byt.nil_ _ _) (fun _ => rfl) (by simp) (by omega) (by omega)).mono ?_
  rintro e w' ⟨v, rfl, ho, hb⟩
  obtain ⟨A, c, rfl, hz, hy⟩ := own_len ho
  rw [show ([] ++ dig 4 ((q.toNat : Int)).toNat) = dig 4 q.toNat by simp] at hy
  exact ⟨A, c, by simp [dig_len], hz, hy, hb⟩
theorem put16n (A : Option Addr) (c : Nat) (l : List UInt8) (m : UInt16) (w : World) (hl : l.length = 4) (hz : A = none → c = 0) (hy : Byt w A l) :
    Calls Try.prog 50 #[.slice A 4 c, .int .u16 m.toNat] w fun e w' => ∃ A c, e = .returned (.slice A 6 c) ∧ Str w' (.slice A 6 c) (l ++ dig 2 m.toNat) ∧ Below w.heap.size w w' := by
  have := m.toNat_lt
  have h := put16_any (w := w) A c l (m.toNat : Int) hy hz (by omega) (by omega) (by omega)
  rw [hl] at h
  refine h.mono ?_
  rintro e w' ⟨v, rfl, ho, hb⟩
  have hs := ho.str
  obtain ⟨A, c, rfl, hz, hy⟩ := own_len ho
  rw [show (l ++ dig 2 ((m.toNat : Int)).toNat) = l ++ dig 2 m.toNat by simp] at hs hy
  have e6 : (l ++ dig 2 m.toNat).length = 6 := by simp [dig_len, hl]
  have e6' : (l ++ dig 2 ((m.toNat : Int)).toNat).length = 6 := by simp [dig_len, hl]
  rw [e6] at hs
  exact ⟨A, c, by rw [e6'], hs, hb⟩
set_option maxHeartbeats 4000000 in
theorem putfixed_any (c : Ck) (w : World) (h : c.a.length ≤ 1000) :
    Calls Try.prog 44 #[CkV c] w fun e w' => e = .returned (.string ⟨(ckS c).toArray⟩) ∧ Below w.heap.size w w' := by
  have HB0 : Hid (Below w.heap.size w (w.alloc (.cells #[.int .u8 c.l.toNat, .bool c.r, .int .u8 c.i.toNat, .int .u32 c.q.toNat, .int .u16 c.m.toNat, .string ⟨c.a.toArray⟩] 44))) := Lib.hid ((Below.refl _ _).alloc (Nat.le_refl _) _)
  have HK0 := Lib.hid (Blk.new w 44 #[.int .u8 c.l.toNat, .bool c.r, .int .u8 c.i.toNat, .int .u32 c.q.toNat, .int .u16 c.m.toNat, .string ⟨c.a.toArray⟩])
  have HL := Lib.hid h
  clear h
  show Calls _ _ #[.agg #[.int .u8 c.l.toNat, .bool c.r, .int .u8 c.i.toNat, .int .u32 c.q.toNat, .int .u16 c.m.toNat, .string ⟨c.a.toArray⟩]] _ _
  obtain ⟨D1, hD1⟩ : ∃ D, dig 4 c.q.toNat = D := ⟨_, rfl⟩
  obtain ⟨D2, hD2⟩ : ∃ D, D1 ++ dig 2 c.m.toNat = D := ⟨_, rfl⟩
  obtain ⟨D3, hD3⟩ : ∃ D, D2 ++ c.a = D := ⟨_, rfl⟩
  obtain ⟨R, hR⟩ : ∃ R, List.replicate 16 (0 : UInt8) = R := ⟨_, rfl⟩
  have hl1 : D1.length = 4 := by rw [← hD1, dig_len]
  have hl2 : D2.length = 6 := by rw [← hD2, List.length_append, dig_len, hl1]
  have hl3 : D3.length ≤ 1006 := by rw [← hD3, List.length_append]; have := HL.out; omega
  have hlR : R.length = 16 := by rw [← hR]; simp
  have hX : D3 ++ R = ckS c := by rw [← hD3, ← hD2, ← hD1, ← hR, ← dig_zero16]; unfold ckS; simp
  have K1 := Lib.hid (fun w => put32n c.q w)
  rw [hD1] at K1
  have K2 := Lib.hid (fun A k w => put16n A k D1 c.m w hl1)
  rw [hD2] at K2
  have K3 := Lib.hid (fun w => repeat_any 16 w (by omega))
  rw [hR] at K3
  have a1 : ∀ w : World, (Op.stringOp .add ⟨D2.toArray⟩ ⟨c.a.toArray⟩).run Try.prog w = .ok (.string ⟨D3.toArray⟩) w := fun w => by rw [← hD3]; exact run_string_add_lists w D2 c.a (by omega) (by have := HL.out; omega)
  have a2 : ∀ w : World, (Op.stringOp .add ⟨D3.toArray⟩ ⟨R.toArray⟩).run Try.prog w = .ok (.string ⟨(D3 ++ R).toArray⟩) w := fun w => run_string_add_lists w D3 R (by omega) (by omega)
  rw [hX] at a2
  obtain ⟨X, hX2⟩ : ∃ X, ckS c = X := ⟨_, rfl⟩
  rw [hX2] at a2 ⊢
  have A1 := Lib.hid a1
  have A2o := Lib.hid a2
  clear hX hX2 hD1 hD2 hD3 hR hl1 hl2 hl3 hlR a1 a2
  have k0 := HK0.out.cell 0
  have k1 := HK0.out.cell 1
  have k2 := HK0.out.cell 2
  have k3 := HK0.out.cell 3
  have k4 := HK0.out.cell 4
  have k5 := HK0.out.cell 5
  simp only [List.getElem?_toArray, List.getElem?_cons_succ, List.getElem?_cons_zero] at k0 k1 k2 k3 k4 k5
  clear k0 k1 k2 k5
  go_enter Try.func44, Try.ntmps44
  go_upto_region 1 with (fail)
  go_cut [3] (fun a wx => ∃ A k, a = .slice A 6 k ∧ Hid (Str wx (.slice A 6 k) D2) ∧ Hid (Below w.heap.size w wx) ∧ Hid (Blk wx w.heap.size 44 #[.int .u8 c.l.toNat, .bool c.r, .int .u8 c.i.toNat, .int .u32 c.q.toNat, .int .u16 c.m.toNat, .string ⟨c.a.toArray⟩]))
  case first =>
    go_region_with (first
      | (go_at_call 51; refine (K1.out _).mono ?_; rintro r w1 ⟨A1, k1, rfl, hz1, hy1, hb1⟩; have HY1 := Lib.hid hy1; have HZ1 := Lib.hid hz1; have HB1 := Lib.hid (HB0.out.drew.trans (hb1.mono HB0.out.drew.size)); have HK1 := Lib.hid (Blk.below (Blk.drew HK0.out) hb1 HK0.out.lt); have k4' := Blk.cell HK1.out 4; simp only [List.getElem?_toArray, List.getElem?_cons_succ, List.getElem?_cons_zero] at k4'; clear hy1 hz1 hb1)
      | (go_at_call 50; refine (K2.out _ _ _ HZ1.out HY1.out).mono ?_; rintro r w2 ⟨A2, k2, rfl, hs2, hb2⟩; have HS2 := Lib.hid hs2; have HB2 := Lib.hid (HB1.out.trans (hb2.mono HB1.out.size)); have HK2 := Lib.hid (Blk.below HK1.out hb2 HK1.out.lt); clear hs2 hb2)
      | fail "no")
    all_goals (
      go_wp2_with fail
      go_meet
      exact ⟨_, _, rfl, HS2, HB2, HK2⟩)
  obtain ⟨A2, k2, rfl, HS2, HB2, HK2⟩ := hcut
  clear HB0 HK0 K1 K2 k3 k4
  have HKd : Hid (Blk wc.drew w.heap.size 44 #[.int .u8 c.l.toNat, .bool c.r, .int .u8 c.i.toNat, .int .u32 c.q.toNat, .int .u16 c.m.toNat, .string ⟨c.a.toArray⟩]) := Lib.hid (Blk.drew HK2.out)
  have HSd : Hid (Str wc.drew (.slice A2 6 k2) D2) := Lib.hid HS2.out
  have HBd : Hid (Below w.heap.size w wc.drew) := Lib.hid HB2.out.drew
  have hcv := HSd.out.conv
  have a1 := A1.out
  have a2 := A2o.out
  have k5 := HKd.out.cell 5
  simp only [List.getElem?_toArray, List.getElem?_cons_succ, List.getElem?_cons_zero] at k5
  clear HS2 HB2 HK2
  go_wp2_with fail
  go_region_law ((go_simp; go_at_call 52; refine (K3.out _).mono ?_; rintro r w_ ⟨rfl, hb_⟩; have hcv_ := (HSd.out.below hb_).conv; have k5_ := Blk.cell (HKd.out.below hb_ HKd.out.lt) 5; simp only [List.getElem?_toArray, List.getElem?_cons_succ, List.getElem?_cons_zero] at k5_; have kB := Lib.hid (HBd.out.trans (hb_.mono HBd.out.size)); clear hb_))
  all_goals (
    go_wp2
    go_ret
    exact ⟨rfl, kB.out⟩)
theorem keepM13 {W w w' : World} (g : Nat) (c : Ck) (h0 : w.cell? ⟨g, 0, none⟩ = some (.int .u8 c.l.toNat)) (h1 : w.cell? ⟨g, 1, none⟩ = some (.bool c.r)) (h2 : w.cell? ⟨g, 2, none⟩ = some (.int .u8 c.i.toNat)) (h3 : w.cell? ⟨g, 3, none⟩ = some (.int .u32 c.q.toNat)) (h4 : w.cell? ⟨g, 4, none⟩ = some (.int .u16 c.m.toNat)) (h5 : w.cell? ⟨g, 5, none⟩ = some (.string ⟨c.a.toArray⟩))  (hB : Hid (Below W.heap.size W w)) (hb : Below w.heap.size w w') : w'.cell? ⟨g, 0, none⟩ = some (.int .u8 c.l.toNat) ∧ w'.cell? ⟨g, 1, none⟩ = some (.bool c.r) ∧ w'.cell? ⟨g, 2, none⟩ = some (.int .u8 c.i.toNat) ∧ w'.cell? ⟨g, 3, none⟩ = some (.int .u32 c.q.toNat) ∧ w'.cell? ⟨g, 4, none⟩ = some (.int .u16 c.m.toNat) ∧ w'.cell? ⟨g, 5, none⟩ = some (.string ⟨c.a.toArray⟩) ∧ Hid (Below W.heap.size W w') := by
  have hk : ∀ {g i : Nat} {v : Value}, w.cell? ⟨g, i, none⟩ = some v → w'.cell? ⟨g, i, none⟩ = some v := fun {g i v} h => (hb.cell (p := ⟨g, i, none⟩) (World.block_lt_of_cell? w _ h)).trans h
  exact ⟨hk h0, hk h1, hk h2, hk h3, hk h4, hk h5, Lib.hid (hB.out.trans (hb.mono hB.out.size))⟩
set_option maxHeartbeats 4000000 in
theorem maybe_any (c : Ck) (w : World) :
    Calls Try.prog 42 #[CkV c] w fun e w' => e = .returned (.bool (ckM c)) ∧ Below w.heap.size w w' := by
  have HB0 : Hid (Below w.heap.size w (w.alloc (.cells #[.int .u8 c.l.toNat, .bool c.r, .int .u8 c.i.toNat, .int .u32 c.q.toNat, .int .u16 c.m.toNat, .string ⟨c.a.toArray⟩] 44))) := Lib.hid ((Below.refl _ _).alloc (Nat.le_refl _) _)
  have HK0 := Lib.hid (Blk.new w 44 #[.int .u8 c.l.toNat, .bool c.r, .int .u8 c.i.toNat, .int .u32 c.q.toNat, .int .u16 c.m.toNat, .string ⟨c.a.toArray⟩])
  have K1 := Lib.hid (fun w => mdtake c.a w)
  have K2 := Lib.hid (fun w => within_any c w)
  have hq := fun w => run_eqCk c (ckW c) w
  have hM := ckW_is c
  obtain ⟨q, hqq⟩ : ∃ q, decide (c = ckW c) = q := ⟨_, rfl⟩
  simp only [hqq] at hq hM
  obtain ⟨e0, he0⟩ : ∃ e, ptE c.a = e := ⟨_, rfl⟩
  rw [he0] at K1
  unfold ckA at hM
  rw [he0] at hM
  have HM := Lib.hid hM
  obtain ⟨c2, hc2⟩ : ∃ d, ckW c = d := ⟨_, rfl⟩
  rw [hc2] at K2
  simp only [hc2] at hq
  have HQ := Lib.hid hq
  clear hqq he0 hM hc2 hq
  show Calls _ _ #[.agg #[.int .u8 c.l.toNat, .bool c.r, .int .u8 c.i.toNat, .int .u32 c.q.toNat, .int .u16 c.m.toNat, .string ⟨c.a.toArray⟩]] _ _
  have k0 := HK0.out.cell 0
  have k1 := HK0.out.cell 1
  have k2 := HK0.out.cell 2
  have k3 := HK0.out.cell 3
  have k4 := HK0.out.cell 4
  have k5 := HK0.out.cell 5
  simp only [List.getElem?_toArray, List.getElem?_cons_succ, List.getElem?_cons_zero] at k0 k1 k2 k3 k4 k5
  clear k0 k1 k2 k3 k4
  go_enter Try.func42, Try.ntmps42
  go_wp2_with fail
  refine (K1.out _).mono ?_
  rintro r w1 ⟨rfl, hb1⟩
  have HB1 := Lib.hid (HB0.out.trans (hb1.mono HB0.out.size))
  have HK1 := Lib.hid (HK0.out.below hb1 HK0.out.lt)
  clear hb1 HB0 HK0 k5 K1
  by_cases h0 : e0 = 0
  · subst h0
    have HKd : Hid (Blk w1.drew w.heap.size 44 #[.int .u8 c.l.toNat, .bool c.r, .int .u8 c.i.toNat, .int .u32 c.q.toNat, .int .u16 c.m.toNat, .string ⟨c.a.toArray⟩]) := Lib.hid (Blk.drew HK1.out)
    have HBd : Hid (Below w.heap.size w w1.drew) := Lib.hid HB1.out.drew
    have k0 := HKd.out.cell 0
    have k1 := HKd.out.cell 1
    have k2 := HKd.out.cell 2
    have k3 := HKd.out.cell 3
    have k4 := HKd.out.cell 4
    have k5 := HKd.out.cell 5
    simp only [List.getElem?_toArray, List.getElem?_cons_succ, List.getElem?_cons_zero] at k0 k1 k2 k3 k4 k5
    clear HKd HK1 HB1
    have hq := HQ.out
    go_wp2_with fail
    go_region_held3 (fun w_ => w_.cell? ⟨w.heap.size, 0, none⟩ = some (.int .u8 c.l.toNat) ∧ w_.cell? ⟨w.heap.size, 1, none⟩ = some (.bool c.r) ∧ w_.cell? ⟨w.heap.size, 2, none⟩ = some (.int .u8 c.i.toNat) ∧ w_.cell? ⟨w.heap.size, 3, none⟩ = some (.int .u32 c.q.toNat) ∧ w_.cell? ⟨w.heap.size, 4, none⟩ = some (.int .u16 c.m.toNat) ∧ w_.cell? ⟨w.heap.size, 5, none⟩ = some (.string ⟨c.a.toArray⟩) ∧ Hid (Below w.heap.size w w_)) (first | go_keep)
      (first
        | (go_at_call 49; refine (K2.out _).mono ?_; rintro r w_ ⟨rfl, hb_⟩; obtain ⟨k0, k1, k2, k3, k4, k5, HBd⟩ := keepM13 w.heap.size c k0 k1 k2 k3 k4 k5 HBd hb_; clear hb_)
        | fail "no")
    go_wp2
    go_ret
    exact ⟨by rw [HM.out]; rfl, HBd.out⟩
  · have HZ := Lib.hid h0
    have d0 : ((e0 : Int) == 0) = false := by simpa using h0
    have hM : ckM c = false := by rw [HM.out]; simp [h0]
    have HM2 := Lib.hid hM
    clear h0 hM
    go_wp2_with fail
    go_quiet (fail)
    go_wp2
    go_ret
    exact ⟨by rw [HM2.out]; rfl, below_drewN HB1.out _⟩
theorem tk_go {n : Nat} {l : List UInt8} (h : n ≤ l.length) : tkV n l 0 = l.take n ∧ tkL n l 0 = l.drop n ∧ tkE n l 0 = 0 :=
  ⟨by simp [tkV, h], by simp [tkL, h], by simp [tkE]; omega⟩
theorem tk_stop {n : Nat} {l : List UInt8} {er : Int} (h : er ≠ 0 ∨ l.length < n) : tkE n l er ≠ 0 := by
  unfold tkE
  split
  · decide
  · rename_i h'
    rcases h with h | h
    · exact h
    · intro e; exact h' ⟨e, h⟩
theorem nd_stop {l : List UInt8} {er : Int} (h : er ≠ 0 ∨ 0 < l.length) : ndE l er ≠ 0 := by
  unfold ndE
  split
  · decide
  · rename_i h'
    rcases h with h | h
    · exact h
    · intro e; exact h' ⟨e, h⟩
theorem rf_is (s L1 L2 L3 L4 : List UInt8) (E1 E2 E3 E4 : Int) (a1 : tkL 4 s 0 = L1) (a2 : tkL 2 L1 E1 = L2) (a3 : tkL 48 L2 E2 = L3) (a4 : tkL 16 L3 E3 = L4) (b1 : tkE 4 s 0 = E1) (b2 : tkE 2 L1 E1 = E2) (b3 : tkE 48 L2 E2 = E3) (b4 : tkE 16 L3 E3 = E4) :
    (s.length = 70 → tkV 4 s 0 = s.take 4 ∧ tkV 2 L1 E1 = (s.drop 4).take 2 ∧ tkV 48 L2 E2 = (s.drop 6).take 48 ∧ ndE L4 E4 = 0) ∧ (s.length ≠ 70 → ndE L4 E4 ≠ 0) := by
  by_cases h1 : 4 ≤ s.length
  · obtain ⟨v1, l1, e1⟩ := tk_go h1
    rw [a1] at l1; rw [b1] at e1
    subst l1 e1
    by_cases h2 : 2 ≤ (s.drop 4).length
    · obtain ⟨v2, l2, e2⟩ := tk_go h2
      rw [a2] at l2; rw [b2] at e2
      rw [List.drop_drop] at l2
      replace l2 : L2 = s.drop 6 := l2.symm ▸ rfl
      subst l2 e2
      by_cases h3 : 48 ≤ (s.drop 6).length
      · obtain ⟨v3, l3, e3⟩ := tk_go h3
        rw [a3] at l3; rw [b3] at e3
        rw [List.drop_drop] at l3
        replace l3 : L3 = s.drop 54 := l3.symm ▸ rfl
        subst l3 e3
        by_cases h4 : 16 ≤ (s.drop 54).length
        · obtain ⟨v4, l4, e4⟩ := tk_go h4
          rw [a4] at l4; rw [b4] at e4
          rw [List.drop_drop] at l4
          replace l4 : L4 = s.drop 70 := l4.symm ▸ rfl
          subst l4 e4
          simp only [List.length_drop] at h2 h3 h4
          refine ⟨fun h => ⟨v1, v2, v3, ?_⟩, fun h => nd_stop (.inr (by simp only [List.length_drop]; omega))⟩
          unfold ndE
          rw [if_neg (by simp only [List.length_drop]; omega)]
        · have e4 : E4 ≠ 0 := by rw [← b4]; exact tk_stop (.inr (by omega))
          simp only [List.length_drop] at h4
          exact ⟨fun h => absurd h (by omega), fun _ => nd_stop (.inl e4)⟩
      · have e3 : E3 ≠ 0 := by rw [← b3]; exact tk_stop (.inr (by omega))
        have e4 : E4 ≠ 0 := by rw [← b4]; exact tk_stop (.inl e3)
        simp only [List.length_drop] at h3
        exact ⟨fun h => absurd h (by omega), fun _ => nd_stop (.inl e4)⟩
    · have e2 : E2 ≠ 0 := by rw [← b2]; exact tk_stop (.inr (by omega))
      have e3 : E3 ≠ 0 := by rw [← b3]; exact tk_stop (.inl e2)
      have e4 : E4 ≠ 0 := by rw [← b4]; exact tk_stop (.inl e3)
      simp only [List.length_drop] at h2
      exact ⟨fun h => absurd h (by omega), fun _ => nd_stop (.inl e4)⟩
  · have e1 : E1 ≠ 0 := by rw [← b1]; exact tk_stop (.inr (by omega))
    have e2 : E2 ≠ 0 := by rw [← b2]; exact tk_stop (.inl e1)
    have e3 : E3 ≠ 0 := by rw [← b3]; exact tk_stop (.inl e2)
    have e4 : E4 ≠ 0 := by rw [← b4]; exact tk_stop (.inl e3)
    exact ⟨fun h => absurd h (by omega), fun _ => nd_stop (.inl e4)⟩
/-- readFixed's memory: the result's block, the reader, the check at hand -/
structure RfS (W : World) (b g : Nat) (L : List UInt8) (er : Int) (cs : Array Value) (w : World) : Prop where
  res : Blk w W.heap.size 44 #[.int .u8 0, .bool false, .int .u8 0, .int .u32 0, .int .u16 0, .string ⟨#[]⟩]
  cur : Blk w g 44 cs
  lt1 : W.heap.size < b
  lt2 : b < g
  rdr : Rdr w b L er
  below : Below W.heap.size W w
theorem RfS.call {W w w' : World} {b g : Nat} {L L' : List UInt8} {er er' : Int} {cs : Array Value} (h : RfS W b g L er cs w) (hr : Rdr w' b L' er') (hc : Chg (only b) w w') : RfS W b g L' er' cs w' := by
  obtain ⟨h1, h2, h3, h4, h5, h6⟩ := h
  exact ⟨h1.chg hc (by unfold only; omega), h2.chg hc (by unfold only; omega), h3, h4, hr, h6.trans (Chg.below (hc.mono (S' := only b) (fun _ _ h => h)) h6.size (fun k hk hs => by unfold only at hs; omega))⟩
theorem RfS.put {W w : World} {b g : Nat} {L : List UInt8} {er : Int} {cs : Array Value} (h : RfS W b g L er cs w) (i : Nat) (v : Value) : RfS W b g L er (cs.setIfInBounds i v) (w.setCell ⟨g, i, none⟩ v) := by
  obtain ⟨h1, h2, h3, h4, h5, h6⟩ := h
  exact ⟨h1.far (p := ⟨g, i, none⟩) (by show W.heap.size ≠ g; omega) v, h2.put i v, h3, h4, Blk.far h5 (p := ⟨g, i, none⟩) (by show b ≠ g; omega) v, h6.setCell (p := ⟨g, i, none⟩) (by show W.heap.size ≤ g; omega) v⟩
theorem RfS.drew {W w : World} {b g : Nat} {L : List UInt8} {er : Int} {cs : Array Value} (h : RfS W b g L er cs w) : RfS W b g L er cs w.drew := ⟨h.res.drew, h.cur.drew, h.lt1, h.lt2, Blk.drew h.rdr, h.below.drew⟩
theorem keepP13 {W w w' : World} (g g2 : Nat) (c : Ck) (h0 : w.cell? ⟨g, 0, none⟩ = some (.int .u8 c.l.toNat)) (h1 : w.cell? ⟨g, 1, none⟩ = some (.bool c.r)) (h2 : w.cell? ⟨g, 2, none⟩ = some (.int .u8 c.i.toNat)) (h3 : w.cell? ⟨g, 3, none⟩ = some (.int .u32 c.q.toNat)) (h4 : w.cell? ⟨g, 4, none⟩ = some (.int .u16 c.m.toNat)) (h5 : w.cell? ⟨g, 5, none⟩ = some (.string ⟨c.a.toArray⟩)) (hE0 : Hid (Blk w g2 77 #[.int .u8 0, .int .u8 0, .int .u8 0, .string ⟨#[]⟩, .slice none 0 0])) (hB : Hid (Below W.heap.size W w)) (hb : Below w.heap.size w w') : w'.cell? ⟨g, 0, none⟩ = some (.int .u8 c.l.toNat) ∧ w'.cell? ⟨g, 1, none⟩ = some (.bool c.r) ∧ w'.cell? ⟨g, 2, none⟩ = some (.int .u8 c.i.toNat) ∧ w'.cell? ⟨g, 3, none⟩ = some (.int .u32 c.q.toNat) ∧ w'.cell? ⟨g, 4, none⟩ = some (.int .u16 c.m.toNat) ∧ w'.cell? ⟨g, 5, none⟩ = some (.string ⟨c.a.toArray⟩) ∧ Hid (Blk w' g2 77 #[.int .u8 0, .int .u8 0, .int .u8 0, .string ⟨#[]⟩, .slice none 0 0]) ∧ Hid (Below W.heap.size W w') := by
  have hk : ∀ {g i : Nat} {v : Value}, w.cell? ⟨g, i, none⟩ = some v → w'.cell? ⟨g, i, none⟩ = some v := fun {g i v} h => (hb.cell (p := ⟨g, i, none⟩) (World.block_lt_of_cell? w _ h)).trans h
  exact ⟨hk h0, hk h1, hk h2, hk h3, hk h4, hk h5, Lib.hid (hE0.out.below hb hE0.out.lt), Lib.hid (hB.out.trans (hb.mono hB.out.size))⟩
set_option maxHeartbeats 8000000 in
theorem ccput_impl : CcPutC := by
  intro c w hl
  have HB0 : Hid (Below w.heap.size w ((w.alloc (.cells #[.int .u8 c.l.toNat, .bool c.r, .int .u8 c.i.toNat, .int .u32 c.q.toNat, .int .u16 c.m.toNat, .string ⟨c.a.toArray⟩] 44)).alloc (.cells #[.int .u8 0, .int .u8 0, .int .u8 0, .string ⟨#[]⟩, .slice none 0 0] 77))) := Lib.hid (((Below.refl _ _).alloc (Nat.le_refl _) _).alloc (by simp) _)
  have HK0 : Hid (Blk ((w.alloc (.cells #[.int .u8 c.l.toNat, .bool c.r, .int .u8 c.i.toNat, .int .u32 c.q.toNat, .int .u16 c.m.toNat, .string ⟨c.a.toArray⟩] 44)).alloc (.cells #[.int .u8 0, .int .u8 0, .int .u8 0, .string ⟨#[]⟩, .slice none 0 0] 77)) w.heap.size 44 #[.int .u8 c.l.toNat, .bool c.r, .int .u8 c.i.toNat, .int .u32 c.q.toNat, .int .u16 c.m.toNat, .string ⟨c.a.toArray⟩]) := Lib.hid ((Blk.new _ _ _).alloc _)
  have HR0 : Hid (Blk ((w.alloc (.cells #[.int .u8 c.l.toNat, .bool c.r, .int .u8 c.i.toNat, .int .u32 c.q.toNat, .int .u16 c.m.toNat, .string ⟨c.a.toArray⟩] 44)).alloc (.cells #[.int .u8 0, .int .u8 0, .int .u8 0, .string ⟨#[]⟩, .slice none 0 0] 77)) (w.heap.size + 1) 77 #[.int .u8 0, .int .u8 0, .int .u8 0, .string ⟨#[]⟩, .slice none 0 0]) := Lib.hid (by
    have := Blk.new (w.alloc (.cells #[.int .u8 c.l.toNat, .bool c.r, .int .u8 c.i.toNat, .int .u32 c.q.toNat, .int .u16 c.m.toNat, .string ⟨c.a.toArray⟩] 44)) 77 #[.int .u8 0, .int .u8 0, .int .u8 0, .string ⟨#[]⟩, .slice none 0 0]
    simpa using this)
  have K1 := Lib.hid (fun w => maybe_any c w)
  have K3 := Lib.hid (fun w => putfixed_any c w hl)
  show Calls _ _ #[.agg #[.int .u8 c.l.toNat, .bool c.r, .int .u8 c.i.toNat, .int .u32 c.q.toNat, .int .u16 c.m.toNat, .string ⟨c.a.toArray⟩]] _ _
  by_cases hM : ckM c = true
  · have K2 := Lib.hid (fun w => putflags_any c w (ckM_is hM).2.2.1)
    have HP := Lib.hid (And.intro (ckP_ok hM) (ckE_zero.2 hM))
    rw [hM] at K1
    obtain ⟨G, hG⟩ : ∃ G, ckG c = G := ⟨_, rfl⟩
    obtain ⟨X, hX⟩ : ∃ G, ckS c = G := ⟨_, rfl⟩
    rw [hG] at K2 HP
    rw [hX] at K3 HP
    clear hM hG hX
    go_enter Try.func36, Try.ntmps36
    go_wp2_with fail
    refine (K1.out _).mono ?_
    rintro r w1 ⟨rfl, hb1⟩
    have HBd : Hid (Below w.heap.size w w1.drew) := Lib.hid (HB0.out.trans (hb1.mono HB0.out.size)).drew
    have HKd : Hid (Blk w1.drew w.heap.size 44 #[.int .u8 c.l.toNat, .bool c.r, .int .u8 c.i.toNat, .int .u32 c.q.toNat, .int .u16 c.m.toNat, .string ⟨c.a.toArray⟩]) := Lib.hid (Blk.drew (HK0.out.below hb1 HK0.out.lt))
    have HRn : Hid (Blk w1.drew (w.heap.size + 1) 77 #[.int .u8 0, .int .u8 0, .int .u8 0, .string ⟨#[]⟩, .slice none 0 0]) := Lib.hid (Blk.drew (HR0.out.below hb1 HR0.out.lt))
    clear hb1 HB0 HK0 HR0
    have k0 := HKd.out.cell 0
    have k1 := HKd.out.cell 1
    have k2 := HKd.out.cell 2
    have k3 := HKd.out.cell 3
    have k4 := HKd.out.cell 4
    have k5 := HKd.out.cell 5
    simp only [List.getElem?_toArray, List.getElem?_cons_succ, List.getElem?_cons_zero] at k0 k1 k2 k3 k4 k5
    clear HKd
    have z0 := HRn.out.cell 0
    have z1 := HRn.out.cell 1
    have z2 := HRn.out.cell 2
    have z3 := HRn.out.cell 3
    have z4 := HRn.out.cell 4
    simp only [List.getElem?_toArray, List.getElem?_cons_succ, List.getElem?_cons_zero] at z0 z1 z2 z3 z4
    have f0 := HRn.out.frozen 0
    have f1 := HRn.out.frozen 1
    have f2 := HRn.out.frozen 2
    have f3 := HRn.out.frozen 3
    have f4 := HRn.out.frozen 4
    go_wp2_with fail
    go_region_held3 (fun w_ => w_.cell? ⟨w.heap.size, 0, none⟩ = some (.int .u8 c.l.toNat) ∧ w_.cell? ⟨w.heap.size, 1, none⟩ = some (.bool c.r) ∧ w_.cell? ⟨w.heap.size, 2, none⟩ = some (.int .u8 c.i.toNat) ∧ w_.cell? ⟨w.heap.size, 3, none⟩ = some (.int .u32 c.q.toNat) ∧ w_.cell? ⟨w.heap.size, 4, none⟩ = some (.int .u16 c.m.toNat) ∧ w_.cell? ⟨w.heap.size, 5, none⟩ = some (.string ⟨c.a.toArray⟩)) (first | go_keep)
      (first
        | (go_at_call 43; refine (K2.out _).mono ?_; rintro r w_ ⟨rfl, hb_⟩; obtain ⟨k0, k1, k2, k3, k4, k5, HRn, HBd⟩ := keepP13 w.heap.size (w.heap.size + 1) c k0 k1 k2 k3 k4 k5 HRn HBd hb_; clear hb_; have z0 := HRn.out.cell 0; have z1 := HRn.out.cell 1; have z2 := HRn.out.cell 2; have z3 := HRn.out.cell 3; have z4 := HRn.out.cell 4; simp only [List.getElem?_toArray, List.getElem?_cons_succ, List.getElem?_cons_zero] at z0 z1 z2 z3 z4; have f0 := HRn.out.frozen 0; have f1 := HRn.out.frozen 1; have f2 := HRn.out.frozen 2; have f3 := HRn.out.frozen 3; have f4 := HRn.out.frozen 4)
        | (go_at_call 44; refine (K3.out _).mono ?_; rintro r w_ ⟨rfl, hb_⟩; obtain ⟨k0, k1, k2, k3, k4, k5, HRn, HBd⟩ := keepP13 w.heap.size (w.heap.size + 1) c k0 k1 k2 k3 k4 k5 HRn HBd hb_; clear hb_; have z0 := HRn.out.cell 0; have z1 := HRn.out.cell 1; have z2 := HRn.out.cell 2; have z3 := HRn.out.cell 3; have z4 := HRn.out.cell 4; simp only [List.getElem?_toArray, List.getElem?_cons_succ, List.getElem?_cons_zero] at z0 z1 z2 z3 z4; have f0 := HRn.out.frozen 0; have f1 := HRn.out.frozen 1; have f2 := HRn.out.frozen 2; have f3 := HRn.out.frozen 3; have f4 := HRn.out.frozen 4)
        | fail "no")
    all_goals (
      go_wp2_with fail
      have HR6 := Blk.put (Blk.put (Blk.put (Blk.put (Blk.put (HRn.out) 0 (.int .u8 c.l.toNat)) 1 (.int .u8 1)) 2 (.int .u8 G.toNat)) 3 (.string ⟨X.toArray⟩)) 4 (.slice none 0 0)
      simp only [List.setIfInBounds_toArray, List.set_cons_succ, List.set_cons_zero] at HR6
      have HB6 := (((((HBd.out).setCell (p := ⟨w.heap.size + 1, 0, none⟩) (by show w.heap.size ≤ w.heap.size + 1; omega) (.int .u8 c.l.toNat)).setCell (p := ⟨w.heap.size + 1, 1, none⟩) (by show w.heap.size ≤ w.heap.size + 1; omega) (.int .u8 1)).setCell (p := ⟨w.heap.size + 1, 2, none⟩) (by show w.heap.size ≤ w.heap.size + 1; omega) (.int .u8 G.toNat)).setCell (p := ⟨w.heap.size + 1, 3, none⟩) (by show w.heap.size ≤ w.heap.size + 1; omega) (.string ⟨X.toArray⟩)).setCell (p := ⟨w.heap.size + 1, 4, none⟩) (by show w.heap.size ≤ w.heap.size + 1; omega) (.slice none 0 0)
      refine bodyPost_ret (v := .tuple #[.agg #[.int .u8 c.l.toNat, .int .u8 1, .int .u8 G.toNat, .string ⟨X.toArray⟩, .slice none 0 0], .int .i64 0]) (results_cell_slot (p := 2) (q := 3) (by kernel_rfl) _ _ (w.heap.size + 1) 77 _ _ rfl HR6 Try.underlying77 rfl (by kernel_rfl) _ rfl) rfl ?_
      exact ⟨none, 0, by rw [HP.out.1, HP.out.2]; rfl, fun _ => rfl, HB6⟩)
  · have hM' : ckM c = false := by simpa using hM
    have HP : Hid (ckP c = pd0 ∧ ckE c = 2) := Lib.hid ⟨by unfold ckP; rw [if_neg hM], by unfold ckE; rw [if_neg hM]⟩
    rw [hM'] at K1
    clear hM hM' hl K3
    go_enter Try.func36, Try.ntmps36
    go_wp2_with fail
    refine (K1.out _).mono ?_
    rintro r w1 ⟨rfl, hb1⟩
    have HB1 : Hid (Below w.heap.size w w1) := Lib.hid (HB0.out.trans (hb1.mono HB0.out.size))
    have HR1 : Hid (Blk w1 (w.heap.size + 1) 77 #[.int .u8 0, .int .u8 0, .int .u8 0, .string ⟨#[]⟩, .slice none 0 0]) := Lib.hid (HR0.out.below hb1 HR0.out.lt)
    clear hb1 HB0 HK0 HR0
    go_wp2_with (refine wpList_store_row rfl 77 (.tmp 2) (.tmp 7) rfl (w.heap.size + 1) rfl _ rfl 77 _ HR1.out (by kernel_rfl) rfl (by kernel_rfl) ?_)
    refine bodyPost_ret (v := .tuple #[.agg #[.int .u8 0, .int .u8 0, .int .u8 0, .string ⟨#[]⟩, .slice none 0 0], .int .i64 2]) (results_cell_slot (p := 2) (q := 3) (by kernel_rfl) _ _ (w.heap.size + 1) 77 _ _ rfl (Blk.row HR1.out _) Try.underlying77 rfl (by kernel_rfl) _ rfl) rfl ?_
    exact ⟨none, 0, by rw [HP.out.1, HP.out.2]; rfl, fun _ => rfl, below_row HB1.out (by omega) _⟩
theorem and128 : ∀ k : Fin 256, (bits BinOp.and IntKind.u8 ((k.val : Nat) : Int) 128 != 0) = decide (127 < k.val) := by decide +kernel
theorem and7 : ∀ k : Fin 256, bits BinOp.and IntKind.u8 ((k.val : Nat) : Int) 7 = ((k.val % 8 : Nat) : Int) := by decide +kernel
theorem and128_u (g : UInt8) : (bits BinOp.and IntKind.u8 (g.toNat : Int) 128 != 0) = decide (127 < g.toNat) := and128 ⟨g.toNat, g.toNat_lt⟩
theorem and7_u (g : UInt8) : bits BinOp.and IntKind.u8 (g.toNat : Int) 7 = ((g % 8).toNat : Int) := by rw [and7 ⟨g.toNat, g.toNat_lt⟩, UInt8.toNat_mod]; rfl
end Go.Proofs.Ytkmdgpfaaniibaa
