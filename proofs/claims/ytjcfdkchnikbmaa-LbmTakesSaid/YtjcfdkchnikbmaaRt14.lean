/- Layer 14: the document's Take. -/
import Derived.Test.YtjcfdkchnikbmaaR14
import Derived.Test.YtjcfdkchnikbmaaRefRd2
namespace Go.Proofs.Ytjcfdkchnikbmaa
open Go.RowKit
set_option linter.unusedVariables false
set_option linter.unusedSimpArgs false
set_option maxRecDepth 100000

set_option maxHeartbeats 4000000 in
theorem reftake14_any (A : Option Addr) (k : Nat) (p : Pd) (w : World) (hE : Els 2 tlV w A p.t) (hl : p.t.length ≤ 1000000) :
    Calls Try.prog 13 #[PdV p A k] w fun e w' => e = .returned (.tuple #[LoV (lkX p), .int .i64 (lkF p : Nat)]) ∧ Below w.heap.size w w' := by
  have HB0 : Hid (Below w.heap.size w ((w.alloc (.cells #[.int .u8 p.l.toNat, .int .u8 p.o.toNat, .int .u8 p.g.toNat, .string ⟨p.x.toArray⟩, .slice A p.t.length k] 36)).alloc (.cells #[.int .u8 0, .bool false, .int .u32 0, .string ⟨#[]⟩] 24))) := Lib.hid (((Below.refl _ _).alloc (Nat.le_refl _) _).alloc (by simp) _)
  have HK0 : Hid (Blk ((w.alloc (.cells #[.int .u8 p.l.toNat, .int .u8 p.o.toNat, .int .u8 p.g.toNat, .string ⟨p.x.toArray⟩, .slice A p.t.length k] 36)).alloc (.cells #[.int .u8 0, .bool false, .int .u32 0, .string ⟨#[]⟩] 24)) w.heap.size 36 #[.int .u8 p.l.toNat, .int .u8 p.o.toNat, .int .u8 p.g.toNat, .string ⟨p.x.toArray⟩, .slice A p.t.length k]) := Lib.hid ((Blk.new _ _ _).alloc _)
  have HR0 : Hid (Blk ((w.alloc (.cells #[.int .u8 p.l.toNat, .int .u8 p.o.toNat, .int .u8 p.g.toNat, .string ⟨p.x.toArray⟩, .slice A p.t.length k] 36)).alloc (.cells #[.int .u8 0, .bool false, .int .u32 0, .string ⟨#[]⟩] 24)) (w.heap.size + 1) 24 #[.int .u8 0, .bool false, .int .u32 0, .string ⟨#[]⟩]) := Lib.hid (by
    have := Blk.new (w.alloc (.cells #[.int .u8 p.l.toNat, .int .u8 p.o.toNat, .int .u8 p.g.toNat, .string ⟨p.x.toArray⟩, .slice A p.t.length k] 36)) 24 #[.int .u8 0, .bool false, .int .u32 0, .string ⟨#[]⟩]
    simpa using this)
  have HEA : Hid (Els 2 tlV ((w.alloc (.cells #[.int .u8 p.l.toNat, .int .u8 p.o.toNat, .int .u8 p.g.toNat, .string ⟨p.x.toArray⟩, .slice A p.t.length k] 36)).alloc (.cells #[.int .u8 0, .bool false, .int .u32 0, .string ⟨#[]⟩] 24)) A p.t) := Lib.hid (hE.next HB0.out)
  clear hE
  by_cases h2 : p.o = 2
  · have e2 : ((p.o.toNat : Int) != 2) = false := by rw [h2]; rfl
    by_cases hx : p.x.length = 4
    · skip
      have e4 : ((p.x.length : Int) != 4) = false := by rw [hx]; rfl
      have eb : ((p.o.toNat : Int) == 2) = true := by rw [show ((p.o.toNat : Int) == 2) = (p.o == 2) from tl_eqI p.o 2]; simp [*]
      have hF : lkF p = 0 := by unfold lkF; rw [if_pos (by simp [*])]
      have hX : lkX p = lkQ p := by unfold lkX; rw [if_pos hF]
      obtain ⟨n, hn⟩ : ∃ n, num p.x = n := ⟨_, rfl⟩
      have hn4 : n < 4294967296 := by have := num_lt p.x; rw [hx] at this; rw [← hn]; exact this
      obtain ⟨Q, hQ⟩ : ∃ y, UInt32.ofNat n = y := ⟨_, rfl⟩
      have hwQ : IntKind.u32.wrap (n : Int) = (Q.toNat : Int) := by rw [← hQ, UInt32.toNat_ofNat']; simp [IntKind.wrap, IntKind.signed, IntKind.bits]
      obtain ⟨V, hV⟩ : ∃ V, tlFv p.t 3 = V := ⟨_, rfl⟩
      have KF := Lib.hid (fun w h => reffind_any A k p.t 3 w h hl)
      rw [hV] at KF
      obtain ⟨y, hy⟩ : ∃ y, tlFb p.t 3 = y := ⟨_, rfl⟩
      rw [hy] at KF
      have KN : Hid (∀ w : World, Calls Try.prog 23 #[.agg #[.string ⟨p.x.toArray⟩, .int .i64 0], .int .i64 4] w fun e w' => e = .returned (.tuple #[.int .u64 n, .agg #[.string ⟨#[]⟩, .int .i64 0]]) ∧ Below w.heap.size w w') := Lib.hid (fun w => by
        have := refnum_ok p.x 4 (by omega) (by omega) (by omega) w
        rw [List.take_of_length_le (by omega), hn, List.drop_of_length_le (by omega)] at this
        exact this)
      have HE : Hid (lkF p = 0 ∧ lkX p = ⟨p.l, true, Q, V⟩) := Lib.hid ⟨hF, by rw [hX]; unfold lkQ; rw [hn, hQ, hV]; simp [*]⟩
      clear hF hX hn hn4 hQ hV hy hx
      try clear h2
      try clear h3
      go_enter Try.func13, Try.ntmps13
      go_wp2_with fail
      refine (KN.out _).mono ?_
      rintro e w3 ⟨rfl, hb3⟩
      have HB3 : Hid (Below w.heap.size w w3) := Lib.hid (HB0.out.trans (hb3.mono HB0.out.size))
      have HK3 := Lib.hid (HK0.out.below hb3 HK0.out.lt)
      have HR3 := Lib.hid (HR0.out.below hb3 HR0.out.lt)
      have HE3 := Lib.hid (HEA.out.next hb3)
      clear hb3 HB0 HK0 HR0 HEA
      have HB4 : Hid (Below w.heap.size w (w3.alloc (.cells #[.string ⟨#[]⟩, .int .i64 0] 68))) := Lib.hid (HB3.out.alloc HB3.out.size _)
      have HK4 := Lib.hid (HK3.out.alloc (.cells #[.string ⟨#[]⟩, .int .i64 0] 68))
      have HR4 := Lib.hid (HR3.out.alloc (.cells #[.string ⟨#[]⟩, .int .i64 0] 68))
      have HE4 : Hid (Els 2 tlV (w3.alloc (.cells #[.string ⟨#[]⟩, .int .i64 0] 68)) A p.t) := Lib.hid (HE3.out.next ((Below.refl _ _).alloc (Nat.le_refl _) _))
      have j0 := HK3.out.cell 0
      have j1 := HK3.out.cell 1
      have j2 := HK3.out.cell 2
      have j3 := HK3.out.cell 3
      have j4 := HK3.out.cell 4
      simp only [List.getElem?_toArray, List.getElem?_cons_succ, List.getElem?_cons_zero] at j0 j1 j2 j3 j4
      have k0 := HK4.out.cell 0
      have k1 := HK4.out.cell 1
      have k2 := HK4.out.cell 2
      have k3 := HK4.out.cell 3
      have k4 := HK4.out.cell 4
      simp only [List.getElem?_toArray, List.getElem?_cons_succ, List.getElem?_cons_zero] at k0 k1 k2 k3 k4
      clear HB3 HK3 HR3 HE3
      go_wp2_with fail
      refine (KF.out _ HE4.out).mono ?_
      rintro e w5 ⟨rfl, rfl⟩
      go_wp2_with (refine wpList_store_row rfl 24 (.tmp 2) (.tmp 44) rfl (w.heap.size + 1) rfl _ rfl 24 _ HR4.out (by kernel_rfl) rfl (by kernel_rfl) ?_)
      refine bodyPost_ret (v := .tuple #[.agg #[.int .u8 p.l.toNat, .bool true, .int .u32 Q.toNat, .string ⟨V.toArray⟩], .int .i64 0]) (results_cell_slot (p := 2) (q := 3) (by kernel_rfl) _ _ (w.heap.size + 1) 24 _ _ rfl (Blk.row HR4.out _) Try.underlying24 rfl (by kernel_rfl) _ rfl) rfl ?_
      exact ⟨by rw [HE.out.1, HE.out.2]; rfl, below_row HB4.out (by omega) _⟩
    · have e4 : ((p.x.length : Int) != 4) = true := by simp; omega
      have HE : Hid (lkF p = 4 ∧ lkX p = lo0) := Lib.hid (by
        have e : lkF p = 4 := by unfold lkF; rw [if_neg (by simp [*])]
        exact ⟨e, by unfold lkX; rw [if_neg (by omega)]⟩)
      try clear h2
      try clear h3
      try clear hx
      go_enter Try.func13, Try.ntmps13
      go_wp2_with (refine wpList_store_row rfl 24 (.tmp 2) (.tmp 22) rfl (w.heap.size + 1) rfl _ rfl 24 _ HR0.out (by kernel_rfl) rfl (by kernel_rfl) ?_)
      refine bodyPost_ret (v := .tuple #[.agg #[.int .u8 0, .bool false, .int .u32 0, .string ⟨#[]⟩], .int .i64 4]) (results_cell_slot (p := 2) (q := 3) (by kernel_rfl) _ _ (w.heap.size + 1) 24 _ _ rfl (Blk.row HR0.out _) Try.underlying24 rfl (by kernel_rfl) _ rfl) rfl ?_
      exact ⟨by rw [HE.out.1, HE.out.2]; rfl, below_row HB0.out (by omega) _⟩
  · have e2 : ((p.o.toNat : Int) != 2) = true := by
      have := tl_eqI p.o 2
      rw [show ((2 : UInt8).toNat : Int) = 2 from rfl] at this
      unfold bne
      rw [this]
      simpa using h2
    by_cases h3 : p.o = 3
    · have e3 : ((p.o.toNat : Int) != 3) = false := by rw [h3]; rfl
      by_cases hx : p.x.length = 4
      · skip
        have e4 : ((p.x.length : Int) != 4) = false := by rw [hx]; rfl
        have eb : ((p.o.toNat : Int) == 2) = false := by rw [show ((p.o.toNat : Int) == 2) = (p.o == 2) from tl_eqI p.o 2]; simp [*]
        have hF : lkF p = 0 := by unfold lkF; rw [if_pos (by simp [*])]
        have hX : lkX p = lkQ p := by unfold lkX; rw [if_pos hF]
        obtain ⟨n, hn⟩ : ∃ n, num p.x = n := ⟨_, rfl⟩
        have hn4 : n < 4294967296 := by have := num_lt p.x; rw [hx] at this; rw [← hn]; exact this
        obtain ⟨Q, hQ⟩ : ∃ y, UInt32.ofNat n = y := ⟨_, rfl⟩
        have hwQ : IntKind.u32.wrap (n : Int) = (Q.toNat : Int) := by rw [← hQ, UInt32.toNat_ofNat']; simp [IntKind.wrap, IntKind.signed, IntKind.bits]
        obtain ⟨V, hV⟩ : ∃ V, tlFv p.t 3 = V := ⟨_, rfl⟩
        have KF := Lib.hid (fun w h => reffind_any A k p.t 3 w h hl)
        rw [hV] at KF
        obtain ⟨y, hy⟩ : ∃ y, tlFb p.t 3 = y := ⟨_, rfl⟩
        rw [hy] at KF
        have KN : Hid (∀ w : World, Calls Try.prog 23 #[.agg #[.string ⟨p.x.toArray⟩, .int .i64 0], .int .i64 4] w fun e w' => e = .returned (.tuple #[.int .u64 n, .agg #[.string ⟨#[]⟩, .int .i64 0]]) ∧ Below w.heap.size w w') := Lib.hid (fun w => by
          have := refnum_ok p.x 4 (by omega) (by omega) (by omega) w
          rw [List.take_of_length_le (by omega), hn, List.drop_of_length_le (by omega)] at this
          exact this)
        have HE : Hid (lkF p = 0 ∧ lkX p = ⟨p.l, false, Q, V⟩) := Lib.hid ⟨hF, by rw [hX]; unfold lkQ; rw [hn, hQ, hV]; simp [*]⟩
        clear hF hX hn hn4 hQ hV hy hx
        try clear h2
        try clear h3
        go_enter Try.func13, Try.ntmps13
        go_wp2_with fail
        refine (KN.out _).mono ?_
        rintro e w3 ⟨rfl, hb3⟩
        have HB3 : Hid (Below w.heap.size w w3) := Lib.hid (HB0.out.trans (hb3.mono HB0.out.size))
        have HK3 := Lib.hid (HK0.out.below hb3 HK0.out.lt)
        have HR3 := Lib.hid (HR0.out.below hb3 HR0.out.lt)
        have HE3 := Lib.hid (HEA.out.next hb3)
        clear hb3 HB0 HK0 HR0 HEA
        have HB4 : Hid (Below w.heap.size w (w3.alloc (.cells #[.string ⟨#[]⟩, .int .i64 0] 68))) := Lib.hid (HB3.out.alloc HB3.out.size _)
        have HK4 := Lib.hid (HK3.out.alloc (.cells #[.string ⟨#[]⟩, .int .i64 0] 68))
        have HR4 := Lib.hid (HR3.out.alloc (.cells #[.string ⟨#[]⟩, .int .i64 0] 68))
        have HE4 : Hid (Els 2 tlV (w3.alloc (.cells #[.string ⟨#[]⟩, .int .i64 0] 68)) A p.t) := Lib.hid (HE3.out.next ((Below.refl _ _).alloc (Nat.le_refl _) _))
        have j0 := HK3.out.cell 0
        have j1 := HK3.out.cell 1
        have j2 := HK3.out.cell 2
        have j3 := HK3.out.cell 3
        have j4 := HK3.out.cell 4
        simp only [List.getElem?_toArray, List.getElem?_cons_succ, List.getElem?_cons_zero] at j0 j1 j2 j3 j4
        have k0 := HK4.out.cell 0
        have k1 := HK4.out.cell 1
        have k2 := HK4.out.cell 2
        have k3 := HK4.out.cell 3
        have k4 := HK4.out.cell 4
        simp only [List.getElem?_toArray, List.getElem?_cons_succ, List.getElem?_cons_zero] at k0 k1 k2 k3 k4
        clear HB3 HK3 HR3 HE3
        go_wp2_with fail
        refine (KF.out _ HE4.out).mono ?_
        rintro e w5 ⟨rfl, rfl⟩
        go_wp2_with (refine wpList_store_row rfl 24 (.tmp 2) (.tmp 44) rfl (w.heap.size + 1) rfl _ rfl 24 _ HR4.out (by kernel_rfl) rfl (by kernel_rfl) ?_)
        refine bodyPost_ret (v := .tuple #[.agg #[.int .u8 p.l.toNat, .bool false, .int .u32 Q.toNat, .string ⟨V.toArray⟩], .int .i64 0]) (results_cell_slot (p := 2) (q := 3) (by kernel_rfl) _ _ (w.heap.size + 1) 24 _ _ rfl (Blk.row HR4.out _) Try.underlying24 rfl (by kernel_rfl) _ rfl) rfl ?_
        exact ⟨by rw [HE.out.1, HE.out.2]; rfl, below_row HB4.out (by omega) _⟩
      · have e4 : ((p.x.length : Int) != 4) = true := by simp; omega
        have HE : Hid (lkF p = 4 ∧ lkX p = lo0) := Lib.hid (by
          have e : lkF p = 4 := by unfold lkF; rw [if_neg (by simp [*])]
          exact ⟨e, by unfold lkX; rw [if_neg (by omega)]⟩)
        try clear h2
        try clear h3
        try clear hx
        go_enter Try.func13, Try.ntmps13
        go_wp2_with (refine wpList_store_row rfl 24 (.tmp 2) (.tmp 22) rfl (w.heap.size + 1) rfl _ rfl 24 _ HR0.out (by kernel_rfl) rfl (by kernel_rfl) ?_)
        refine bodyPost_ret (v := .tuple #[.agg #[.int .u8 0, .bool false, .int .u32 0, .string ⟨#[]⟩], .int .i64 4]) (results_cell_slot (p := 2) (q := 3) (by kernel_rfl) _ _ (w.heap.size + 1) 24 _ _ rfl (Blk.row HR0.out _) Try.underlying24 rfl (by kernel_rfl) _ rfl) rfl ?_
        exact ⟨by rw [HE.out.1, HE.out.2]; rfl, below_row HB0.out (by omega) _⟩
    · have e3 : ((p.o.toNat : Int) != 3) = true := by
        have := tl_eqI p.o 3
        rw [show ((3 : UInt8).toNat : Int) = 3 from rfl] at this
        unfold bne
        rw [this]
        simpa using h3
      have HE : Hid (lkF p = 4 ∧ lkX p = lo0) := Lib.hid (by
        have e : lkF p = 4 := by unfold lkF; rw [if_neg (by simp [*])]
        exact ⟨e, by unfold lkX; rw [if_neg (by omega)]⟩)
      try clear h2
      try clear h3
      try clear hx
      go_enter Try.func13, Try.ntmps13
      go_wp2_with (refine wpList_store_row rfl 24 (.tmp 2) (.tmp 22) rfl (w.heap.size + 1) rfl _ rfl 24 _ HR0.out (by kernel_rfl) rfl (by kernel_rfl) ?_)
      refine bodyPost_ret (v := .tuple #[.agg #[.int .u8 0, .bool false, .int .u32 0, .string ⟨#[]⟩], .int .i64 4]) (results_cell_slot (p := 2) (q := 3) (by kernel_rfl) _ _ (w.heap.size + 1) 24 _ _ rfl (Blk.row HR0.out _) Try.underlying24 rfl (by kernel_rfl) _ rfl) rfl ?_
      exact ⟨by rw [HE.out.1, HE.out.2]; rfl, below_row HB0.out (by omega) _⟩
end Go.Proofs.Ytjcfdkchnikbmaa
