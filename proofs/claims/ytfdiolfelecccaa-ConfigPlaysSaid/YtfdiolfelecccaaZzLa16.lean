/- Layer 16: the document's AddAssoc, and where the rows lie. -/
import Derived.Test.YtfdiolfelecccaaZzAa16
import Derived.Test.YtfdiolfelecccaaZzLd16
namespace Go.Proofs.Ytfdiolfelecccaa
open Go.RowKit
set_option linter.unusedVariables false
set_option linter.unusedSimpArgs false
set_option maxRecDepth 100000

set_option maxHeartbeats 16000000 in
theorem refadda16_loc (T : Tb) (X : TbX) (a : As) (B : Option Addr) (c : Nat) (w : World) (hT : TbD w T X) (hI : TbInv T) (ha : T.A.length ≤ 1000) (he : T.E.length ≤ 1000) (hm : T.M.length ≤ 1000) (hEm : Els 1 u16c w B a.m) (hd : a.d.length ≤ 1000) (hn : a.n.length ≤ 1000) :
    Calls Try.prog 28 #[.agg (TbC T X), AsV a B c] w fun e w' => ∃ X', e = .returned (.tuple #[.agg (TbC (T.addA a).1 X'), .int .i64 ((T.addA a).2.1 : Nat), .int .i64 ((T.addA a).2.2 : Nat)]) ∧ TbD w' (T.addA a).1 X' ∧ Below w.heap.size w w' ∧ (XTo w.heap.size w'.heap.size ⟨a, B, c⟩ X X') := by
  have HEM := Lib.hid hEm
  have HI := Lib.hid hI
  have HT := Lib.hid hT
  show Calls _ _ #[.agg #[.int .i64 (T.n : Int), .slice X.A T.A.length X.ca, .slice X.E T.E.length X.ce, .slice X.M T.M.length X.cm], _] _ _
  obtain ⟨nE, hnE⟩ : ∃ n, T.E.length = n := ⟨_, rfl⟩
  obtain ⟨nM, hnM⟩ : ∃ n, T.M.length = n := ⟨_, rfl⟩
  obtain ⟨nA, hnA⟩ : ∃ n, T.A.length = n := ⟨_, rfl⟩
  have HNS := Lib.hid (And.intro hnA (And.intro hnE hnM))
  rw [hnA, hnE, hnM]
  rw [hnE] at he
  rw [hnA] at ha
  rw [hnM] at hm
  clear hnE hnM hnA hI hT
  have HB0 : Hid (Below w.heap.size w (((w.alloc (.cells #[.int .i64 (T.n : Int), .slice X.A nA X.ca, .slice X.E nE X.ce, .slice X.M nM X.cm] 34)).alloc (.cells #[.int .u8 a.l.toNat, .string ⟨a.d.toArray⟩, .string ⟨a.n.toArray⟩, .int .u16 a.v.toNat, .int .u8 a.i.toNat, .slice B a.m.length c] 37)).alloc (.cells #[.int .i64 0, .slice none 0 0, .slice none 0 0, .slice none 0 0] 34))) := Lib.hid ((((Below.refl _ _).alloc (Nat.le_refl _) _).alloc (by simp) _).alloc (by simp; omega) _)
  have HK0 : Hid (Blk (((w.alloc (.cells #[.int .i64 (T.n : Int), .slice X.A nA X.ca, .slice X.E nE X.ce, .slice X.M nM X.cm] 34)).alloc (.cells #[.int .u8 a.l.toNat, .string ⟨a.d.toArray⟩, .string ⟨a.n.toArray⟩, .int .u16 a.v.toNat, .int .u8 a.i.toNat, .slice B a.m.length c] 37)).alloc (.cells #[.int .i64 0, .slice none 0 0, .slice none 0 0, .slice none 0 0] 34)) w.heap.size 34 #[.int .i64 (T.n : Int), .slice X.A nA X.ca, .slice X.E nE X.ce, .slice X.M nM X.cm]) := Lib.hid (((Blk.new _ _ _).alloc _).alloc _)
  have HX0 : Hid (Blk (((w.alloc (.cells #[.int .i64 (T.n : Int), .slice X.A nA X.ca, .slice X.E nE X.ce, .slice X.M nM X.cm] 34)).alloc (.cells #[.int .u8 a.l.toNat, .string ⟨a.d.toArray⟩, .string ⟨a.n.toArray⟩, .int .u16 a.v.toNat, .int .u8 a.i.toNat, .slice B a.m.length c] 37)).alloc (.cells #[.int .i64 0, .slice none 0 0, .slice none 0 0, .slice none 0 0] 34)) (w.heap.size + 1) 37 #[.int .u8 a.l.toNat, .string ⟨a.d.toArray⟩, .string ⟨a.n.toArray⟩, .int .u16 a.v.toNat, .int .u8 a.i.toNat, .slice B a.m.length c]) := Lib.hid (by
    have := (Blk.new (w.alloc (.cells #[.int .i64 (T.n : Int), .slice X.A nA X.ca, .slice X.E nE X.ce, .slice X.M nM X.cm] 34)) 37 #[.int .u8 a.l.toNat, .string ⟨a.d.toArray⟩, .string ⟨a.n.toArray⟩, .int .u16 a.v.toNat, .int .u8 a.i.toNat, .slice B a.m.length c]).alloc (.cells #[.int .i64 0, .slice none 0 0, .slice none 0 0, .slice none 0 0] 34)
    simpa using this)
  have HR0 : Hid (Blk (((w.alloc (.cells #[.int .i64 (T.n : Int), .slice X.A nA X.ca, .slice X.E nE X.ce, .slice X.M nM X.cm] 34)).alloc (.cells #[.int .u8 a.l.toNat, .string ⟨a.d.toArray⟩, .string ⟨a.n.toArray⟩, .int .u16 a.v.toNat, .int .u8 a.i.toNat, .slice B a.m.length c] 37)).alloc (.cells #[.int .i64 0, .slice none 0 0, .slice none 0 0, .slice none 0 0] 34)) (w.heap.size + 2) 34 #[.int .i64 0, .slice none 0 0, .slice none 0 0, .slice none 0 0]) := Lib.hid (by
    have := Blk.new ((w.alloc (.cells #[.int .i64 (T.n : Int), .slice X.A nA X.ca, .slice X.E nE X.ce, .slice X.M nM X.cm] 34)).alloc (.cells #[.int .u8 a.l.toNat, .string ⟨a.d.toArray⟩, .string ⟨a.n.toArray⟩, .int .u16 a.v.toNat, .int .u8 a.i.toNat, .slice B a.m.length c] 37)) 34 #[.int .i64 0, .slice none 0 0, .slice none 0 0, .slice none 0 0]
    simpa using this)
  obtain ⟨w0, hw0⟩ : ∃ w0, (((w.alloc (.cells #[.int .i64 (T.n : Int), .slice X.A nA X.ca, .slice X.E nE X.ce, .slice X.M nM X.cm] 34)).alloc (.cells #[.int .u8 a.l.toNat, .string ⟨a.d.toArray⟩, .string ⟨a.n.toArray⟩, .int .u16 a.v.toNat, .int .u8 a.i.toNat, .slice B a.m.length c] 37)).alloc (.cells #[.int .i64 0, .slice none 0 0, .slice none 0 0, .slice none 0 0] 34)) = w0 := ⟨_, rfl⟩
  rw [hw0] at HB0 HK0 HX0 HR0
  have HLA := Lib.hid ha
  have HDN := Lib.hid (And.intro hd hn)
  obtain ⟨i0, hi⟩ := info_parts infoAs
  have HIT := Lib.hid hi
  have K1 := Lib.hid (fun w hE => refmay16_any a B c w hE hd hn)
  clear hi hEm hd hn
  have x0 := HX0.out.cell 0
  have x1 := HX0.out.cell 1
  have x2 := HX0.out.cell 2
  have x3 := HX0.out.cell 3
  have x4 := HX0.out.cell 4
  have x5 := HX0.out.cell 5
  simp only [List.getElem?_toArray, List.getElem?_cons_succ, List.getElem?_cons_zero] at x0 x1 x2 x3 x4 x5
  obtain ⟨b, hb⟩ : ∃ b, asM a = b := ⟨_, rfl⟩
  rw [hb] at K1
  have HAM := Lib.hid hb
  clear hb
  go_enter Try.func28, Try.ntmps28
  go_wp2_with (first | (rw [hw0]) | fail)
  clear hw0
  refine (K1.out _ (HEM.out.next HB0.out)).mono ?_
  rintro r w1 ⟨rfl, hb1⟩
  have HB1 : Hid (Below w.heap.size w w1) := Lib.hid (HB0.out.trans (hb1.mono HB0.out.size))
  have HK1 := Lib.hid (HK0.out.below hb1 HK0.out.lt)
  have HX1 := Lib.hid (HX0.out.below hb1 HX0.out.lt)
  have HR1 := Lib.hid (HR0.out.below hb1 HR0.out.lt)
  clear hb1 HB0 HK0 HX0 HR0 x0 x1 x2 x3 x4 x5 K1
  cases b
  · have HD : Hid (T.addA a = (T, 0, 2)) := Lib.hid (by unfold Tb.addA; rw [if_pos HAM.out])
    have k0 := HK1.out.cell 0
    have k1 := HK1.out.cell 1
    have k2 := HK1.out.cell 2
    have k3 := HK1.out.cell 3
    simp only [List.getElem?_toArray, List.getElem?_cons_succ, List.getElem?_cons_zero] at  k0 k1 k2 k3
    go_wp2_with (refine wpList_store_row rfl 34 (.tmp 4) (.tmp 11) rfl (w.heap.size + 2) rfl _ rfl 34 _ HR1.out (by kernel_rfl) rfl (by kernel_rfl) ?_)
    refine bodyPost_ret (v := .tuple #[.agg #[.int .i64 (T.n : Int), .slice X.A nA X.ca, .slice X.E nE X.ce, .slice X.M nM X.cm], .int .i64 0, .int .i64 2]) (results_cell_two (p := 4) (q := 5) (r := 6) (by kernel_rfl) _ _ (w.heap.size + 2) 34 _ _ rfl (Blk.row HR1.out _) Try.underlying34 rfl (by kernel_rfl) _ rfl _ rfl) rfl ?_
    rw [HD.out]
    exact ⟨X, by rw [← HNS.out.1, ← HNS.out.2.1, ← HNS.out.2.2]; rfl, HT.out.next (below_row HB1.out (by omega) _), below_row HB1.out (by omega) _, XTo.refl _ _ _ _⟩
  · go_wp2
    go_loopw [7] (fun i wr => ∃ k : Nat, k ≤ nA ∧ i = .int .i64 k ∧ Hid (∀ y ∈ T.A.take k, (y.d == a.d && y.n == a.n) = false) ∧ Hid (Below w1.heap.size w1 wr)) (fun i _ => nA - (intOf i).toNat)
    case atStart => exact ⟨0, Nat.zero_le _, rfl, Lib.hid (by simp), Lib.hid (Below.refl _ _)⟩
    case round =>
      obtain ⟨k, hk, rfl, HZ, HBw⟩ := hrel
      have HB : Hid (Below w.heap.size w wr) := Lib.hid (HB1.out.trans (HBw.out.mono HB1.out.size))
      have HK := Lib.hid (HK1.out.below HBw.out HK1.out.lt)
      have HX := Lib.hid (HX1.out.below HBw.out HX1.out.lt)
      have HR := Lib.hid (HR1.out.below HBw.out HR1.out.lt)
      have k1 := HK.out.cell 1
      simp only [List.getElem?_toArray, List.getElem?_cons_succ, List.getElem?_cons_zero] at  k1
      by_cases hlt : k < nA
      · obtain ⟨y, hy, hya⟩ := as_of HT.out.la (show k < T.A.length by rw [HNS.out.1]; exact hlt)
        have hx : T.A[k]? = some y.a := by
          rw [hya, List.getD_eq_getElem?_getD, List.getElem?_eq_getElem (show k < T.A.length by rw [HNS.out.1]; exact hlt)]
          rfl
        obtain ⟨b2, off2, hA2, hltA, a0, a1, a2, a3, a4, a5⟩ := as_at (HT.out.ea.next HB.out) hy
        have hki : (k : Int) < nA := by omega
        have HLT := Lib.hid hlt
        have HXX := Lib.hid hx
        rw [hA2] at k1
        have x1 := HX.out.cell 1
        have x2 := HX.out.cell 2
        simp only [List.getElem?_toArray, List.getElem?_cons_succ, List.getElem?_cons_zero] at x1 x2
        clear hlt hx hy hya hA2 a0 a3 a4 a5
        by_cases e1 : y.a.d = a.d
        · have q1 : ((⟨y.a.d.toArray⟩ : ByteArray).toList == (⟨a.d.toArray⟩ : ByteArray).toList) = true := by rw [str_eqB, e1]; simp
          have q1' : (y.a.d == a.d) = true := by rw [e1]; simp
          by_cases e2 : y.a.n = a.n
          · have q2 : ((⟨y.a.n.toArray⟩ : ByteArray).toList == (⟨a.n.toArray⟩ : ByteArray).toList) = true := by rw [str_eqB, e2]; simp
            have q2' : (y.a.n == a.n) = true := by rw [e2]; simp
            have HD : Hid (T.addA a = (T, 0, 8)) := Lib.hid (by
              unfold Tb.addA
              rw [if_neg (by rw [HAM.out]; decide), if_pos (List.any_eq_true.2 ⟨y.a, List.mem_of_getElem? HXX.out, by rw [q1', q2']; rfl⟩)])
            clear e1 e2
            go_wp2_with fail
            go_quiet (fail)
            have HKq : Hid (Blk (wr.drewN nq) w.heap.size 34 #[.int .i64 (T.n : Int), .slice X.A nA X.ca, .slice X.E nE X.ce, .slice X.M nM X.cm]) := Lib.hid HK.out
            have HRq : Hid (Blk (wr.drewN nq) (w.heap.size + 2) 34 #[.int .i64 0, .slice none 0 0, .slice none 0 0, .slice none 0 0]) := Lib.hid HR.out
            have HBq : Hid (Below w.heap.size w (wr.drewN nq)) := Lib.hid (below_drewN16 HB.out _)
            have k0 := HKq.out.cell 0
            have k1 := HKq.out.cell 1
            have k2 := HKq.out.cell 2
            have k3 := HKq.out.cell 3
            simp only [List.getElem?_toArray, List.getElem?_cons_succ, List.getElem?_cons_zero] at  k0 k1 k2 k3
            go_wp2_with (refine wpList_store_row rfl 34 (.tmp 4) (.tmp 39) rfl (w.heap.size + 2) rfl _ rfl 34 _ HRq.out (by kernel_rfl) rfl (by kernel_rfl) ?_)
            refine bodyPost_ret (v := .tuple #[.agg #[.int .i64 (T.n : Int), .slice X.A nA X.ca, .slice X.E nE X.ce, .slice X.M nM X.cm], .int .i64 0, .int .i64 8]) (results_cell_two (p := 4) (q := 5) (r := 6) (by kernel_rfl) _ _ (w.heap.size + 2) 34 _ _ rfl (Blk.row HRq.out _) Try.underlying34 rfl (by kernel_rfl) _ rfl _ rfl) rfl ?_
            rw [HD.out]
            exact ⟨X, by rw [← HNS.out.1, ← HNS.out.2.1, ← HNS.out.2.2]; rfl, HT.out.next (below_row HBq.out (by omega) _), below_row HBq.out (by omega) _, XTo.refl _ _ _ _⟩
          · have q2 : ((⟨y.a.n.toArray⟩ : ByteArray).toList == (⟨a.n.toArray⟩ : ByteArray).toList) = false := by rw [str_eqB]; simpa using e2
            have q2' : (y.a.n == a.n) = false := by simpa using e2
            have HZ1 := Lib.hid (all_snoc16 (p := fun y => y.d == a.d && y.n == a.n) HZ.out HXX.out (by rw [q2']; simp))
            clear e1 e2
            go_wp2_with fail
            go_quiet (fail)
            go_wp2
            go_roundw
            case rel => exact ⟨k + 1, by have := HLT.out; omega, by go_num, HZ1, Lib.hid (below_drewN16 HBw.out _)⟩
            case measure => have := HLT.out; simp [intOf]; omega
        · have q1 : ((⟨y.a.d.toArray⟩ : ByteArray).toList == (⟨a.d.toArray⟩ : ByteArray).toList) = false := by rw [str_eqB]; simpa using e1
          have q1' : (y.a.d == a.d) = false := by simpa using e1
          have HZ1 := Lib.hid (all_snoc16 (p := fun y => y.d == a.d && y.n == a.n) HZ.out HXX.out (by rw [q1']; simp))
          clear e1
          go_wp2_with fail
          go_quiet (fail)
          go_wp2
          go_roundw
          case rel => exact ⟨k + 1, by have := HLT.out; omega, by go_num, HZ1, Lib.hid (below_drewN16 HBw.out _)⟩
          case measure => have := HLT.out; simp [intOf]; omega
      · obtain rfl : nA = k := by omega
        rw [List.take_of_length_le (by rw [HNS.out.1]; exact Nat.le_refl _)] at HZ
        clear hlt hk HB1 HK1 HX1 HR1 HBw
        by_cases h8 : nA = 8
        · have q8 : ((nA : Int) == 8) = true := by rw [h8]; rfl
          have HD : Hid (T.addA a = (T, 0, 6)) := Lib.hid (by
            unfold Tb.addA
            rw [if_neg (by rw [HAM.out]; decide), if_neg (by rw [any_no16 HZ.out]; decide), if_pos (by rw [HNS.out.1, h8])])
          clear h8
          have k0 := HK.out.cell 0
          have k1 := HK.out.cell 1
          have k2 := HK.out.cell 2
          have k3 := HK.out.cell 3
          simp only [List.getElem?_toArray, List.getElem?_cons_succ, List.getElem?_cons_zero] at  k0 k1 k2 k3
          go_wp2_with (refine wpList_store_row rfl 34 (.tmp 4) (.tmp 44) rfl (w.heap.size + 2) rfl _ rfl 34 _ HR.out (by kernel_rfl) rfl (by kernel_rfl) ?_)
          refine bodyPost_ret (v := .tuple #[.agg #[.int .i64 (T.n : Int), .slice X.A nA X.ca, .slice X.E nE X.ce, .slice X.M nM X.cm], .int .i64 0, .int .i64 6]) (results_cell_two (p := 4) (q := 5) (r := 6) (by kernel_rfl) _ _ (w.heap.size + 2) 34 _ _ rfl (Blk.row HR.out _) Try.underlying34 rfl (by kernel_rfl) _ rfl _ rfl) rfl ?_
          rw [HD.out]
          exact ⟨X, by rw [← HNS.out.1, ← HNS.out.2.1, ← HNS.out.2.2]; rfl, HT.out.next (below_row HB.out (by omega) _), below_row HB.out (by omega) _, XTo.refl _ _ _ _⟩
        · have q8 : ((nA : Int) == 8) = false := by rw [beq_eq_false_iff_ne]; omega
          have HD : Hid (T.addA a = ({ T with A := T.A ++ [a] }, T.A.length, 0)) := Lib.hid (by
            unfold Tb.addA
            rw [if_neg (by rw [HAM.out]; decide), if_neg (by rw [any_no16 HZ.out]; decide), if_neg (by rw [HNS.out.1]; exact h8)])
          have HE : Hid (Els 6 asE wr X.A X.LA) := Lib.hid (HT.out.ea.next HB.out)
          have hll : X.LA.length = nA := by rw [← HNS.out.1, ← HT.out.la, List.length_map]
          have HNN : Hid (X.LA.length = nA) := Lib.hid hll
          have HZN : Hid (X.A = none → X.ca = 0) := Lib.hid HT.out.za
          have HLN : Hid (X.LA.length + 1 ≤ 1000000) := Lib.hid (by have := HLA.out; omega)
          clear h8 hll
          go_upto_region 10 with (fail)
          go_cut [] (fun wx => ∃ v w5, wx = w5.setCell ⟨w.heap.size, 1, none⟩ v ∧ Hid (w5.ownsRow wr.heap.size 37 6 v (X.LA ++ [(⟨a, B, c⟩ : AsX)]).length ((X.LA ++ [(⟨a, B, c⟩ : AsX)]).flatMap asE)) ∧ Hid (Below wr.heap.size wr w5))
          case first =>
            have hltK := HK.out.lt
            have k3 := HK.out.cell 1
            simp only [List.getElem?_toArray, List.getElem?_cons_succ, List.getElem?_cons_zero] at  k3
            refine wp_region_noPanic ?_
            refine wp_region_held_drew (S := fun w_ => Chg (only w.heap.size) wr w_) (by kernel_rfl) (Chg.refl _ wr).drew (fun hHeld => ?_)
            refine wpAnyH_take (i := 0) (v := ?v1) rfl (by kernel_rfl) (by kernel_rfl) (by kernel_rfl) (fun _ _ _ h => h) (Or.inl ⟨by rfl, ?hy1⟩) hHeld ?rest1
            case hy1 =>
              intro w_ hSw; go_simp
              all_goals (with_reducible rfl)
            try simp only [Act.put, List.getElem_toArray, List.getElem_cons_succ, List.getElem_cons_zero, List.setIfInBounds_toArray, List.set_cons_zero, List.set_cons_succ]
            refine wpAnyH_take (i := 3) (v := .agg #[.int .u8 a.l.toNat, .string ⟨a.d.toArray⟩, .string ⟨a.n.toArray⟩, .int .u16 a.v.toNat, .int .u8 a.i.toNat, .slice B a.m.length c]) rfl (by kernel_rfl) (by kernel_rfl) (by kernel_rfl) (fun _ _ _ h => h) (yieldsIf_rowH 37 3 rfl (by rfl) (w.heap.size + 1) rfl 37 _ _ (fun w_ hw => (HX.out.chg (w := wr) hw (by unfold only; omega))) Try.underlying37 rfl (by kernel_rfl)) hHeld ?_
            try simp only [Act.put, List.getElem_toArray, List.getElem_cons_succ, List.getElem_cons_zero, List.setIfInBounds_toArray, List.set_cons_zero, List.set_cons_succ]
            refine wpAnyH_ready (rs := [1, 4]) (by kernel_rfl) (by simp) ?_
            refine AllReadyH.cons rfl (fun K hK => ?_) ?_
            · go_simp
              refine hK.out _ _ (hHeld) (fun hHeld => ?_)
              clear hK K
              try simp only [Act.put, List.getElem_toArray, List.getElem_cons_succ, List.getElem_cons_zero, List.setIfInBounds_toArray, List.set_cons_zero, List.set_cons_succ]
              refine wpAnyH_ready (rs := [2, 4]) (by kernel_rfl) (by simp) ?_
              refine AllReadyH.cons rfl (fun K hK => ?_) ?_
              · refine step_appL rfl (.const (.slice none 0 0)) (.tmp 46) 30 rfl asE_len asE_one (by decide) wr.heap.size 37 i0 _ 72 Try.underlying30 HIT.out rfl _ [] rfl (World.ownsRow_nil _ _ _ _) X.A nA X.ca X.LA HNN.out rfl HZN.out (HE.out) (by have := HLN.out; simp; omega) (by decide) (by simp) ?_
                intro va wa hoa hga _
                have HOA := Lib.hid (show wa.ownsRow wr.heap.size 37 6 va (X.LA).length ((X.LA).flatMap asE) by simpa using hoa)
                clear hoa
                have HBA : Hid (Below wr.heap.size wr wa) := Lib.hid ((Below.refl wr.heap.size wr).drew.grown hga (by simp) (fun j hj => by cases hj))
                clear hga
                refine hK.out _ _ (Chg.of_below HBA.out) (fun hHeld => ?_)
                clear hK K
                try simp only [Act.put, List.getElem_toArray, List.getElem_cons_succ, List.getElem_cons_zero, List.setIfInBounds_toArray, List.set_cons_zero, List.set_cons_succ]
                refine wpAnyH_ready (rs := [4]) (by kernel_rfl) (by simp) ?_
                refine AllReadyH.cons rfl (fun K hK => ?_) AllReadyH.nil
                go_simp
                refine hK.out _ _ ((Chg.of_below HBA.out).alloc _) (fun hHeld => ?_)
                clear hK K
                try simp only [Act.put, List.getElem_toArray, List.getElem_cons_succ, List.getElem_cons_zero, List.setIfInBounds_toArray, List.set_cons_zero, List.set_cons_succ]
                refine wpAnyH_ready (rs := [5]) (by kernel_rfl) (by simp) ?_
                refine AllReadyH.cons rfl (fun K hK => ?_) AllReadyH.nil
                refine step_appL rfl (.tmp 47) (.tmp 49) 30 rfl asE_len asE_one (by decide) wr.heap.size 37 i0 _ 72 Try.underlying30 HIT.out rfl va X.LA rfl (World.ownsRow.alloc HOA.out _) (some ⟨wa.heap.size, 0, none⟩) 1 1 [(⟨a, B, c⟩ : AsX)] rfl rfl (fun e => by cases e) (els_one16 wa 37 (⟨a, B, c⟩ : AsX) _ rfl) (by have := HLN.out; simp; omega) (by decide) (by have := HBA.out.size; simp; omega) ?_
                intro v5 w5 ho5 hg5 _
                have hb5 : Below wr.heap.size wr w5 := (HBA.out.alloc HBA.out.size (.cells #[.int .u8 a.l.toNat, .string ⟨a.d.toArray⟩, .string ⟨a.n.toArray⟩, .int .u16 a.v.toNat, .int .u8 a.i.toNat, .slice B a.m.length c] 37)).grown hg5 (by have := HBA.out.size; simp; omega) (fun j hj => (HOA.out.lt j hj).1)
                have HO9 := Lib.hid ho5
                have HB9 : Hid (Below wr.heap.size wr w5) := Lib.hid (hb5)
                have HK9 := Lib.hid (HK.out.below HB9.out HK.out.lt)
                obtain ⟨A9, c9, e9, _⟩ := own_fullL asE_len HO9.out
                obtain ⟨m9, hm9⟩ : ∃ q_, (X.LA ++ [(⟨a, B, c⟩ : AsX)]).length = q_ := ⟨_, rfl⟩
                rw [hm9] at e9
                clear hm9
                subst e9
                have s0 := HK9.out.cell 1
                have s1 := HK9.out.frozen 1
                simp only [List.getElem?_toArray, List.getElem?_cons_succ, List.getElem?_cons_zero] at  s0
                clear ho5 hg5 hb5
                refine hK.out _ _ (Chg.of_below HB9.out) (fun hHeld => ?_)
                clear hK K
                try simp only [Act.put, List.getElem_toArray, List.getElem_cons_succ, List.getElem_cons_zero, List.setIfInBounds_toArray, List.set_cons_zero, List.set_cons_succ]
                refine wpAnyH_take (i := 6) (v := ?v2) rfl (by kernel_rfl) (by kernel_rfl) (by kernel_rfl) (fun _ _ _ h => h) (Or.inl ⟨by rfl, ?hy2⟩) hHeld ?rest2
                case hy2 =>
                  intro w_ hSw; go_simp
                  all_goals (with_reducible rfl)
                try simp only [Act.put, List.getElem_toArray, List.getElem_cons_succ, List.getElem_cons_zero, List.setIfInBounds_toArray, List.set_cons_zero, List.set_cons_succ]
                refine wpAnyH_ready (rs := [7]) (by kernel_rfl) (by simp) ?_
                refine AllReadyH.cons rfl (fun K hK => ?_) AllReadyH.nil
                go_simp
                refine hK.out _ _ ((Chg.of_below (S := only w.heap.size) HB9.out).setCell (p := ⟨w.heap.size, 1, none⟩) (.inr rfl) _) (fun hHeld => ?_)
                clear hK K
                try simp only [Act.put, List.getElem_toArray, List.getElem_cons_succ, List.getElem_cons_zero, List.setIfInBounds_toArray, List.set_cons_zero, List.set_cons_succ]
                refine wpAnyH_done (by kernel_rfl) ?_ _
                refine NoPanic.normal ?_
                clear hHeld
                go_wp2_with fail
                go_meet
                exact ⟨_, _, rfl, HO9, HB9⟩
              · refine AllReadyH.cons rfl (fun K hK => ?_) AllReadyH.nil
                go_simp
                refine hK.out _ _ (hHeld.alloc _) (fun hHeld => ?_)
                clear hK K
                try simp only [Act.put, List.getElem_toArray, List.getElem_cons_succ, List.getElem_cons_zero, List.setIfInBounds_toArray, List.set_cons_zero, List.set_cons_succ]
                refine wpAnyH_ready (rs := [2]) (by kernel_rfl) (by simp) ?_
                refine AllReadyH.cons rfl (fun K hK => ?_) AllReadyH.nil
                refine step_appL rfl (.const (.slice none 0 0)) (.tmp 46) 30 rfl asE_len asE_one (by decide) wr.heap.size 37 i0 _ 72 Try.underlying30 HIT.out rfl _ [] rfl (World.ownsRow_nil _ _ _ _) X.A nA X.ca X.LA HNN.out rfl HZN.out (HE.out.next (w := wr) ((Below.refl wr.heap.size wr).drew.alloc (Nat.le_refl _) (.cells #[.int .u8 a.l.toNat, .string ⟨a.d.toArray⟩, .string ⟨a.n.toArray⟩, .int .u16 a.v.toNat, .int .u8 a.i.toNat, .slice B a.m.length c] 37))) (by have := HLN.out; simp; omega) (by decide) (by simp) ?_
                intro va wa hoa hga _
                have HOA := Lib.hid (show wa.ownsRow wr.heap.size 37 6 va (X.LA).length ((X.LA).flatMap asE) by simpa using hoa)
                clear hoa
                have HBA : Hid (Below wr.heap.size wr wa) := Lib.hid (((Below.refl wr.heap.size wr).drew.alloc (Nat.le_refl _) (.cells #[.int .u8 a.l.toNat, .string ⟨a.d.toArray⟩, .string ⟨a.n.toArray⟩, .int .u16 a.v.toNat, .int .u8 a.i.toNat, .slice B a.m.length c] 37)).grown hga (by simp) (fun j hj => by cases hj))
                have HEA : Hid (Els 6 asE wa (some ⟨wr.heap.size, 0, none⟩) [(⟨a, B, c⟩ : AsX)]) := Lib.hid ((els_one16 wr.drew 37 (⟨a, B, c⟩ : AsX) _ rfl).next ((Below.refl _ (wr.drew.alloc (.cells #[.int .u8 a.l.toNat, .string ⟨a.d.toArray⟩, .string ⟨a.n.toArray⟩, .int .u16 a.v.toNat, .int .u8 a.i.toNat, .slice B a.m.length c] 37))).grown hga (Nat.le_refl _) (fun j hj => by cases hj)))
                clear hga
                refine hK.out _ _ (Chg.of_below HBA.out) (fun hHeld => ?_)
                clear hK K
                try simp only [Act.put, List.getElem_toArray, List.getElem_cons_succ, List.getElem_cons_zero, List.setIfInBounds_toArray, List.set_cons_zero, List.set_cons_succ]
                refine wpAnyH_ready (rs := [5]) (by kernel_rfl) (by simp) ?_
                refine AllReadyH.cons rfl (fun K hK => ?_) AllReadyH.nil
                refine step_appL rfl (.tmp 47) (.tmp 49) 30 rfl asE_len asE_one (by decide) wr.heap.size 37 i0 _ 72 Try.underlying30 HIT.out rfl va X.LA rfl (HOA.out) (some ⟨wr.heap.size, 0, none⟩) 1 1 [(⟨a, B, c⟩ : AsX)] rfl rfl (fun e => by cases e) (HEA.out) (by have := HLN.out; simp; omega) (by decide) (by exact HBA.out.size) ?_
                intro v5 w5 ho5 hg5 _
                have hb5 : Below wr.heap.size wr w5 := HBA.out.grown hg5 HBA.out.size (fun j hj => (HOA.out.lt j hj).1)
                have HO9 := Lib.hid ho5
                have HB9 : Hid (Below wr.heap.size wr w5) := Lib.hid (hb5)
                have HK9 := Lib.hid (HK.out.below HB9.out HK.out.lt)
                obtain ⟨A9, c9, e9, _⟩ := own_fullL asE_len HO9.out
                obtain ⟨m9, hm9⟩ : ∃ q_, (X.LA ++ [(⟨a, B, c⟩ : AsX)]).length = q_ := ⟨_, rfl⟩
                rw [hm9] at e9
                clear hm9
                subst e9
                have s0 := HK9.out.cell 1
                have s1 := HK9.out.frozen 1
                simp only [List.getElem?_toArray, List.getElem?_cons_succ, List.getElem?_cons_zero] at  s0
                clear ho5 hg5 hb5
                refine hK.out _ _ (Chg.of_below HB9.out) (fun hHeld => ?_)
                clear hK K
                try simp only [Act.put, List.getElem_toArray, List.getElem_cons_succ, List.getElem_cons_zero, List.setIfInBounds_toArray, List.set_cons_zero, List.set_cons_succ]
                refine wpAnyH_take (i := 6) (v := ?v3) rfl (by kernel_rfl) (by kernel_rfl) (by kernel_rfl) (fun _ _ _ h => h) (Or.inl ⟨by rfl, ?hy3⟩) hHeld ?rest3
                case hy3 =>
                  intro w_ hSw; go_simp
                  all_goals (with_reducible rfl)
                try simp only [Act.put, List.getElem_toArray, List.getElem_cons_succ, List.getElem_cons_zero, List.setIfInBounds_toArray, List.set_cons_zero, List.set_cons_succ]
                refine wpAnyH_ready (rs := [7]) (by kernel_rfl) (by simp) ?_
                refine AllReadyH.cons rfl (fun K hK => ?_) AllReadyH.nil
                go_simp
                refine hK.out _ _ ((Chg.of_below (S := only w.heap.size) HB9.out).setCell (p := ⟨w.heap.size, 1, none⟩) (.inr rfl) _) (fun hHeld => ?_)
                clear hK K
                try simp only [Act.put, List.getElem_toArray, List.getElem_cons_succ, List.getElem_cons_zero, List.setIfInBounds_toArray, List.set_cons_zero, List.set_cons_succ]
                refine wpAnyH_done (by kernel_rfl) ?_ _
                refine NoPanic.normal ?_
                clear hHeld
                go_wp2_with fail
                go_meet
                exact ⟨_, _, rfl, HO9, HB9⟩
            · refine AllReadyH.cons rfl (fun K hK => ?_) AllReadyH.nil
              go_simp
              refine hK.out _ _ (hHeld.alloc _) (fun hHeld => ?_)
              clear hK K
              try simp only [Act.put, List.getElem_toArray, List.getElem_cons_succ, List.getElem_cons_zero, List.setIfInBounds_toArray, List.set_cons_zero, List.set_cons_succ]
              refine wpAnyH_ready (rs := [1]) (by kernel_rfl) (by simp) ?_
              refine AllReadyH.cons rfl (fun K hK => ?_) AllReadyH.nil
              have k3b : (wr.drew.alloc (.cells #[.int .u8 a.l.toNat, .string ⟨a.d.toArray⟩, .string ⟨a.n.toArray⟩, .int .u16 a.v.toNat, .int .u8 a.i.toNat, .slice B a.m.length c] 37)).cell? ⟨w.heap.size, 1, none⟩ = some (.slice X.A nA X.ca) := by
                have h := ((HK.out.drew).alloc (.cells #[.int .u8 a.l.toNat, .string ⟨a.d.toArray⟩, .string ⟨a.n.toArray⟩, .int .u16 a.v.toNat, .int .u8 a.i.toNat, .slice B a.m.length c] 37)).cell 1
                simpa only [List.getElem?_toArray, List.getElem?_cons_succ, List.getElem?_cons_zero] using h
              go_simp
              refine hK.out _ _ (hHeld) (fun hHeld => ?_)
              clear hK K
              try simp only [Act.put, List.getElem_toArray, List.getElem_cons_succ, List.getElem_cons_zero, List.setIfInBounds_toArray, List.set_cons_zero, List.set_cons_succ]
              refine wpAnyH_ready (rs := [2]) (by kernel_rfl) (by simp) ?_
              refine AllReadyH.cons rfl (fun K hK => ?_) AllReadyH.nil
              refine step_appL rfl (.const (.slice none 0 0)) (.tmp 46) 30 rfl asE_len asE_one (by decide) wr.heap.size 37 i0 _ 72 Try.underlying30 HIT.out rfl _ [] rfl (World.ownsRow_nil _ _ _ _) X.A nA X.ca X.LA HNN.out rfl HZN.out (HE.out.next (w := wr) ((Below.refl wr.heap.size wr).drew.alloc (Nat.le_refl _) (.cells #[.int .u8 a.l.toNat, .string ⟨a.d.toArray⟩, .string ⟨a.n.toArray⟩, .int .u16 a.v.toNat, .int .u8 a.i.toNat, .slice B a.m.length c] 37))) (by have := HLN.out; simp; omega) (by decide) (by simp) ?_
              intro va wa hoa hga _
              have HOA := Lib.hid (show wa.ownsRow wr.heap.size 37 6 va (X.LA).length ((X.LA).flatMap asE) by simpa using hoa)
              clear hoa
              have HBA : Hid (Below wr.heap.size wr wa) := Lib.hid (((Below.refl wr.heap.size wr).drew.alloc (Nat.le_refl _) (.cells #[.int .u8 a.l.toNat, .string ⟨a.d.toArray⟩, .string ⟨a.n.toArray⟩, .int .u16 a.v.toNat, .int .u8 a.i.toNat, .slice B a.m.length c] 37)).grown hga (by simp) (fun j hj => by cases hj))
              have HEA : Hid (Els 6 asE wa (some ⟨wr.heap.size, 0, none⟩) [(⟨a, B, c⟩ : AsX)]) := Lib.hid ((els_one16 wr.drew 37 (⟨a, B, c⟩ : AsX) _ rfl).next ((Below.refl _ (wr.drew.alloc (.cells #[.int .u8 a.l.toNat, .string ⟨a.d.toArray⟩, .string ⟨a.n.toArray⟩, .int .u16 a.v.toNat, .int .u8 a.i.toNat, .slice B a.m.length c] 37))).grown hga (Nat.le_refl _) (fun j hj => by cases hj)))
              clear hga
              refine hK.out _ _ (Chg.of_below HBA.out) (fun hHeld => ?_)
              clear hK K
              try simp only [Act.put, List.getElem_toArray, List.getElem_cons_succ, List.getElem_cons_zero, List.setIfInBounds_toArray, List.set_cons_zero, List.set_cons_succ]
              refine wpAnyH_ready (rs := [5]) (by kernel_rfl) (by simp) ?_
              refine AllReadyH.cons rfl (fun K hK => ?_) AllReadyH.nil
              refine step_appL rfl (.tmp 47) (.tmp 49) 30 rfl asE_len asE_one (by decide) wr.heap.size 37 i0 _ 72 Try.underlying30 HIT.out rfl va X.LA rfl (HOA.out) (some ⟨wr.heap.size, 0, none⟩) 1 1 [(⟨a, B, c⟩ : AsX)] rfl rfl (fun e => by cases e) (HEA.out) (by have := HLN.out; simp; omega) (by decide) (by exact HBA.out.size) ?_
              intro v5 w5 ho5 hg5 _
              have hb5 : Below wr.heap.size wr w5 := HBA.out.grown hg5 HBA.out.size (fun j hj => (HOA.out.lt j hj).1)
              have HO9 := Lib.hid ho5
              have HB9 : Hid (Below wr.heap.size wr w5) := Lib.hid (hb5)
              have HK9 := Lib.hid (HK.out.below HB9.out HK.out.lt)
              obtain ⟨A9, c9, e9, _⟩ := own_fullL asE_len HO9.out
              obtain ⟨m9, hm9⟩ : ∃ q_, (X.LA ++ [(⟨a, B, c⟩ : AsX)]).length = q_ := ⟨_, rfl⟩
              rw [hm9] at e9
              clear hm9
              subst e9
              have s0 := HK9.out.cell 1
              have s1 := HK9.out.frozen 1
              simp only [List.getElem?_toArray, List.getElem?_cons_succ, List.getElem?_cons_zero] at  s0
              clear ho5 hg5 hb5
              refine hK.out _ _ (Chg.of_below HB9.out) (fun hHeld => ?_)
              clear hK K
              try simp only [Act.put, List.getElem_toArray, List.getElem_cons_succ, List.getElem_cons_zero, List.setIfInBounds_toArray, List.set_cons_zero, List.set_cons_succ]
              refine wpAnyH_take (i := 6) (v := ?v4) rfl (by kernel_rfl) (by kernel_rfl) (by kernel_rfl) (fun _ _ _ h => h) (Or.inl ⟨by rfl, ?hy4⟩) hHeld ?rest4
              case hy4 =>
                intro w_ hSw; go_simp
                all_goals (with_reducible rfl)
              try simp only [Act.put, List.getElem_toArray, List.getElem_cons_succ, List.getElem_cons_zero, List.setIfInBounds_toArray, List.set_cons_zero, List.set_cons_succ]
              refine wpAnyH_ready (rs := [7]) (by kernel_rfl) (by simp) ?_
              refine AllReadyH.cons rfl (fun K hK => ?_) AllReadyH.nil
              go_simp
              refine hK.out _ _ ((Chg.of_below (S := only w.heap.size) HB9.out).setCell (p := ⟨w.heap.size, 1, none⟩) (.inr rfl) _) (fun hHeld => ?_)
              clear hK K
              try simp only [Act.put, List.getElem_toArray, List.getElem_cons_succ, List.getElem_cons_zero, List.setIfInBounds_toArray, List.set_cons_zero, List.set_cons_succ]
              refine wpAnyH_done (by kernel_rfl) ?_ _
              refine NoPanic.normal ?_
              clear hHeld
              go_wp2_with fail
              go_meet
              exact ⟨_, _, rfl, HO9, HB9⟩
          obtain ⟨v9, w5, rfl, HO9, HB9⟩ := hcut
          have HK9 := Lib.hid (HK.out.below HB9.out HK.out.lt)
          have HR9 := Lib.hid (HR.out.below HB9.out HR.out.lt)
          have HBW9 : Hid (Below w.heap.size w w5) := Lib.hid (HB.out.trans (HB9.out.mono HB.out.size))
          obtain ⟨A9, c9, rfl, hE9, _, hz9, hA9⟩ := own_fullL asE_len HO9.out
          obtain ⟨m9, hm9⟩ : ∃ q_, (X.LA ++ [(⟨a, B, c⟩ : AsX)]).length = q_ := ⟨_, rfl⟩
          have hm9' : m9 = nA + 1 := by rw [← hm9, List.length_append, HNN.out]; rfl
          have HM9 := Lib.hid (And.intro hm9 hm9')
          have hw9 : IntKind.i64.wrap ((m9 : Int) - 1) = (nA : Int) := by have := HLA.out; rw [hm9']; simp [IntKind.wrap, IntKind.signed, IntKind.bits]; omega
          have HE9 := Lib.hid (And.intro hE9 (And.intro hz9 hA9))
          rw [hm9]
          have HKs : Hid (Blk (w5.setCell ⟨w.heap.size, 1, none⟩ (.slice A9 m9 c9)) w.heap.size 34 #[.int .i64 (T.n : Int), .slice A9 m9 c9, .slice X.E nE X.ce, .slice X.M nM X.cm]) := Lib.hid (by
            have := HK9.out.put 1 (.slice A9 m9 c9)
            simpa using this)
          have HRs : Hid (Blk (w5.setCell ⟨w.heap.size, 1, none⟩ (.slice A9 m9 c9)) (w.heap.size + 2) 34 #[.int .i64 0, .slice none 0 0, .slice none 0 0, .slice none 0 0]) := Lib.hid (HR9.out.far (p := ⟨w.heap.size, 1, none⟩) (by show w.heap.size + 2 ≠ w.heap.size; omega) _)
          have HBs : Hid (Below w.heap.size w (w5.setCell ⟨w.heap.size, 1, none⟩ (.slice A9 m9 c9))) := Lib.hid (HBW9.out.setCell (p := ⟨w.heap.size, 1, none⟩) (Nat.le_refl _) _)
          have HC : Hid (∀ cs, Chg (fun j => j = w.heap.size ∨ j = w.heap.size + 2) w5 ((w5.setCell ⟨w.heap.size, 1, none⟩ (.slice A9 m9 c9)).drew.setRow (w.heap.size + 2) cs)) := Lib.hid (fun cs => (((Chg.refl _ _).setCell (p := ⟨w.heap.size, 1, none⟩) (.inr (.inl rfl)) _).drew).setRow (.inr (.inr rfl)) _)
          have hw2 : w.heap.size + 2 < wr.heap.size := HR.out.lt
          have HW2 := Lib.hid hw2
          clear hm9 hm9' hE9 hz9 hA9 HO9 hw2 HK HX HR HB HB9 HK9 HR9 HBW9 k1
          obtain ⟨w6, hw6⟩ : ∃ w6, (w5.setCell ⟨w.heap.size, 1, none⟩ (.slice A9 m9 c9)) = w6 := ⟨_, rfl⟩
          have HS6 : Hid (w5.heap.size = w6.heap.size) := Lib.hid (by rw [← hw6]; simp [World.setCell])
          have HE6 : Hid (∀ cs, Els 6 asE (w6.drew.setRow (w.heap.size + 2) cs) A9 (X.LA ++ [(⟨a, B, c⟩ : AsX)])) := Lib.hid (fun cs => by
            rw [← hw6]
            exact elsL_chg HE9.out.1 (HC.out cs) (fun a ha hh => by have := (HE9.out.2.2 a ha).1; have := HW2.out; rcases hh with hh | hh <;> omega))
          rw [hw6] at HKs HRs HBs
          rw [hw6]
          clear hw6 HC
          go_wp2_with fail
          refine wp_region_noPanic ?_
          refine wp_region_held_drew (S := fun w_ => Blk w_ w.heap.size 34 #[.int .i64 (T.n : Int), .slice A9 m9 c9, .slice X.E nE X.ce, .slice X.M nM X.cm]) (by kernel_rfl) HKs.out.drew (fun hHeld => ?_)
          refine wpAnyH_take (i := 0) (v := .agg #[.int .i64 (T.n : Int), .slice A9 m9 c9, .slice X.E nE X.ce, .slice X.M nM X.cm]) rfl (by kernel_rfl) (by kernel_rfl) (by kernel_rfl) (fun _ _ _ h => h) (yieldsIf_rowH 34 2 rfl (by rfl) w.heap.size rfl 34 _ _ (fun w_ hw => hw) Try.underlying34 rfl (by kernel_rfl)) hHeld ?_
          try simp only [Act.put, List.getElem_toArray, List.getElem_cons_succ, List.getElem_cons_zero, List.setIfInBounds_toArray, List.set_cons_zero, List.set_cons_succ]
          refine wpAnyH_take (i := 1) (v := ?v5) rfl (by kernel_rfl) (by kernel_rfl) (by kernel_rfl) (fun _ _ _ h => h) (Or.inl ⟨by rfl, ?hy5⟩) hHeld ?rest5
          case hy5 =>
            intro w_ hSw; go_simp
            all_goals (with_reducible rfl)
          try simp only [Act.put, List.getElem_toArray, List.getElem_cons_succ, List.getElem_cons_zero, List.setIfInBounds_toArray, List.set_cons_zero, List.set_cons_succ]
          refine wpAnyH_take (i := 2) (v := ?v6) rfl (by kernel_rfl) (by kernel_rfl) (by kernel_rfl) (fun _ _ _ h => h) (Or.inl ⟨by rfl, ?hy6⟩) hHeld ?rest6
          case hy6 =>
            intro w_ hSw; have s1 := hSw.cell 1; simp only [List.getElem?_toArray, List.getElem?_cons_succ, List.getElem?_cons_zero] at  s1; go_simp
            all_goals (with_reducible rfl)
          try simp only [Act.put, List.getElem_toArray, List.getElem_cons_succ, List.getElem_cons_zero, List.setIfInBounds_toArray, List.set_cons_zero, List.set_cons_succ]
          refine wpAnyH_take (i := 3) (v := ?v7) rfl (by kernel_rfl) (by kernel_rfl) (by kernel_rfl) (fun _ _ _ h => h) (Or.inl ⟨by rfl, ?hy7⟩) hHeld ?rest7
          case hy7 =>
            intro w_ hSw; go_simp
            all_goals (with_reducible rfl)
          try simp only [Act.put, List.getElem_toArray, List.getElem_cons_succ, List.getElem_cons_zero, List.setIfInBounds_toArray, List.set_cons_zero, List.set_cons_succ]
          refine wpAnyH_take (i := 4) (v := ?v8) rfl (by kernel_rfl) (by kernel_rfl) (by kernel_rfl) (fun _ _ _ h => h) (Or.inl ⟨by rfl, ?hy8⟩) hHeld ?rest8
          case hy8 =>
            intro w_ hSw; go_simp
            all_goals (with_reducible rfl)
          try simp only [Act.put, List.getElem_toArray, List.getElem_cons_succ, List.getElem_cons_zero, List.setIfInBounds_toArray, List.set_cons_zero, List.set_cons_succ]
          refine wpAnyH_ready (rs := [5]) (by kernel_rfl) (by simp) ?_
          refine AllReadyH.cons rfl (fun K hK => ?_) AllReadyH.nil
          refine step_store_rowH rfl 34 (.tmp 4) (.tmp 52) rfl (w.heap.size + 2) rfl #[.int .i64 (T.n : Int), .slice A9 m9 c9, .slice X.E nE X.ce, .slice X.M nM X.cm] rfl 34 _ HRs.out (by kernel_rfl) rfl (by kernel_rfl) ?_
          refine hK.out _ _ (Blk.rowFar (k := w.heap.size + 2) HKs.out (by omega) _) (fun hHeld => ?_)
          clear hK K
          try simp only [Act.put, List.getElem_toArray, List.getElem_cons_succ, List.getElem_cons_zero, List.setIfInBounds_toArray, List.set_cons_zero, List.set_cons_succ]
          refine wpAnyH_take (i := 6) (v := ?v9) rfl (by kernel_rfl) (by kernel_rfl) (by kernel_rfl) (fun _ _ _ h => h) (Or.inl ⟨by rfl, ?hy9⟩) hHeld ?rest9
          case hy9 =>
            intro w_ hSw; go_simp
            all_goals (with_reducible rfl)
          try simp only [Act.put, List.getElem_toArray, List.getElem_cons_succ, List.getElem_cons_zero, List.setIfInBounds_toArray, List.set_cons_zero, List.set_cons_succ]
          refine wpAnyH_take (i := 7) (v := ?v10) rfl (by kernel_rfl) (by kernel_rfl) (by kernel_rfl) (fun _ _ _ h => h) (Or.inl ⟨by rfl, ?hy10⟩) hHeld ?rest10
          case hy10 =>
            intro w_ hSw; go_simp
            all_goals (with_reducible rfl)
          try simp only [Act.put, List.getElem_toArray, List.getElem_cons_succ, List.getElem_cons_zero, List.setIfInBounds_toArray, List.set_cons_zero, List.set_cons_succ]
          refine wpAnyH_done (by kernel_rfl) ?_ _
          refine NoPanic.normal ?_
          clear hHeld
          go_wp2_with fail
          refine bodyPost_ret (v := .tuple #[.agg #[.int .i64 (T.n : Int), .slice A9 m9 c9, .slice X.E nE X.ce, .slice X.M nM X.cm], .int .i64 nA, .int .i64 0]) (results_cell_two (p := 4) (q := 5) (r := 6) (by kernel_rfl) _ _ (w.heap.size + 2) 34 _ _ rfl (Blk.row HRs.out.drew _) Try.underlying34 rfl (by kernel_rfl) _ rfl _ rfl) rfl ?_
          rw [HD.out]
          have h := HT.out.next (below_row (g := w.heap.size + 2) HBs.out.drew (by omega) #[.int .i64 (T.n : Int), .slice A9 m9 c9, .slice X.E nE X.ce, .slice X.M nM X.cm])
          have hlen : (T.A ++ [a]).length = m9 := by rw [List.length_append, HNS.out.1, HM9.out.2]; rfl
          refine ⟨{ X with LA := X.LA ++ [(⟨a, B, c⟩ : AsX)], A := A9, ca := c9 }, by rw [← HNS.out.1, ← HNS.out.2.1, ← HNS.out.2.2, ← hlen]; rfl, ?_, below_row HBs.out.drew (by omega) _, ⟨.inr (fun a ha => by have h1 := HE9.out.2.2 a ha; have := HW2.out; refine ⟨by omega, ?_⟩; have h2 := h1.2; first | (simpa [World.setCell] using h2) | (simpa using h2) | (have h3 := HS6.out; simp; omega) | omega), .inl rfl, .inl rfl, fun x hx => by rcases List.mem_append.1 hx with hx | hx; exact .inl hx; rw [List.mem_singleton.1 hx]; exact .inr rfl⟩⟩
          refine ⟨by show (X.LA ++ [(⟨a, B, c⟩ : AsX)]).map AsX.a = T.A ++ [a]; rw [List.map_append, h.la]; rfl, HE6.out _, fun x hx => ?_, h.ee, h.mm, HE9.out.2.1, h.ze, h.zm⟩
          rcases List.mem_append.1 hx with hx | hx
          · exact h.em x hx
          · rw [List.mem_singleton.1 hx]
            exact HEM.out.next (below_row (g := w.heap.size + 2) HBs.out.drew (by omega) #[.int .i64 (T.n : Int), .slice A9 m9 c9, .slice X.E nE X.ce, .slice X.M nM X.cm])
end Go.Proofs.Ytfdiolfelecccaa
