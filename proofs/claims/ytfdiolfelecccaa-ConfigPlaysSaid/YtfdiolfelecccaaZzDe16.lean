/- Layer 16: the document's DropMep. -/
import Derived.Test.YtfdiolfelecccaaZzDm16
namespace Go.Proofs.Ytfdiolfelecccaa
open Go.RowKit
set_option linter.unusedVariables false
set_option linter.unusedSimpArgs false
set_option maxRecDepth 100000

theorem mp_at {w : World} {A : Option Addr} {l : List Mp} {i : Nat} {x : Mp} (h : Els 4 mpE w A l) (hx : l[i]? = some x) : ∃ b off, A = some ⟨b, off, none⟩ ∧ b < w.heap.size ∧ w.cell? ⟨b, off + i * 4, none⟩ = some (.int .i64 x.a) ∧ w.cell? ⟨b, off + i * 4 + 1, none⟩ = some (.int .u16 x.m.toNat) ∧ w.cell? ⟨b, off + i * 4 + 2, none⟩ = some (.int .u8 x.p.toNat) ∧ w.cell? ⟨b, off + i * 4 + 3, none⟩ = some (.bool x.u) := by
  obtain ⟨hi, rfl⟩ := List.getElem?_eq_some_iff.1 hx
  obtain ⟨b, off, e, hlt, hc⟩ := h (by omega)
  exact ⟨b, off, e, hlt, hc i hi 0 _ rfl, hc i hi 1 _ rfl, hc i hi 2 _ rfl, hc i hi 3 _ rfl⟩
theorem infoMp : (Try.prog.info? 39).map (fun i => (i.zero, i.size, i.bytes)) = some (some (.agg #[.int .i64 0, .int .u16 0, .int .u8 0, .bool false]), 4, 16) := by kernel_rfl
theorem mpE_len (x : Mp) : (mpE x).length = 4 := rfl
theorem mpE_one (x : Mp) : ∀ u ∈ mpE x, u.oneCell' = true := by
  intro u hu
  simp only [mpE, List.mem_cons, List.not_mem_nil, or_false] at hu
  rcases hu with rfl | rfl | rfl | rfl <;> rfl
set_option maxHeartbeats 8000000 in
theorem refdrope16_any (T : Tb) (X : TbX) (p : Int) (v : UInt16) (w : World) (hT : TbD w T X) (hm : T.E.length ≤ 1000) :
    Calls Try.prog 25 #[.agg (TbC T X), .int .i64 p, .int .u16 v.toNat] w fun e w' => ∃ X', e = .returned (.tuple #[.agg (TbC (T.dropE p v).1 X'), .int .i64 ((T.dropE p v).2 : Nat)]) ∧ TbD w' (T.dropE p v).1 X' ∧ Below w.heap.size w w' := by
  obtain ⟨n, hn⟩ : ∃ n, T.E.length = n := ⟨_, rfl⟩
  have HN := Lib.hid hn
  show Calls _ _ #[.agg #[.int .i64 (T.n : Int), .slice X.A T.A.length X.ca, .slice X.E T.E.length X.ce, .slice X.M T.M.length X.cm], _, _] _ _
  rw [hn]
  rw [hn] at hm
  have hnl : (n : Int) ≤ 1000 := by omega
  have HNL := Lib.hid hm
  obtain ⟨w0, hw0⟩ : ∃ w0, ((w.alloc (.cells #[.int .i64 (T.n : Int), .slice X.A T.A.length X.ca, .slice X.E n X.ce, .slice X.M T.M.length X.cm] 34)).alloc (.cells #[.int .i64 0, .slice none 0 0, .slice none 0 0, .slice none 0 0] 34)) = w0 := ⟨_, rfl⟩
  have HB0 : Hid (Below w.heap.size w w0) := Lib.hid (by rw [← hw0]; exact ((Below.refl _ _).alloc (Nat.le_refl _) _).alloc (by simp) _)
  have HK0 : Hid (Blk w0 w.heap.size 34 #[.int .i64 (T.n : Int), .slice X.A T.A.length X.ca, .slice X.E n X.ce, .slice X.M T.M.length X.cm]) := Lib.hid (by rw [← hw0]; exact (Blk.new _ _ _).alloc _)
  have HR0 : Hid (Blk w0 (w.heap.size + 1) 34 #[.int .i64 0, .slice none 0 0, .slice none 0 0, .slice none 0 0]) := Lib.hid (by
    have := Blk.new (w.alloc (.cells #[.int .i64 (T.n : Int), .slice X.A T.A.length X.ca, .slice X.E n X.ce, .slice X.M T.M.length X.cm] 34)) 34 #[.int .i64 0, .slice none 0 0, .slice none 0 0, .slice none 0 0]
    rw [← hw0]
    simpa using this)
  have HT0 : Hid (TbD w0 T X) := Lib.hid (hT.next HB0.out)
  have HTW := Lib.hid hT
  obtain ⟨i0, hi⟩ := info_parts infoMp
  have HIT := Lib.hid hi
  clear hT hn hm hi
  go_enter Try.func25, Try.ntmps25
  go_wp2
  try rw [hw0]
  clear hw0
  go_loopw [8, 9] (fun l i wr => ∃ k : Nat, k ≤ n ∧ i = .int .i64 k ∧ Hid (wr.ownsRow w0.heap.size 39 4 l ((T.E.take k).filter (keepE p v)).length (((T.E.take k).filter (keepE p v)).flatMap mpE)) ∧ Hid (Below w0.heap.size w0 wr)) (fun _ i _ => n - (intOf i).toNat)
  case atStart => exact ⟨0, Nat.zero_le _, rfl, Lib.hid (by simp only [List.take_zero, List.filter_nil]; exact World.ownsRow_nil _ _ _ _), Lib.hid (Below.refl _ _)⟩
  case round =>
    obtain ⟨k, hk, rfl, HO, HB⟩ := hrel
    have HKw := Lib.hid (HK0.out.below HB.out HK0.out.lt)
    have kk3 := HKw.out.cell 2
    simp only [List.getElem?_toArray, List.getElem?_cons_succ, List.getElem?_cons_zero] at  kk3
    by_cases hlt : k < n
    · obtain ⟨x, hx⟩ : ∃ x, T.E[k]? = some x := ⟨_, List.getElem?_eq_getElem (by rw [HN.out]; exact hlt)⟩
      have hki : (k : Int) < n := by omega
      obtain ⟨b, off, hA, hb, c0, c1, c2, c3⟩ := mp_at (HT0.out.ee.next HB.out) hx
      rw [hA] at kk3
      have HF := Lib.hid (take_filter16 (p := keepE p v) hx)
      have HLT := Lib.hid hlt
      obtain ⟨m, hm⟩ : ∃ m, (T.E.take k).filter (keepE p v) = m := ⟨_, rfl⟩
      have hml : m.length ≤ 1000 := by rw [← hm]; have := List.length_filter_le (keepE p v) (T.E.take k); rw [List.length_take] at this; have := HNL.out; omega
      rw [hm] at HO HF
      have HML := Lib.hid hml
      clear hx hb hlt hm hml hA
      by_cases e12 : x.a = p ∧ x.m = v
      · have q1 : (x.a != p) = false := by rw [e12.1]; simp
        have q2 : ((x.m.toNat : Int) != (v.toNat : Int)) = false := by rw [e12.2]; simp
        have HO1 : Hid (wr.ownsRow w0.heap.size 39 4 _ ((T.E.take (k + 1)).filter (keepE p v)).length (((T.E.take (k + 1)).filter (keepE p v)).flatMap mpE)) := Lib.hid (by
          rw [HF.out, show keepE p v x = false by unfold keepE; simp [e12.1, e12.2]]
          simpa using HO.out)
        clear e12
        go_wp2
        go_roundw
        case rel => exact ⟨k + 1, by have := HLT.out; omega, by go_num, HO1, HB⟩
        case measure => have := HLT.out; simp [intOf]; omega
      · have hq : (x.a != p) = true ∨ ((x.a != p) = false ∧ ((x.m.toNat : Int) != (v.toNat : Int)) = true) := by
          by_cases e1 : x.a = p
          · right
            refine ⟨by rw [e1]; simp, ?_⟩
            rw [bne_iff_ne]
            intro h
            exact e12 ⟨e1, UInt16.toNat_inj.1 (by omega)⟩
          · left
            rw [bne_iff_ne]
            intro h
            exact e1 h
        have HF2 : Hid ((T.E.take (k + 1)).filter (keepE p v) = m ++ [x]) := Lib.hid (by
          rw [HF.out, show keepE p v x = true by
            unfold keepE
            simp only [Bool.not_eq_true', Bool.and_eq_false_iff, beq_eq_false_iff_ne, decide_eq_false_iff_not]
            by_cases e1 : x.a = p
            · exact .inr (fun h => e12 ⟨e1, h⟩)
            · exact .inl e1]
          simp)
        clear e12
        rcases hq with q1 | ⟨q1, q2⟩
        all_goals (
          go_wp2_with (at_builtin; refine wpl_appL rfl (.tmp 35) (.tmp 41) _ rfl mpE_len mpE_one (by decide) w0.heap.size _ i0 _ 16 Try.underlying31 HIT.out rfl _ m rfl (World.ownsRow.alloc HO.out _) (some ⟨wr.heap.size, 0, none⟩) 1 1 [x] rfl rfl (fun e => by cases e) (els_one16 wr _ x _ rfl) (by have := HML.out; simp; omega) (by decide) (by have := HB.out.size; simp; omega) ?_)
          intro v5 w5 ho5 hg5 _
          have HO5 : Hid (w5.ownsRow w0.heap.size 39 4 v5 ((T.E.take (k + 1)).filter (keepE p v)).length (((T.E.take (k + 1)).filter (keepE p v)).flatMap mpE)) := Lib.hid (by rw [HF2.out]; simpa using ho5)
          have HB5 : Hid (Below w0.heap.size w0 w5) := Lib.hid ((HB.out.alloc HB.out.size _).grown hg5 (by have := HB.out.size; simp; omega) (fun j hj => (HO.out.lt j hj).1))
          clear ho5 hg5
          go_wp2
          go_roundw
          case rel => exact ⟨k + 1, by have := HLT.out; omega, by go_num, HO5, HB5⟩
          case measure => have := HLT.out; simp [intOf]; omega)
    · obtain rfl : k = n := by omega
      have HRw := Lib.hid (HR0.out.below HB.out HR0.out.lt)
      rw [List.take_of_length_le (by rw [HN.out]; exact Nat.le_refl _)] at HO
      obtain ⟨A5, c5, rfl, hE5, _, hz5, hA5⟩ := own_fullL mpE_len HO.out
      obtain ⟨m5, hm5⟩ : ∃ m, (T.E.filter (keepE p v)).length = m := ⟨_, rfl⟩
      have HM5 := Lib.hid hm5
      have HE5 := Lib.hid (And.intro hE5 (And.intro hz5 hA5))
      rw [hm5]
      have k0 := HKw.out.cell 0
      have k1 := HKw.out.cell 1
      have k2 := HKw.out.cell 3
      simp only [List.getElem?_toArray, List.getElem?_cons_succ, List.getElem?_cons_zero] at  k0 k1 k2
      have HBW : Hid (Below w.heap.size w wr) := Lib.hid (HB0.out.trans (HB.out.mono HB0.out.size))
      by_cases hall : T.E.all (keepE p v) = true
      · have q : ((m5 : Int) == (k : Int)) = true := by
          rw [beq_iff_eq, ← hm5, List.filter_eq_self.2 (fun y hy => List.all_eq_true.1 hall y hy), HN.out]
        have HD : Hid (T.dropE p v = (T, 7)) := Lib.hid (by unfold Tb.dropE; rw [if_pos hall])
        clear hall hm5 hE5 hz5 hA5 hlt hk HO
        go_wp2_with (refine wpList_store_row rfl 34 (.tmp 6) (.tmp 49) rfl (w.heap.size + 1) rfl _ rfl 34 _ HRw.out (by kernel_rfl) rfl (by kernel_rfl) ?_)
        refine bodyPost_ret (v := .tuple #[.agg #[.int .i64 (T.n : Int), .slice X.A T.A.length X.ca, .slice X.E k X.ce, .slice X.M T.M.length X.cm], .int .i64 7]) (results_cell_slot (p := 6) (q := 7) (by kernel_rfl) _ _ (w.heap.size + 1) 34 _ _ rfl (Blk.row HRw.out _) Try.underlying34 rfl (by kernel_rfl) _ rfl) rfl ?_
        rw [HD.out]
        exact ⟨X, by rw [← HN.out]; rfl, HTW.out.next (below_row HBW.out (by omega) _), below_row HBW.out (by omega) _⟩
      · have hlt5 : m5 < k := by
          rw [← hm5, ← HN.out]
          refine List.length_filter_lt_length_iff_exists.2 ?_
          by_cases hh : ∃ y ∈ T.E, keepE p v y ≠ true
          · exact hh
          · refine absurd (List.all_eq_true.2 (fun y hy => ?_)) hall
            cases hq : keepE p v y
            · exact absurd ⟨y, hy, by rw [hq]; decide⟩ hh
            · rfl
        have q : ((m5 : Int) == (k : Int)) = false := by rw [beq_eq_false_iff_ne]; omega
        have HD : Hid (T.dropE p v = ({ T with E := T.E.filter (keepE p v) }, 0)) := Lib.hid (by unfold Tb.dropE; rw [if_neg hall])
        have f3 := HKw.out.frozen 2
        have HKs : Hid (Blk (wr.setCell ⟨w.heap.size, 2, none⟩ (.slice A5 m5 c5)) w.heap.size 34 #[.int .i64 (T.n : Int), .slice X.A T.A.length X.ca, .slice A5 m5 c5, .slice X.M T.M.length X.cm]) := Lib.hid (by
          have := HKw.out.put 2 (.slice A5 m5 c5)
          simpa using this)
        have HRs : Hid (Blk (wr.setCell ⟨w.heap.size, 2, none⟩ (.slice A5 m5 c5)) (w.heap.size + 1) 34 #[.int .i64 0, .slice none 0 0, .slice none 0 0, .slice none 0 0]) := Lib.hid (HRw.out.far (p := ⟨w.heap.size, 2, none⟩) (by show w.heap.size + 1 ≠ w.heap.size; omega) _)
        have HBs : Hid (Below w.heap.size w (wr.setCell ⟨w.heap.size, 2, none⟩ (.slice A5 m5 c5))) := Lib.hid (HBW.out.setCell (p := ⟨w.heap.size, 2, none⟩) (Nat.le_refl _) _)
        have HC : Hid (∀ cs, Chg (fun j => j = w.heap.size ∨ j = w.heap.size + 1) wr ((wr.setCell ⟨w.heap.size, 2, none⟩ (.slice A5 m5 c5)).setRow (w.heap.size + 1) cs)) := Lib.hid (fun cs => ((Chg.refl _ _).setCell (p := ⟨w.heap.size, 2, none⟩) (.inr (.inl rfl)) _).setRow (.inr (.inr rfl)) _)
        have hw2 : w.heap.size + 2 ≤ w0.heap.size := by have := HR0.out.lt; omega
        have HW2 := Lib.hid hw2
        have s0 := HKs.out.cell 0
        have s1 := HKs.out.cell 1
        have s2 := HKs.out.cell 2
        have s3 := HKs.out.cell 3
        simp only [List.getElem?_toArray, List.getElem?_cons_succ, List.getElem?_cons_zero] at  s0 s1 s2 s3
        clear hall hm5 hE5 hz5 hA5 hlt hk HO hlt5 hw2
        go_wp2_with (refine wpList_store_row rfl 34 (.tmp 6) (.tmp 52) rfl (w.heap.size + 1) rfl _ rfl 34 _ HRs.out (by kernel_rfl) rfl (by kernel_rfl) ?_)
        refine bodyPost_ret (v := .tuple #[.agg #[.int .i64 (T.n : Int), .slice X.A T.A.length X.ca, .slice A5 m5 c5, .slice X.M T.M.length X.cm], .int .i64 0]) (results_cell_slot (p := 6) (q := 7) (by kernel_rfl) _ _ (w.heap.size + 1) 34 _ _ rfl (Blk.row HRs.out _) Try.underlying34 rfl (by kernel_rfl) _ rfl) rfl ?_
        rw [HD.out]
        refine ⟨{ X with E := A5, ce := c5 }, by rw [← HM5.out]; rfl, ?_, below_row HBs.out (by omega) _⟩
        have h := HTW.out.next (below_row (g := w.heap.size + 1) HBs.out (by omega) #[.int .i64 (T.n : Int), .slice X.A T.A.length X.ca, .slice A5 m5 c5, .slice X.M T.M.length X.cm])
        exact ⟨h.la, h.ea, h.em, elsL_chg HE5.out.1 (HC.out _) (fun a ha hh => by have := (HE5.out.2.2 a ha).1; have := HW2.out; rcases hh with hh | hh <;> omega), h.mm, h.za, HE5.out.2.1, h.zm⟩
end Go.Proofs.Ytfdiolfelecccaa
