/- Layer 16: the document's DropMip. -/
import Derived.Test.YtfdiolfelecccaaZzRt16
import Derived.Test.YtfdiolfelecccaaZz
namespace Go.Proofs.Ytfdiolfelecccaa
open Go.RowKit
set_option linter.unusedVariables false
set_option linter.unusedSimpArgs false
set_option maxRecDepth 100000

theorem infoMi : (Try.prog.info? 41).map (fun i => (i.zero, i.size, i.bytes)) = some (some (.agg #[.int .u8 0, .int .u16 0, .int .u8 0]), 3, 6) := by kernel_rfl
theorem miE_len (x : Mi) : (miE x).length = 3 := rfl
theorem miE_one (x : Mi) : ∀ u ∈ miE x, u.oneCell' = true := by
  intro u hu
  simp only [miE, List.mem_cons, List.not_mem_nil, or_false] at hu
  rcases hu with rfl | rfl | rfl <;> rfl
theorem els_one16 {α : Type} {k : Nat} {en : α → List Value} (w : World) (t : TypeId) (x : α) (cs : Array Value) (h : cs = (en x).toArray) : Els k en (w.alloc (.cells cs t)) (some ⟨w.heap.size, 0, none⟩) [x] := by
  subst h
  intro _
  refine ⟨_, 0, rfl, by simp, fun i hi j v hv => ?_⟩
  obtain rfl : i = 0 := by simpa using hi
  have := (Blk.new w t (en x).toArray).cell j
  rw [show 0 + 0 * k + j = j by omega, this]
  simpa using hv
theorem take_filter16 {α : Type} {p : α → Bool} {l : List α} {k : Nat} {x : α} (hx : l[k]? = some x) : (l.take (k + 1)).filter p = (l.take k).filter p ++ (if p x then [x] else []) := by
  obtain ⟨hk, he⟩ := List.getElem?_eq_some_iff.1 hx
  rw [List.take_succ_eq_append_getElem hk, he, List.filter_append]
  congr 1
  cases hpx : p x <;> simp [List.filter_cons, hpx]
set_option maxHeartbeats 8000000 in
theorem refdropm16_any (T : Tb) (X : TbX) (p : UInt8) (v : UInt16) (w : World) (hT : TbD w T X) (hm : T.M.length ≤ 1000) :
    Calls Try.prog 27 #[.agg (TbC T X), .int .u8 p.toNat, .int .u16 v.toNat] w fun e w' => ∃ X', e = .returned (.tuple #[.agg (TbC (T.dropM p v).1 X'), .int .i64 ((T.dropM p v).2 : Nat)]) ∧ TbD w' (T.dropM p v).1 X' ∧ Below w.heap.size w w' := by
  obtain ⟨n, hn⟩ : ∃ n, T.M.length = n := ⟨_, rfl⟩
  have HN := Lib.hid hn
  show Calls _ _ #[.agg #[.int .i64 (T.n : Int), .slice X.A T.A.length X.ca, .slice X.E T.E.length X.ce, .slice X.M T.M.length X.cm], _, _] _ _
  rw [hn]
  rw [hn] at hm
  have hnl : (n : Int) ≤ 1000 := by omega
  have HNL := Lib.hid hm
  obtain ⟨w0, hw0⟩ : ∃ w0, ((w.alloc (.cells #[.int .i64 (T.n : Int), .slice X.A T.A.length X.ca, .slice X.E T.E.length X.ce, .slice X.M n X.cm] 34)).alloc (.cells #[.int .i64 0, .slice none 0 0, .slice none 0 0, .slice none 0 0] 34)) = w0 := ⟨_, rfl⟩
  have HB0 : Hid (Below w.heap.size w w0) := Lib.hid (by rw [← hw0]; exact ((Below.refl _ _).alloc (Nat.le_refl _) _).alloc (by simp) _)
  have HK0 : Hid (Blk w0 w.heap.size 34 #[.int .i64 (T.n : Int), .slice X.A T.A.length X.ca, .slice X.E T.E.length X.ce, .slice X.M n X.cm]) := Lib.hid (by rw [← hw0]; exact (Blk.new _ _ _).alloc _)
  have HR0 : Hid (Blk w0 (w.heap.size + 1) 34 #[.int .i64 0, .slice none 0 0, .slice none 0 0, .slice none 0 0]) := Lib.hid (by
    have := Blk.new (w.alloc (.cells #[.int .i64 (T.n : Int), .slice X.A T.A.length X.ca, .slice X.E T.E.length X.ce, .slice X.M n X.cm] 34)) 34 #[.int .i64 0, .slice none 0 0, .slice none 0 0, .slice none 0 0]
    rw [← hw0]
    simpa using this)
  have HT0 : Hid (TbD w0 T X) := Lib.hid (hT.next HB0.out)
  have HTW := Lib.hid hT
  obtain ⟨i0, hi⟩ := info_parts infoMi
  have HIT := Lib.hid hi
  clear hT hn hm hi
  go_enter Try.func27, Try.ntmps27
  go_wp2
  try rw [hw0]
  clear hw0
  go_loopw [8, 9] (fun l i wr => ∃ k : Nat, k ≤ n ∧ i = .int .i64 k ∧ Hid (wr.ownsRow w0.heap.size 41 3 l ((T.M.take k).filter (keepM p v)).length (((T.M.take k).filter (keepM p v)).flatMap miE)) ∧ Hid (Below w0.heap.size w0 wr)) (fun _ i _ => n - (intOf i).toNat)
  case atStart => exact ⟨0, Nat.zero_le _, rfl, Lib.hid (by simp only [List.take_zero, List.filter_nil]; exact World.ownsRow_nil _ _ _ _), Lib.hid (Below.refl _ _)⟩
  case round =>
    obtain ⟨k, hk, rfl, HO, HB⟩ := hrel
    have HKw := Lib.hid (HK0.out.below HB.out HK0.out.lt)
    have k3 := HKw.out.cell 3
    simp only [List.getElem?_toArray, List.getElem?_cons_succ, List.getElem?_cons_zero] at  k3
    by_cases hlt : k < n
    · obtain ⟨x, hx⟩ : ∃ x, T.M[k]? = some x := ⟨_, List.getElem?_eq_getElem (by rw [HN.out]; exact hlt)⟩
      have hki : (k : Int) < n := by omega
      obtain ⟨b, off, hA, hb, c0, c1, c2⟩ := mi_at (HT0.out.mm.next HB.out) hx
      rw [hA] at k3
      have HF := Lib.hid (take_filter16 (p := keepM p v) hx)
      have HLT := Lib.hid hlt
      obtain ⟨m, hm⟩ : ∃ m, (T.M.take k).filter (keepM p v) = m := ⟨_, rfl⟩
      have hml : m.length ≤ 1000 := by rw [← hm]; have := List.length_filter_le (keepM p v) (T.M.take k); rw [List.length_take] at this; have := HNL.out; omega
      rw [hm] at HO HF
      have HML := Lib.hid hml
      clear hx hb hlt hm hml hA
      by_cases e12 : x.p = p ∧ x.v = v
      · have q1 : ((x.p.toNat : Int) != (p.toNat : Int)) = false := by rw [e12.1]; simp
        have q2 : ((x.v.toNat : Int) != (v.toNat : Int)) = false := by rw [e12.2]; simp
        have HO1 : Hid (wr.ownsRow w0.heap.size 41 3 _ ((T.M.take (k + 1)).filter (keepM p v)).length (((T.M.take (k + 1)).filter (keepM p v)).flatMap miE)) := Lib.hid (by
          rw [HF.out, show keepM p v x = false by unfold keepM; simp [e12.1, e12.2]]
          simpa using HO.out)
        clear e12
        go_wp2
        go_roundw
        case rel => exact ⟨k + 1, by have := HLT.out; omega, by go_num, HO1, HB⟩
        case measure => have := HLT.out; simp [intOf]; omega
      · have hq : ((x.p.toNat : Int) != (p.toNat : Int)) = true ∨ (((x.p.toNat : Int) != (p.toNat : Int)) = false ∧ ((x.v.toNat : Int) != (v.toNat : Int)) = true) := by
          by_cases e1 : x.p = p
          · right
            refine ⟨by rw [e1]; simp, ?_⟩
            rw [bne_iff_ne]
            intro h
            exact e12 ⟨e1, UInt16.toNat_inj.1 (by omega)⟩
          · left
            rw [bne_iff_ne]
            intro h
            exact e1 (UInt8.toNat_inj.1 (by omega))
        have HF2 : Hid ((T.M.take (k + 1)).filter (keepM p v) = m ++ [x]) := Lib.hid (by
          rw [HF.out, show keepM p v x = true by
            unfold keepM
            simp only [Bool.not_eq_true', Bool.and_eq_false_iff, beq_eq_false_iff_ne]
            by_cases e1 : x.p = p
            · exact .inr (fun h => e12 ⟨e1, h⟩)
            · exact .inl e1]
          simp)
        clear e12
        rcases hq with q1 | ⟨q1, q2⟩
        all_goals (
          go_wp2_with (at_builtin; refine wpl_appL rfl (.tmp 35) (.tmp 41) _ rfl miE_len miE_one (by decide) w0.heap.size _ i0 _ 6 Try.underlying32 HIT.out rfl _ m rfl (World.ownsRow.alloc HO.out _) (some ⟨wr.heap.size, 0, none⟩) 1 1 [x] rfl rfl (fun e => by cases e) (els_one16 wr _ x _ rfl) (by have := HML.out; simp; omega) (by decide) (by have := HB.out.size; simp; omega) ?_)
          intro v5 w5 ho5 hg5 _
          have HO5 : Hid (w5.ownsRow w0.heap.size 41 3 v5 ((T.M.take (k + 1)).filter (keepM p v)).length (((T.M.take (k + 1)).filter (keepM p v)).flatMap miE)) := Lib.hid (by rw [HF2.out]; simpa using ho5)
          have HB5 : Hid (Below w0.heap.size w0 w5) := Lib.hid ((HB.out.alloc HB.out.size _).grown hg5 (by have := HB.out.size; simp; omega) (fun j hj => (HO.out.lt j hj).1))
          clear ho5 hg5
          go_wp2
          go_roundw
          case rel => exact ⟨k + 1, by have := HLT.out; omega, by go_num, HO5, HB5⟩
          case measure => have := HLT.out; simp [intOf]; omega)
    · obtain rfl : k = n := by omega
      have HRw := Lib.hid (HR0.out.below HB.out HR0.out.lt)
      rw [List.take_of_length_le (by rw [HN.out]; exact Nat.le_refl _)] at HO
      obtain ⟨A5, c5, rfl, hE5, _, hz5, hA5⟩ := own_fullL miE_len HO.out
      obtain ⟨m5, hm5⟩ : ∃ m, (T.M.filter (keepM p v)).length = m := ⟨_, rfl⟩
      have HM5 := Lib.hid hm5
      have HE5 := Lib.hid (And.intro hE5 (And.intro hz5 hA5))
      rw [hm5]
      have k0 := HKw.out.cell 0
      have k1 := HKw.out.cell 1
      have k2 := HKw.out.cell 2
      simp only [List.getElem?_toArray, List.getElem?_cons_succ, List.getElem?_cons_zero] at  k0 k1 k2
      have HBW : Hid (Below w.heap.size w wr) := Lib.hid (HB0.out.trans (HB.out.mono HB0.out.size))
      by_cases hall : T.M.all (keepM p v) = true
      · have q : ((m5 : Int) == (k : Int)) = true := by
          rw [beq_iff_eq, ← hm5, List.filter_eq_self.2 (fun y hy => List.all_eq_true.1 hall y hy), HN.out]
        have HD : Hid (T.dropM p v = (T, 7)) := Lib.hid (by unfold Tb.dropM; rw [if_pos hall])
        clear hall hm5 hE5 hz5 hA5 hlt hk HO
        go_wp2_with (refine wpList_store_row rfl 34 (.tmp 6) (.tmp 49) rfl (w.heap.size + 1) rfl _ rfl 34 _ HRw.out (by kernel_rfl) rfl (by kernel_rfl) ?_)
        refine bodyPost_ret (v := .tuple #[.agg #[.int .i64 (T.n : Int), .slice X.A T.A.length X.ca, .slice X.E T.E.length X.ce, .slice X.M k X.cm], .int .i64 7]) (results_cell_slot (p := 6) (q := 7) (by kernel_rfl) _ _ (w.heap.size + 1) 34 _ _ rfl (Blk.row HRw.out _) Try.underlying34 rfl (by kernel_rfl) _ rfl) rfl ?_
        rw [HD.out]
        exact ⟨X, by rw [← HN.out]; rfl, HTW.out.next (below_row HBW.out (by omega) _), below_row HBW.out (by omega) _⟩
      · have hlt5 : m5 < k := by
          rw [← hm5, ← HN.out]
          refine List.length_filter_lt_length_iff_exists.2 ?_
          by_cases hh : ∃ y ∈ T.M, keepM p v y ≠ true
          · exact hh
          · refine absurd (List.all_eq_true.2 (fun y hy => ?_)) hall
            cases hq : keepM p v y
            · exact absurd ⟨y, hy, by rw [hq]; decide⟩ hh
            · rfl
        have q : ((m5 : Int) == (k : Int)) = false := by rw [beq_eq_false_iff_ne]; omega
        have HD : Hid (T.dropM p v = ({ T with M := T.M.filter (keepM p v) }, 0)) := Lib.hid (by unfold Tb.dropM; rw [if_neg hall])
        have f3 := HKw.out.frozen 3
        have HKs : Hid (Blk (wr.setCell ⟨w.heap.size, 3, none⟩ (.slice A5 m5 c5)) w.heap.size 34 #[.int .i64 (T.n : Int), .slice X.A T.A.length X.ca, .slice X.E T.E.length X.ce, .slice A5 m5 c5]) := Lib.hid (by
          have := HKw.out.put 3 (.slice A5 m5 c5)
          simpa using this)
        have HRs : Hid (Blk (wr.setCell ⟨w.heap.size, 3, none⟩ (.slice A5 m5 c5)) (w.heap.size + 1) 34 #[.int .i64 0, .slice none 0 0, .slice none 0 0, .slice none 0 0]) := Lib.hid (HRw.out.far (p := ⟨w.heap.size, 3, none⟩) (by show w.heap.size + 1 ≠ w.heap.size; omega) _)
        have HBs : Hid (Below w.heap.size w (wr.setCell ⟨w.heap.size, 3, none⟩ (.slice A5 m5 c5))) := Lib.hid (HBW.out.setCell (p := ⟨w.heap.size, 3, none⟩) (Nat.le_refl _) _)
        have HC : Hid (∀ cs, Chg (fun j => j = w.heap.size ∨ j = w.heap.size + 1) wr ((wr.setCell ⟨w.heap.size, 3, none⟩ (.slice A5 m5 c5)).setRow (w.heap.size + 1) cs)) := Lib.hid (fun cs => ((Chg.refl _ _).setCell (p := ⟨w.heap.size, 3, none⟩) (.inr (.inl rfl)) _).setRow (.inr (.inr rfl)) _)
        have hw2 : w.heap.size + 2 ≤ w0.heap.size := by have := HR0.out.lt; omega
        have HW2 := Lib.hid hw2
        have s0 := HKs.out.cell 0
        have s1 := HKs.out.cell 1
        have s2 := HKs.out.cell 2
        have s3 := HKs.out.cell 3
        simp only [List.getElem?_toArray, List.getElem?_cons_succ, List.getElem?_cons_zero] at  s0 s1 s2 s3
        clear hall hm5 hE5 hz5 hA5 hlt hk HO hlt5 hw2
        go_wp2_with (refine wpList_store_row rfl 34 (.tmp 6) (.tmp 52) rfl (w.heap.size + 1) rfl _ rfl 34 _ HRs.out (by kernel_rfl) rfl (by kernel_rfl) ?_)
        refine bodyPost_ret (v := .tuple #[.agg #[.int .i64 (T.n : Int), .slice X.A T.A.length X.ca, .slice X.E T.E.length X.ce, .slice A5 m5 c5], .int .i64 0]) (results_cell_slot (p := 6) (q := 7) (by kernel_rfl) _ _ (w.heap.size + 1) 34 _ _ rfl (Blk.row HRs.out _) Try.underlying34 rfl (by kernel_rfl) _ rfl) rfl ?_
        rw [HD.out]
        refine ⟨{ X with M := A5, cm := c5 }, by rw [← HM5.out]; rfl, ?_, below_row HBs.out (by omega) _⟩
        have h := HTW.out.next (below_row (g := w.heap.size + 1) HBs.out (by omega) #[.int .i64 (T.n : Int), .slice X.A T.A.length X.ca, .slice X.E T.E.length X.ce, .slice A5 m5 c5])
        exact ⟨h.la, h.ea, h.em, h.ee, elsL_chg HE5.out.1 (HC.out _) (fun a ha hh => by have := (HE5.out.2.2 a ha).1; have := HW2.out; rcases hh with hh | hh <;> omega), h.za, h.ze, HE5.out.2.1⟩
end Go.Proofs.Ytfdiolfelecccaa
