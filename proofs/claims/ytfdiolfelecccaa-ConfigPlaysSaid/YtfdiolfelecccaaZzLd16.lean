/- Layer 16: the document's drops and AddMip, and where the rows lie. -/
import Derived.Test.YtfdiolfelecccaaZzAm16
namespace Go.Proofs.Ytfdiolfelecccaa
open Go.RowKit
set_option linter.unusedVariables false
set_option linter.unusedSimpArgs false
set_option maxRecDepth 100000

/-- where the rows of a table lie that came out of another one -/
def XTo (B H : Nat) (x0 : AsX) (X X' : TbX) : Prop := (X'.A = X.A ∨ ∀ a, X'.A = some a → B ≤ a.block ∧ a.block < H) ∧ (X'.E = X.E ∨ ∀ a, X'.E = some a → B ≤ a.block ∧ a.block < H) ∧ (X'.M = X.M ∨ ∀ a, X'.M = some a → B ≤ a.block ∧ a.block < H) ∧ ∀ x ∈ X'.LA, x ∈ X.LA ∨ x = x0
theorem XTo.refl (B H : Nat) (x0 : AsX) (X : TbX) : XTo B H x0 X X := ⟨.inl rfl, .inl rfl, .inl rfl, fun x hx => .inl hx⟩
theorem XTo.mono {B B' H H' : Nat} {x0 : AsX} {X X' : TbX} (h : XTo B H x0 X X') (hb : B' ≤ B) (hh : H ≤ H') : XTo B' H' x0 X X' :=
  ⟨h.1.imp id (fun h a ha => ⟨Nat.le_trans hb (h a ha).1, Nat.lt_of_lt_of_le (h a ha).2 hh⟩), h.2.1.imp id (fun h a ha => ⟨Nat.le_trans hb (h a ha).1, Nat.lt_of_lt_of_le (h a ha).2 hh⟩), h.2.2.1.imp id (fun h a ha => ⟨Nat.le_trans hb (h a ha).1, Nat.lt_of_lt_of_le (h a ha).2 hh⟩), h.2.2.2⟩
set_option maxHeartbeats 8000000 in
theorem refdropm16_loc (T : Tb) (X : TbX) (p : UInt8) (v : UInt16) (w : World) (hT : TbD w T X) (hm : T.M.length ≤ 1000) :
    Calls Try.prog 27 #[.agg (TbC T X), .int .u8 p.toNat, .int .u16 v.toNat] w fun e w' => ∃ X', e = .returned (.tuple #[.agg (TbC (T.dropM p v).1 X'), .int .i64 ((T.dropM p v).2 : Nat)]) ∧ TbD w' (T.dropM p v).1 X' ∧ Below w.heap.size w w' ∧ (∀ x0, XTo w.heap.size w'.heap.size x0 X X') := by
  obtain ⟨n, hn⟩ : ∃ n, T.M.length = n := ⟨_, rfl⟩
  have HN := Lib.hid hn
  show Calls _ _ #[.agg #[.int .i64 (T.n : Int), .slice X.A T.A.length X.ca, .slice X.E T.E.length X.ce, .slice X.M T.M.length X.cm], _, _] _ _
  rw [hn]
  rw [hn] at hm
  have hnl : (n : Int) ≤ 1000 := by omega
  have HNL := Lib.hid hm
  obtain ⟨w0, hw0⟩ : ∃ w0, ((w.alloc (.cells #[.int .i64 (T.n : Int), .slice X.A T.A.length X.ca, .slice X.E T.E.length X.ce, .slice X.M n X.cm] 34)).alloc (.cells #[.int .i64 0, .slice none 0 0, .slice none 0 0, .slice none 0 0] 34)) = w0 := ⟨_, rfl⟩
  have HB0 : Hid (Below w.heap.size w w0) := Lib.hid (by rw [← hw0]; exact ((Below.refl _ _).alloc (Nat.le_refl _) _).alloc (by simp) _)
  have HK0 : Hid (Blk w0 w.heap.size 34 #[.int .i64 (T.n : Int), .slice X.A T.A.length X.ca, .slice X.E T.E.length X.ce, .slice X.M n X.cm]) := Lib.hid (by rw [← hw0]; exact (Blk.new _ _ _).alloc _)
  have HR0 : Hid (Blk w0 (w.heap.size + 1) 34 #[.int .i64 0, .slice none 0 0, .slice none 0 0, .slice none 0 0]) := Lib.hid (by
    have := Blk.new (w.alloc (.cells #[.int .i64 (T.n : Int), .slice X.A T.A.length X.ca, .slice X.E T.E.length X.ce, .slice X.M n X.cm] 34)) 34 #[.int .i64 0, .slice none 0 0, .slice none 0 0, .slice none 0 0]
    rw [← hw0]
    simpa using this)
  have HT0 : Hid (TbD w0 T X) := Lib.hid (hT.next HB0.out)
  have HTW := Lib.hid hT
  obtain ⟨i0, hi⟩ := info_parts infoMi
  have HIT := Lib.hid hi
  clear hT hn hm hi
  go_enter Try.func27, Try.ntmps27
  go_wp2
  try rw [hw0]
  clear hw0
  go_loopw [8, 9] (fun l i wr => ∃ k : Nat, k ≤ n ∧ i = .int .i64 k ∧ Hid (wr.ownsRow w0.heap.size 41 3 l ((T.M.take k).filter (keepM p v)).length (((T.M.take k).filter (keepM p v)).flatMap miE)) ∧ Hid (Below w0.heap.size w0 wr)) (fun _ i _ => n - (intOf i).toNat)
  case atStart => exact ⟨0, Nat.zero_le _, rfl, Lib.hid (by simp only [List.take_zero, List.filter_nil]; exact World.ownsRow_nil _ _ _ _), Lib.hid (Below.refl _ _)⟩
  case round =>
    obtain ⟨k, hk, rfl, HO, HB⟩ := hrel
    have HKw := Lib.hid (HK0.out.below HB.out HK0.out.lt)
    have k3 := HKw.out.cell 3
    simp only [List.getElem?_toArray, List.getElem?_cons_succ, List.getElem?_cons_zero] at  k3
    by_cases hlt : k < n
    · obtain ⟨x, hx⟩ : ∃ x, T.M[k]? = some x := ⟨_, List.getElem?_eq_getElem (by rw [HN.out]; exact hlt)⟩
      have hki : (k : Int) < n := by omega
      obtain ⟨b, off, hA, hb, c0, c1, c2⟩ := mi_at (HT0.out.mm.next HB.out) hx
      rw [hA] at k3
      have HF := Lib.hid (take_filter16 (p := keepM p v) hx)
      have HLT := Lib.hid hlt
      obtain ⟨m, hm⟩ : ∃ m, (T.M.take k).filter (keepM p v) = m := ⟨_, rfl⟩
      have hml : m.length ≤ 1000 := by rw [← hm]; have := List.length_filter_le (keepM p v) (T.M.take k); rw [List.length_take] at this; have := HNL.out; omega
      rw [hm] at HO HF
      have HML := Lib.hid hml
      clear hx hb hlt hm hml hA
      by_cases e12 : x.p = p ∧ x.v = v
      · have q1 : ((x.p.toNat : Int) != (p.toNat : Int)) = false := by rw [e12.1]; simp
        have q2 : ((x.v.toNat : Int) != (v.toNat : Int)) = false := by rw [e12.2]; simp
        have HO1 : Hid (wr.ownsRow w0.heap.size 41 3 _ ((T.M.take (k + 1)).filter (keepM p v)).length (((T.M.take (k + 1)).filter (keepM p v)).flatMap miE)) := Lib.hid (by
          rw [HF.out, show keepM p v x = false by unfold keepM; simp [e12.1, e12.2]]
          simpa using HO.out)
        clear e12
        go_wp2
        go_roundw
        case rel => exact ⟨k + 1, by have := HLT.out; omega, by go_num, HO1, HB⟩
        case measure => have := HLT.out; simp [intOf]; omega
      · have hq : ((x.p.toNat : Int) != (p.toNat : Int)) = true ∨ (((x.p.toNat : Int) != (p.toNat : Int)) = false ∧ ((x.v.toNat : Int) != (v.toNat : Int)) = true) := by
          by_cases e1 : x.p = p
          · right
            refine ⟨by rw [e1]; simp, ?_⟩
            rw [bne_iff_ne]
            intro h
            exact e12 ⟨e1, UInt16.toNat_inj.1 (by omega)⟩
          · left
            rw [bne_iff_ne]
            intro h
            exact e1 (UInt8.toNat_inj.1 (by omega))
        have HF2 : Hid ((T.M.take (k + 1)).filter (keepM p v) = m ++ [x]) := Lib.hid (by
          rw [HF.out, show keepM p v x = true by
            unfold keepM
            simp only [Bool.not_eq_true', Bool.and_eq_false_iff, beq_eq_false_iff_ne]
            by_cases e1 : x.p = p
            · exact .inr (fun h => e12 ⟨e1, h⟩)
            · exact .inl e1]
          simp)
        clear e12
        rcases hq with q1 | ⟨q1, q2⟩
        all_goals (
          go_wp2_with (at_builtin; refine wpl_appL rfl (.tmp 35) (.tmp 41) _ rfl miE_len miE_one (by decide) w0.heap.size _ i0 _ 6 Try.underlying32 HIT.out rfl _ m rfl (World.ownsRow.alloc HO.out _) (some ⟨wr.heap.size, 0, none⟩) 1 1 [x] rfl rfl (fun e => by cases e) (els_one16 wr _ x _ rfl) (by have := HML.out; simp; omega) (by decide) (by have := HB.out.size; simp; omega) ?_)
          intro v5 w5 ho5 hg5 _
          have HO5 : Hid (w5.ownsRow w0.heap.size 41 3 v5 ((T.M.take (k + 1)).filter (keepM p v)).length (((T.M.take (k + 1)).filter (keepM p v)).flatMap miE)) := Lib.hid (by rw [HF2.out]; simpa using ho5)
          have HB5 : Hid (Below w0.heap.size w0 w5) := Lib.hid ((HB.out.alloc HB.out.size _).grown hg5 (by have := HB.out.size; simp; omega) (fun j hj => (HO.out.lt j hj).1))
          clear ho5 hg5
          go_wp2
          go_roundw
          case rel => exact ⟨k + 1, by have := HLT.out; omega, by go_num, HO5, HB5⟩
          case measure => have := HLT.out; simp [intOf]; omega)
    · obtain rfl : k = n := by omega
      have HRw := Lib.hid (HR0.out.below HB.out HR0.out.lt)
      rw [List.take_of_length_le (by rw [HN.out]; exact Nat.le_refl _)] at HO
      obtain ⟨A5, c5, rfl, hE5, _, hz5, hA5⟩ := own_fullL miE_len HO.out
      obtain ⟨m5, hm5⟩ : ∃ m, (T.M.filter (keepM p v)).length = m := ⟨_, rfl⟩
      have HM5 := Lib.hid hm5
      have HE5 := Lib.hid (And.intro hE5 (And.intro hz5 hA5))
      rw [hm5]
      have k0 := HKw.out.cell 0
      have k1 := HKw.out.cell 1
      have k2 := HKw.out.cell 2
      simp only [List.getElem?_toArray, List.getElem?_cons_succ, List.getElem?_cons_zero] at  k0 k1 k2
      have HBW : Hid (Below w.heap.size w wr) := Lib.hid (HB0.out.trans (HB.out.mono HB0.out.size))
      by_cases hall : T.M.all (keepM p v) = true
      · have q : ((m5 : Int) == (k : Int)) = true := by
          rw [beq_iff_eq, ← hm5, List.filter_eq_self.2 (fun y hy => List.all_eq_true.1 hall y hy), HN.out]
        have HD : Hid (T.dropM p v = (T, 7)) := Lib.hid (by unfold Tb.dropM; rw [if_pos hall])
        clear hall hm5 hE5 hz5 hA5 hlt hk HO
        go_wp2_with (refine wpList_store_row rfl 34 (.tmp 6) (.tmp 49) rfl (w.heap.size + 1) rfl _ rfl 34 _ HRw.out (by kernel_rfl) rfl (by kernel_rfl) ?_)
        refine bodyPost_ret (v := .tuple #[.agg #[.int .i64 (T.n : Int), .slice X.A T.A.length X.ca, .slice X.E T.E.length X.ce, .slice X.M k X.cm], .int .i64 7]) (results_cell_slot (p := 6) (q := 7) (by kernel_rfl) _ _ (w.heap.size + 1) 34 _ _ rfl (Blk.row HRw.out _) Try.underlying34 rfl (by kernel_rfl) _ rfl) rfl ?_
        rw [HD.out]
        exact ⟨X, by rw [← HN.out]; rfl, HTW.out.next (below_row HBW.out (by omega) _), below_row HBW.out (by omega) _, fun _ => XTo.refl _ _ _ _⟩
      · have hlt5 : m5 < k := by
          rw [← hm5, ← HN.out]
          refine List.length_filter_lt_length_iff_exists.2 ?_
          by_cases hh : ∃ y ∈ T.M, keepM p v y ≠ true
          · exact hh
          · refine absurd (List.all_eq_true.2 (fun y hy => ?_)) hall
            cases hq : keepM p v y
            · exact absurd ⟨y, hy, by rw [hq]; decide⟩ hh
            · rfl
        have q : ((m5 : Int) == (k : Int)) = false := by rw [beq_eq_false_iff_ne]; omega
        have HD : Hid (T.dropM p v = ({ T with M := T.M.filter (keepM p v) }, 0)) := Lib.hid (by unfold Tb.dropM; rw [if_neg hall])
        have f3 := HKw.out.frozen 3
        have HKs : Hid (Blk (wr.setCell ⟨w.heap.size, 3, none⟩ (.slice A5 m5 c5)) w.heap.size 34 #[.int .i64 (T.n : Int), .slice X.A T.A.length X.ca, .slice X.E T.E.length X.ce, .slice A5 m5 c5]) := Lib.hid (by
          have := HKw.out.put 3 (.slice A5 m5 c5)
          simpa using this)
        have HRs : Hid (Blk (wr.setCell ⟨w.heap.size, 3, none⟩ (.slice A5 m5 c5)) (w.heap.size + 1) 34 #[.int .i64 0, .slice none 0 0, .slice none 0 0, .slice none 0 0]) := Lib.hid (HRw.out.far (p := ⟨w.heap.size, 3, none⟩) (by show w.heap.size + 1 ≠ w.heap.size; omega) _)
        have HBs : Hid (Below w.heap.size w (wr.setCell ⟨w.heap.size, 3, none⟩ (.slice A5 m5 c5))) := Lib.hid (HBW.out.setCell (p := ⟨w.heap.size, 3, none⟩) (Nat.le_refl _) _)
        have HC : Hid (∀ cs, Chg (fun j => j = w.heap.size ∨ j = w.heap.size + 1) wr ((wr.setCell ⟨w.heap.size, 3, none⟩ (.slice A5 m5 c5)).setRow (w.heap.size + 1) cs)) := Lib.hid (fun cs => ((Chg.refl _ _).setCell (p := ⟨w.heap.size, 3, none⟩) (.inr (.inl rfl)) _).setRow (.inr (.inr rfl)) _)
        have hw2 : w.heap.size + 2 ≤ w0.heap.size := by have := HR0.out.lt; omega
        have HW2 := Lib.hid hw2
        have s0 := HKs.out.cell 0
        have s1 := HKs.out.cell 1
        have s2 := HKs.out.cell 2
        have s3 := HKs.out.cell 3
        simp only [List.getElem?_toArray, List.getElem?_cons_succ, List.getElem?_cons_zero] at  s0 s1 s2 s3
        clear hall hm5 hE5 hz5 hA5 hlt hk HO hlt5 hw2
        go_wp2_with (refine wpList_store_row rfl 34 (.tmp 6) (.tmp 52) rfl (w.heap.size + 1) rfl _ rfl 34 _ HRs.out (by kernel_rfl) rfl (by kernel_rfl) ?_)
        refine bodyPost_ret (v := .tuple #[.agg #[.int .i64 (T.n : Int), .slice X.A T.A.length X.ca, .slice X.E T.E.length X.ce, .slice A5 m5 c5], .int .i64 0]) (results_cell_slot (p := 6) (q := 7) (by kernel_rfl) _ _ (w.heap.size + 1) 34 _ _ rfl (Blk.row HRs.out _) Try.underlying34 rfl (by kernel_rfl) _ rfl) rfl ?_
        rw [HD.out]
        refine ⟨{ X with M := A5, cm := c5 }, by rw [← HM5.out]; rfl, ?_, below_row HBs.out (by omega) _, fun _ => ⟨.inl rfl, .inl rfl, .inr (fun a ha => by have h1 := HE5.out.2.2 a ha; have := HW2.out; refine ⟨by omega, ?_⟩; have h2 := h1.2; first | (simpa [World.setCell] using h2) | (simpa using h2) | omega), fun x hx => .inl hx⟩⟩
        have h := HTW.out.next (below_row (g := w.heap.size + 1) HBs.out (by omega) #[.int .i64 (T.n : Int), .slice X.A T.A.length X.ca, .slice X.E T.E.length X.ce, .slice A5 m5 c5])
        exact ⟨h.la, h.ea, h.em, h.ee, elsL_chg HE5.out.1 (HC.out _) (fun a ha hh => by have := (HE5.out.2.2 a ha).1; have := HW2.out; rcases hh with hh | hh <;> omega), h.za, h.ze, HE5.out.2.1⟩
set_option maxHeartbeats 8000000 in
theorem refdrope16_loc (T : Tb) (X : TbX) (p : Int) (v : UInt16) (w : World) (hT : TbD w T X) (hm : T.E.length ≤ 1000) :
    Calls Try.prog 25 #[.agg (TbC T X), .int .i64 p, .int .u16 v.toNat] w fun e w' => ∃ X', e = .returned (.tuple #[.agg (TbC (T.dropE p v).1 X'), .int .i64 ((T.dropE p v).2 : Nat)]) ∧ TbD w' (T.dropE p v).1 X' ∧ Below w.heap.size w w' ∧ (∀ x0, XTo w.heap.size w'.heap.size x0 X X') := by
  obtain ⟨n, hn⟩ : ∃ n, T.E.length = n := ⟨_, rfl⟩
  have HN := Lib.hid hn
  show Calls _ _ #[.agg #[.int .i64 (T.n : Int), .slice X.A T.A.length X.ca, .slice X.E T.E.length X.ce, .slice X.M T.M.length X.cm], _, _] _ _
  rw [hn]
  rw [hn] at hm
  have hnl : (n : Int) ≤ 1000 := by omega
  have HNL := Lib.hid hm
  obtain ⟨w0, hw0⟩ : ∃ w0, ((w.alloc (.cells #[.int .i64 (T.n : Int), .slice X.A T.A.length X.ca, .slice X.E n X.ce, .slice X.M T.M.length X.cm] 34)).alloc (.cells #[.int .i64 0, .slice none 0 0, .slice none 0 0, .slice none 0 0] 34)) = w0 := ⟨_, rfl⟩
  have HB0 : Hid (Below w.heap.size w w0) := Lib.hid (by rw [← hw0]; exact ((Below.refl _ _).alloc (Nat.le_refl _) _).alloc (by simp) _)
  have HK0 : Hid (Blk w0 w.heap.size 34 #[.int .i64 (T.n : Int), .slice X.A T.A.length X.ca, .slice X.E n X.ce, .slice X.M T.M.length X.cm]) := Lib.hid (by rw [← hw0]; exact (Blk.new _ _ _).alloc _)
  have HR0 : Hid (Blk w0 (w.heap.size + 1) 34 #[.int .i64 0, .slice none 0 0, .slice none 0 0, .slice none 0 0]) := Lib.hid (by
    have := Blk.new (w.alloc (.cells #[.int .i64 (T.n : Int), .slice X.A T.A.length X.ca, .slice X.E n X.ce, .slice X.M T.M.length X.cm] 34)) 34 #[.int .i64 0, .slice none 0 0, .slice none 0 0, .slice none 0 0]
    rw [← hw0]
    simpa using this)
  have HT0 : Hid (TbD w0 T X) := Lib.hid (hT.next HB0.out)
  have HTW := Lib.hid hT
  obtain ⟨i0, hi⟩ := info_parts infoMp
  have HIT := Lib.hid hi
  clear hT hn hm hi
  go_enter Try.func25, Try.ntmps25
  go_wp2
  try rw [hw0]
  clear hw0
  go_loopw [8, 9] (fun l i wr => ∃ k : Nat, k ≤ n ∧ i = .int .i64 k ∧ Hid (wr.ownsRow w0.heap.size 39 4 l ((T.E.take k).filter (keepE p v)).length (((T.E.take k).filter (keepE p v)).flatMap mpE)) ∧ Hid (Below w0.heap.size w0 wr)) (fun _ i _ => n - (intOf i).toNat)
  case atStart => exact ⟨0, Nat.zero_le _, rfl, Lib.hid (by simp only [List.take_zero, List.filter_nil]; exact World.ownsRow_nil _ _ _ _), Lib.hid (Below.refl _ _)⟩
  case round =>
    obtain ⟨k, hk, rfl, HO, HB⟩ := hrel
    have HKw := Lib.hid (HK0.out.below HB.out HK0.out.lt)
    have kk3 := HKw.out.cell 2
    simp only [List.getElem?_toArray, List.getElem?_cons_succ, List.getElem?_cons_zero] at  kk3
    by_cases hlt : k < n
    · obtain ⟨x, hx⟩ : ∃ x, T.E[k]? = some x := ⟨_, List.getElem?_eq_getElem (by rw [HN.out]; exact hlt)⟩
      have hki : (k : Int) < n := by omega
      obtain ⟨b, off, hA, hb, c0, c1, c2, c3⟩ := mp_at (HT0.out.ee.next HB.out) hx
      rw [hA] at kk3
      have HF := Lib.hid (take_filter16 (p := keepE p v) hx)
      have HLT := Lib.hid hlt
      obtain ⟨m, hm⟩ : ∃ m, (T.E.take k).filter (keepE p v) = m := ⟨_, rfl⟩
      have hml : m.length ≤ 1000 := by rw [← hm]; have := List.length_filter_le (keepE p v) (T.E.take k); rw [List.length_take] at this; have := HNL.out; omega
      rw [hm] at HO HF
      have HML := Lib.hid hml
      clear hx hb hlt hm hml hA
      by_cases e12 : x.a = p ∧ x.m = v
      · have q1 : (x.a != p) = false := by rw [e12.1]; simp
        have q2 : ((x.m.toNat : Int) != (v.toNat : Int)) = false := by rw [e12.2]; simp
        have HO1 : Hid (wr.ownsRow w0.heap.size 39 4 _ ((T.E.take (k + 1)).filter (keepE p v)).length (((T.E.take (k + 1)).filter (keepE p v)).flatMap mpE)) := Lib.hid (by
          rw [HF.out, show keepE p v x = false by unfold keepE; simp [e12.1, e12.2]]
          simpa using HO.out)
        clear e12
        go_wp2
        go_roundw
        case rel => exact ⟨k + 1, by have := HLT.out; omega, by go_num, HO1, HB⟩
        case measure => have := HLT.out; simp [intOf]; omega
      · have hq : (x.a != p) = true ∨ ((x.a != p) = false ∧ ((x.m.toNat : Int) != (v.toNat : Int)) = true) := by
          by_cases e1 : x.a = p
          · right
            refine ⟨by rw [e1]; simp, ?_⟩
            rw [bne_iff_ne]
            intro h
            exact e12 ⟨e1, UInt16.toNat_inj.1 (by omega)⟩
          · left
            rw [bne_iff_ne]
            intro h
            exact e1 h
        have HF2 : Hid ((T.E.take (k + 1)).filter (keepE p v) = m ++ [x]) := Lib.hid (by
          rw [HF.out, show keepE p v x = true by
            unfold keepE
            simp only [Bool.not_eq_true', Bool.and_eq_false_iff, beq_eq_false_iff_ne, decide_eq_false_iff_not]
            by_cases e1 : x.a = p
            · exact .inr (fun h => e12 ⟨e1, h⟩)
            · exact .inl e1]
          simp)
        clear e12
        rcases hq with q1 | ⟨q1, q2⟩
        all_goals (
          go_wp2_with (at_builtin; refine wpl_appL rfl (.tmp 35) (.tmp 41) _ rfl mpE_len mpE_one (by decide) w0.heap.size _ i0 _ 16 Try.underlying31 HIT.out rfl _ m rfl (World.ownsRow.alloc HO.out _) (some ⟨wr.heap.size, 0, none⟩) 1 1 [x] rfl rfl (fun e => by cases e) (els_one16 wr _ x _ rfl) (by have := HML.out; simp; omega) (by decide) (by have := HB.out.size; simp; omega) ?_)
          intro v5 w5 ho5 hg5 _
          have HO5 : Hid (w5.ownsRow w0.heap.size 39 4 v5 ((T.E.take (k + 1)).filter (keepE p v)).length (((T.E.take (k + 1)).filter (keepE p v)).flatMap mpE)) := Lib.hid (by rw [HF2.out]; simpa using ho5)
          have HB5 : Hid (Below w0.heap.size w0 w5) := Lib.hid ((HB.out.alloc HB.out.size _).grown hg5 (by have := HB.out.size; simp; omega) (fun j hj => (HO.out.lt j hj).1))
          clear ho5 hg5
          go_wp2
          go_roundw
          case rel => exact ⟨k + 1, by have := HLT.out; omega, by go_num, HO5, HB5⟩
          case measure => have := HLT.out; simp [intOf]; omega)
    · obtain rfl : k = n := by omega
      have HRw := Lib.hid (HR0.out.below HB.out HR0.out.lt)
      rw [List.take_of_length_le (by rw [HN.out]; exact Nat.le_refl _)] at HO
      obtain ⟨A5, c5, rfl, hE5, _, hz5, hA5⟩ := own_fullL mpE_len HO.out
      obtain ⟨m5, hm5⟩ : ∃ m, (T.E.filter (keepE p v)).length = m := ⟨_, rfl⟩
      have HM5 := Lib.hid hm5
      have HE5 := Lib.hid (And.intro hE5 (And.intro hz5 hA5))
      rw [hm5]
      have k0 := HKw.out.cell 0
      have k1 := HKw.out.cell 1
      have k2 := HKw.out.cell 3
      simp only [List.getElem?_toArray, List.getElem?_cons_succ, List.getElem?_cons_zero] at  k0 k1 k2
      have HBW : Hid (Below w.heap.size w wr) := Lib.hid (HB0.out.trans (HB.out.mono HB0.out.size))
      by_cases hall : T.E.all (keepE p v) = true
      · have q : ((m5 : Int) == (k : Int)) = true := by
          rw [beq_iff_eq, ← hm5, List.filter_eq_self.2 (fun y hy => List.all_eq_true.1 hall y hy), HN.out]
        have HD : Hid (T.dropE p v = (T, 7)) := Lib.hid (by unfold Tb.dropE; rw [if_pos hall])
        clear hall hm5 hE5 hz5 hA5 hlt hk HO
        go_wp2_with (refine wpList_store_row rfl 34 (.tmp 6) (.tmp 49) rfl (w.heap.size + 1) rfl _ rfl 34 _ HRw.out (by kernel_rfl) rfl (by kernel_rfl) ?_)
        refine bodyPost_ret (v := .tuple #[.agg #[.int .i64 (T.n : Int), .slice X.A T.A.length X.ca, .slice X.E k X.ce, .slice X.M T.M.length X.cm], .int .i64 7]) (results_cell_slot (p := 6) (q := 7) (by kernel_rfl) _ _ (w.heap.size + 1) 34 _ _ rfl (Blk.row HRw.out _) Try.underlying34 rfl (by kernel_rfl) _ rfl) rfl ?_
        rw [HD.out]
        exact ⟨X, by rw [← HN.out]; rfl, HTW.out.next (below_row HBW.out (by omega) _), below_row HBW.out (by omega) _, fun _ => XTo.refl _ _ _ _⟩
      · have hlt5 : m5 < k := by
          rw [← hm5, ← HN.out]
          refine List.length_filter_lt_length_iff_exists.2 ?_
          by_cases hh : ∃ y ∈ T.E, keepE p v y ≠ true
          · exact hh
          · refine absurd (List.all_eq_true.2 (fun y hy => ?_)) hall
            cases hq : keepE p v y
            · exact absurd ⟨y, hy, by rw [hq]; decide⟩ hh
            · rfl
        have q : ((m5 : Int) == (k : Int)) = false := by rw [beq_eq_false_iff_ne]; omega
        have HD : Hid (T.dropE p v = ({ T with E := T.E.filter (keepE p v) }, 0)) := Lib.hid (by unfold Tb.dropE; rw [if_neg hall])
        have f3 := HKw.out.frozen 2
        have HKs : Hid (Blk (wr.setCell ⟨w.heap.size, 2, none⟩ (.slice A5 m5 c5)) w.heap.size 34 #[.int .i64 (T.n : Int), .slice X.A T.A.length X.ca, .slice A5 m5 c5, .slice X.M T.M.length X.cm]) := Lib.hid (by
          have := HKw.out.put 2 (.slice A5 m5 c5)
          simpa using this)
        have HRs : Hid (Blk (wr.setCell ⟨w.heap.size, 2, none⟩ (.slice A5 m5 c5)) (w.heap.size + 1) 34 #[.int .i64 0, .slice none 0 0, .slice none 0 0, .slice none 0 0]) := Lib.hid (HRw.out.far (p := ⟨w.heap.size, 2, none⟩) (by show w.heap.size + 1 ≠ w.heap.size; omega) _)
        have HBs : Hid (Below w.heap.size w (wr.setCell ⟨w.heap.size, 2, none⟩ (.slice A5 m5 c5))) := Lib.hid (HBW.out.setCell (p := ⟨w.heap.size, 2, none⟩) (Nat.le_refl _) _)
        have HC : Hid (∀ cs, Chg (fun j => j = w.heap.size ∨ j = w.heap.size + 1) wr ((wr.setCell ⟨w.heap.size, 2, none⟩ (.slice A5 m5 c5)).setRow (w.heap.size + 1) cs)) := Lib.hid (fun cs => ((Chg.refl _ _).setCell (p := ⟨w.heap.size, 2, none⟩) (.inr (.inl rfl)) _).setRow (.inr (.inr rfl)) _)
        have hw2 : w.heap.size + 2 ≤ w0.heap.size := by have := HR0.out.lt; omega
        have HW2 := Lib.hid hw2
        have s0 := HKs.out.cell 0
        have s1 := HKs.out.cell 1
        have s2 := HKs.out.cell 2
        have s3 := HKs.out.cell 3
        simp only [List.getElem?_toArray, List.getElem?_cons_succ, List.getElem?_cons_zero] at  s0 s1 s2 s3
        clear hall hm5 hE5 hz5 hA5 hlt hk HO hlt5 hw2
        go_wp2_with (refine wpList_store_row rfl 34 (.tmp 6) (.tmp 52) rfl (w.heap.size + 1) rfl _ rfl 34 _ HRs.out (by kernel_rfl) rfl (by kernel_rfl) ?_)
        refine bodyPost_ret (v := .tuple #[.agg #[.int .i64 (T.n : Int), .slice X.A T.A.length X.ca, .slice A5 m5 c5, .slice X.M T.M.length X.cm], .int .i64 0]) (results_cell_slot (p := 6) (q := 7) (by kernel_rfl) _ _ (w.heap.size + 1) 34 _ _ rfl (Blk.row HRs.out _) Try.underlying34 rfl (by kernel_rfl) _ rfl) rfl ?_
        rw [HD.out]
        refine ⟨{ X with E := A5, ce := c5 }, by rw [← HM5.out]; rfl, ?_, below_row HBs.out (by omega) _, fun _ => ⟨.inl rfl, .inr (fun a ha => by have h1 := HE5.out.2.2 a ha; have := HW2.out; refine ⟨by omega, ?_⟩; have h2 := h1.2; first | (simpa [World.setCell] using h2) | (simpa using h2) | omega), .inl rfl, fun x hx => .inl hx⟩⟩
        have h := HTW.out.next (below_row (g := w.heap.size + 1) HBs.out (by omega) #[.int .i64 (T.n : Int), .slice X.A T.A.length X.ca, .slice A5 m5 c5, .slice X.M T.M.length X.cm])
        exact ⟨h.la, h.ea, h.em, elsL_chg HE5.out.1 (HC.out _) (fun a ha hh => by have := (HE5.out.2.2 a ha).1; have := HW2.out; rcases hh with hh | hh <;> omega), h.mm, h.za, HE5.out.2.1, h.zm⟩
set_option maxHeartbeats 8000000 in
theorem refaddm16_loc (T : Tb) (X : TbX) (m : Mi) (w : World) (hT : TbD w T X) (hI : TbInv T) (ha : T.A.length ≤ 1000) (he : T.E.length ≤ 1000) (hm : T.M.length ≤ 1000) :
    Calls Try.prog 26 #[.agg (TbC T X), .agg #[.int .u8 m.p.toNat, .int .u16 m.v.toNat, .int .u8 m.l.toNat]] w fun e w' => ∃ X', e = .returned (.tuple #[.agg (TbC (T.addM m).1 X'), .int .i64 ((T.addM m).2 : Nat)]) ∧ TbD w' (T.addM m).1 X' ∧ Below w.heap.size w w' ∧ (∀ x0, XTo w.heap.size w'.heap.size x0 X X') := by
  have HI := Lib.hid hI
  have HT := Lib.hid hT
  show Calls _ _ #[.agg #[.int .i64 (T.n : Int), .slice X.A T.A.length X.ca, .slice X.E T.E.length X.ce, .slice X.M T.M.length X.cm], _] _ _
  obtain ⟨nE, hnE⟩ : ∃ n, T.E.length = n := ⟨_, rfl⟩
  obtain ⟨nM, hnM⟩ : ∃ n, T.M.length = n := ⟨_, rfl⟩
  obtain ⟨nA, hnA⟩ : ∃ n, T.A.length = n := ⟨_, rfl⟩
  have HNS := Lib.hid (And.intro hnA (And.intro hnE hnM))
  rw [hnA, hnE, hnM]
  rw [hnE] at he
  rw [hnA] at ha
  rw [hnM] at hm
  clear hnE hnM hnA hI hT
  have HB0 : Hid (Below w.heap.size w (((w.alloc (.cells #[.int .i64 (T.n : Int), .slice X.A nA X.ca, .slice X.E nE X.ce, .slice X.M nM X.cm] 34)).alloc (.cells #[.int .u8 m.p.toNat, .int .u16 m.v.toNat, .int .u8 m.l.toNat] 41)).alloc (.cells #[.int .i64 0, .slice none 0 0, .slice none 0 0, .slice none 0 0] 34))) := Lib.hid ((((Below.refl _ _).alloc (Nat.le_refl _) _).alloc (by simp) _).alloc (by simp; omega) _)
  have HK0 : Hid (Blk (((w.alloc (.cells #[.int .i64 (T.n : Int), .slice X.A nA X.ca, .slice X.E nE X.ce, .slice X.M nM X.cm] 34)).alloc (.cells #[.int .u8 m.p.toNat, .int .u16 m.v.toNat, .int .u8 m.l.toNat] 41)).alloc (.cells #[.int .i64 0, .slice none 0 0, .slice none 0 0, .slice none 0 0] 34)) w.heap.size 34 #[.int .i64 (T.n : Int), .slice X.A nA X.ca, .slice X.E nE X.ce, .slice X.M nM X.cm]) := Lib.hid (((Blk.new _ _ _).alloc _).alloc _)
  have HX0 : Hid (Blk (((w.alloc (.cells #[.int .i64 (T.n : Int), .slice X.A nA X.ca, .slice X.E nE X.ce, .slice X.M nM X.cm] 34)).alloc (.cells #[.int .u8 m.p.toNat, .int .u16 m.v.toNat, .int .u8 m.l.toNat] 41)).alloc (.cells #[.int .i64 0, .slice none 0 0, .slice none 0 0, .slice none 0 0] 34)) (w.heap.size + 1) 41 #[.int .u8 m.p.toNat, .int .u16 m.v.toNat, .int .u8 m.l.toNat]) := Lib.hid (by
    have := (Blk.new (w.alloc (.cells #[.int .i64 (T.n : Int), .slice X.A nA X.ca, .slice X.E nE X.ce, .slice X.M nM X.cm] 34)) 41 #[.int .u8 m.p.toNat, .int .u16 m.v.toNat, .int .u8 m.l.toNat]).alloc (.cells #[.int .i64 0, .slice none 0 0, .slice none 0 0, .slice none 0 0] 34)
    simpa using this)
  have HR0 : Hid (Blk (((w.alloc (.cells #[.int .i64 (T.n : Int), .slice X.A nA X.ca, .slice X.E nE X.ce, .slice X.M nM X.cm] 34)).alloc (.cells #[.int .u8 m.p.toNat, .int .u16 m.v.toNat, .int .u8 m.l.toNat] 41)).alloc (.cells #[.int .i64 0, .slice none 0 0, .slice none 0 0, .slice none 0 0] 34)) (w.heap.size + 2) 34 #[.int .i64 0, .slice none 0 0, .slice none 0 0, .slice none 0 0]) := Lib.hid (by
    have := Blk.new ((w.alloc (.cells #[.int .i64 (T.n : Int), .slice X.A nA X.ca, .slice X.E nE X.ce, .slice X.M nM X.cm] 34)).alloc (.cells #[.int .u8 m.p.toNat, .int .u16 m.v.toNat, .int .u8 m.l.toNat] 41)) 34 #[.int .i64 0, .slice none 0 0, .slice none 0 0, .slice none 0 0]
    simpa using this)
  obtain ⟨w0, hw0⟩ : ∃ w0, (((w.alloc (.cells #[.int .i64 (T.n : Int), .slice X.A nA X.ca, .slice X.E nE X.ce, .slice X.M nM X.cm] 34)).alloc (.cells #[.int .u8 m.p.toNat, .int .u16 m.v.toNat, .int .u8 m.l.toNat] 41)).alloc (.cells #[.int .i64 0, .slice none 0 0, .slice none 0 0, .slice none 0 0] 34)) = w0 := ⟨_, rfl⟩
  rw [hw0] at HB0 HK0 HX0 HR0
  have HLM := Lib.hid hm
  obtain ⟨i0, hi⟩ := info_parts infoMi
  have HIT := Lib.hid hi
  clear hi
  by_cases hM : T.hasM m = true
  · have hM2 := hM
    unfold Tb.hasM at hM2
    simp only [Bool.and_eq_true, decide_eq_true_eq] at hM2
    obtain ⟨h1, ⟨h2, h3⟩, h4⟩ := hM2
    have p1 : (m.p.toNat : Int) < (T.n : Int) := by omega
    have hwp : IntKind.i64.wrap (m.p.toNat : Int) = (m.p.toNat : Int) := by have := m.p.toNat_lt; simp [IntKind.wrap, IntKind.signed, IntKind.bits]; omega
    have p2 : ¬ (m.v.toNat : Int) < 1 := by omega
    have p3 : ¬ (4094 : Int) < (m.v.toNat : Int) := by omega
    have p4 : ¬ (7 : Int) < (m.l.toNat : Int) := by omega
    have HHM := Lib.hid hM
    clear h1 h2 h3 h4 hM
    have k0 := HK0.out.cell 0
    simp only [List.getElem?_toArray, List.getElem?_cons_succ, List.getElem?_cons_zero] at k0
    have x0 := HX0.out.cell 0
    have x1 := HX0.out.cell 1
    have x2 := HX0.out.cell 2
    simp only [List.getElem?_toArray, List.getElem?_cons_succ, List.getElem?_cons_zero] at x0 x1 x2
    go_enter Try.func26, Try.ntmps26
    go_wp2
    try rw [hw0]
    clear hw0 k0 x0 x1 x2 p1 p2 p3 p4 hwp
    go_loopw [6] (fun i wr => ∃ k : Nat, k ≤ nM ∧ i = .int .i64 k ∧ Hid (∀ y ∈ T.M.take k, (y.p == m.p && y.v == m.v) = false) ∧ Hid (Below w0.heap.size w0 wr)) (fun i _ => nM - (intOf i).toNat)
    case atStart => exact ⟨0, Nat.zero_le _, rfl, Lib.hid (by simp), Lib.hid (Below.refl _ _)⟩
    case round =>
      obtain ⟨k, hk, rfl, HZ, HBw⟩ := hrel
      have HB : Hid (Below w.heap.size w wr) := Lib.hid (HB0.out.trans (HBw.out.mono HB0.out.size))
      have HK := Lib.hid (HK0.out.below HBw.out HK0.out.lt)
      have HX := Lib.hid (HX0.out.below HBw.out HX0.out.lt)
      have HR := Lib.hid (HR0.out.below HBw.out HR0.out.lt)
      by_cases hlt : k < nM
      · obtain ⟨x, hx⟩ : ∃ x, T.M[k]? = some x := ⟨_, List.getElem?_eq_getElem (by rw [HNS.out.2.2]; exact hlt)⟩
        obtain ⟨b, off, hA, hb, c0, c1, c2⟩ := mi_at (HT.out.mm.next HB.out) hx
        have hki : (k : Int) < nM := by omega
        have HLT := Lib.hid hlt
        have HXX := Lib.hid hx
        have k3 := HK.out.cell 3
        simp only [List.getElem?_toArray, List.getElem?_cons_succ, List.getElem?_cons_zero] at k3
        have x0 := HX.out.cell 0
        have x1 := HX.out.cell 1
        simp only [List.getElem?_toArray, List.getElem?_cons_succ, List.getElem?_cons_zero] at x0 x1
        rw [hA] at k3
        clear hlt hx hA hb
        by_cases e1 : x.p = m.p
        · have q1 : ((x.p.toNat : Int) == (m.p.toNat : Int)) = true := by rw [e1]; simp
          by_cases e2 : x.v = m.v
          · have q2 : ((x.v.toNat : Int) == (m.v.toNat : Int)) = true := by rw [e2]; simp
            have HD : Hid (T.addM m = (T, 8)) := Lib.hid (by
              unfold Tb.addM
              rw [if_neg (by rw [HHM.out]; decide), if_pos (List.any_eq_true.2 ⟨x, List.mem_of_getElem? HXX.out, by simp [e1, e2]⟩)])
            clear e1 e2
            go_wp2_with fail
            go_quiet (fail)
            have HKq : Hid (Blk (wr.drewN nq) w.heap.size 34 #[.int .i64 (T.n : Int), .slice X.A nA X.ca, .slice X.E nE X.ce, .slice X.M nM X.cm]) := Lib.hid HK.out
            have HRq : Hid (Blk (wr.drewN nq) (w.heap.size + 2) 34 #[.int .i64 0, .slice none 0 0, .slice none 0 0, .slice none 0 0]) := Lib.hid HR.out
            have HBq : Hid (Below w.heap.size w (wr.drewN nq)) := Lib.hid (below_drewN16 HB.out _)
            have k0 := HKq.out.cell 0
            have k1 := HKq.out.cell 1
            have k2 := HKq.out.cell 2
            have k3 := HKq.out.cell 3
            simp only [List.getElem?_toArray, List.getElem?_cons_succ, List.getElem?_cons_zero] at  k0 k1 k2 k3
            go_wp2_with (refine wpList_store_row rfl 34 (.tmp 4) (.tmp 58) rfl (w.heap.size + 2) rfl _ rfl 34 _ HRq.out (by kernel_rfl) rfl (by kernel_rfl) ?_)
            refine bodyPost_ret (v := .tuple #[.agg #[.int .i64 (T.n : Int), .slice X.A nA X.ca, .slice X.E nE X.ce, .slice X.M nM X.cm], .int .i64 8]) (results_cell_slot (p := 4) (q := 5) (by kernel_rfl) _ _ (w.heap.size + 2) 34 _ _ rfl (Blk.row HRq.out _) Try.underlying34 rfl (by kernel_rfl) _ rfl) rfl ?_
            rw [HD.out]
            exact ⟨X, by rw [← HNS.out.1, ← HNS.out.2.1, ← HNS.out.2.2]; rfl, HT.out.next (below_row HBq.out (by omega) _), below_row HBq.out (by omega) _, fun _ => XTo.refl _ _ _ _⟩
          · have q2 := u16_ne e2
            have HZ1 := Lib.hid (all_snoc16 (p := fun y => y.p == m.p && y.v == m.v) HZ.out HXX.out (by simp [e2]))
            clear e1 e2
            go_wp2_with fail
            go_quiet (fail)
            go_wp2
            go_roundw
            case rel => exact ⟨k + 1, by have := HLT.out; omega, by go_num, HZ1, Lib.hid (below_drewN16 HBw.out _)⟩
            case measure => have := HLT.out; simp [intOf]; omega
        · have q1 := u8_ne e1
          have HZ1 := Lib.hid (all_snoc16 (p := fun y => y.p == m.p && y.v == m.v) HZ.out HXX.out (by simp [e1]))
          clear e1
          go_wp2_with fail
          go_quiet (fail)
          go_wp2
          go_roundw
          case rel => exact ⟨k + 1, by have := HLT.out; omega, by go_num, HZ1, Lib.hid (below_drewN16 HBw.out _)⟩
          case measure => have := HLT.out; simp [intOf]; omega
      · obtain rfl : nM = k := by omega
        rw [List.take_of_length_le (by rw [HNS.out.2.2]; exact Nat.le_refl _)] at HZ
        have k3 := HK.out.cell 3
        simp only [List.getElem?_toArray, List.getElem?_cons_succ, List.getElem?_cons_zero] at  k3
        clear hlt hk
        go_wp2
        clear k3
        have HB1 := HB
        have HK1 := HK
        have HX1 := HX
        have HR1 := HR
        have HZ1 := HZ
        obtain ⟨w1, hw1⟩ : ∃ w1, w1 = wr := ⟨_, rfl⟩
        rw [← hw1] at HB1 HK1 HX1 HR1
        rw [← hw1]
        clear HB HK HX HR HZ HBw hw1 HB0 HK0 HX0 HR0
        go_loopw [7] (fun i wr => ∃ j : Nat, j ≤ nE ∧ i = .int .i64 j ∧ Hid (∀ y ∈ T.E.take j, T.under y m = false) ∧ Hid (Below w1.heap.size w1 wr)) (fun i _ => nE - (intOf i).toNat)
        case atStart => exact ⟨0, Nat.zero_le _, rfl, Lib.hid (by simp), Lib.hid (Below.refl _ _)⟩
        case round =>
          obtain ⟨k, hk, rfl, HZ, HBw⟩ := hrel
          have HB : Hid (Below w.heap.size w wr) := Lib.hid (HB1.out.trans (HBw.out.mono HB1.out.size))
          have HK := Lib.hid (HK1.out.below HBw.out HK1.out.lt)
          have HX := Lib.hid (HX1.out.below HBw.out HX1.out.lt)
          have HR := Lib.hid (HR1.out.below HBw.out HR1.out.lt)
          by_cases hlt : k < nE
          · obtain ⟨x, hx⟩ : ∃ x, T.E[k]? = some x := ⟨_, List.getElem?_eq_getElem (by rw [HNS.out.2.1]; exact hlt)⟩
            have hki : (k : Int) < nE := by omega
            have hltK := HK.out.lt
            have k1 := HK.out.cell 1
            have k2 := HK.out.cell 2
            simp only [List.getElem?_toArray, List.getElem?_cons_succ, List.getElem?_cons_zero] at  k1 k2
            obtain ⟨b1, off1, hE1, hltE, e0, e1, e2, e3⟩ := mp_at (HT.out.ee.next HB.out) hx
            have hlv := of_level HI.out (List.mem_of_getElem? hx)
            obtain ⟨ja, hja⟩ : ∃ ja : Nat, x.a = ja := ⟨x.a.toNat, by omega⟩
            obtain ⟨y, hy, hya⟩ := as_of HT.out.la (show ja < T.A.length by omega)
            have hyo : y.a = T.of x := by unfold Tb.of; rw [hya, hja, Int.toNat_natCast]
            obtain ⟨b2, off2, hA2, hltA, a0, a1, a2, a3, a4, a5⟩ := as_at (HT.out.ea.next HB.out) hy
            rw [hja] at e0
            rw [hE1] at k2
            rw [hA2] at k1
            have hjl : (ja : Int) < T.A.length := by omega
            have hl8 : y.a.l.toNat < 8 := by rw [hyo]; exact hlv.1
            have HYO := Lib.hid hyo
            have HX_ := Lib.hid hx
            rw [HNS.out.1] at hjl
            have HLT := Lib.hid hlt
            have HE1 := Lib.hid hE1
            clear hx hlt hlv hja hy hya hyo hE1 hA2 hl8
            go_upto_region 11 with (fail)
            go_cut [8] (fun a wx => a = .pointer (some ⟨wr.heap.size, 0, none⟩) ∧ Hid (Blk wx wr.heap.size 37 #[.int .u8 y.a.l.toNat, .string ⟨y.a.d.toArray⟩, .string ⟨y.a.n.toArray⟩, .int .u16 y.a.v.toNat, .int .u8 y.a.i.toNat, .slice y.b y.a.m.length y.c]) ∧ Hid (Below wr.heap.size wr wx))
            case first =>
              refine wp_region_noPanic ?_
              refine wp_region_held_drew (S := fun w_ => Below wr.heap.size wr w_) (by kernel_rfl) (Below.refl _ wr).drew (fun hHeld => ?_)
              refine wpAnyH_take (i := 0) (v := ?v15) rfl (by kernel_rfl) (by kernel_rfl) (by kernel_rfl) (fun _ _ _ h => h) (Or.inl ⟨by rfl, ?hy15⟩) hHeld ?rest15
              case hy15 =>
                intro w_ hSw; go_simp
                all_goals (with_reducible rfl)
              try simp only [Act.put, List.getElem_toArray, List.getElem_cons_succ, List.getElem_cons_zero, List.setIfInBounds_toArray, List.set_cons_zero, List.set_cons_succ]
              refine wpAnyH_take (i := 1) (v := ?v16) rfl (by kernel_rfl) (by kernel_rfl) (by kernel_rfl) (fun _ _ _ h => h) (Or.inl ⟨by rfl, ?hy16⟩) hHeld ?rest16
              case hy16 =>
                intro w_ hSw; have hc := (hSw.cell (p := ⟨w.heap.size, 1, none⟩) (by first | exact hltK | exact hltE | exact hltA)).trans k1; go_simp
                all_goals (with_reducible rfl)
              try simp only [Act.put, List.getElem_toArray, List.getElem_cons_succ, List.getElem_cons_zero, List.setIfInBounds_toArray, List.set_cons_zero, List.set_cons_succ]
              refine wpAnyH_take (i := 2) (v := ?v17) rfl (by kernel_rfl) (by kernel_rfl) (by kernel_rfl) (fun _ _ _ h => h) (Or.inl ⟨by rfl, ?hy17⟩) hHeld ?rest17
              case hy17 =>
                intro w_ hSw; go_simp
                all_goals (with_reducible rfl)
              try simp only [Act.put, List.getElem_toArray, List.getElem_cons_succ, List.getElem_cons_zero, List.setIfInBounds_toArray, List.set_cons_zero, List.set_cons_succ]
              refine wpAnyH_take (i := 3) (v := ?v18) rfl (by kernel_rfl) (by kernel_rfl) (by kernel_rfl) (fun _ _ _ h => h) (Or.inl ⟨by rfl, ?hy18⟩) hHeld ?rest18
              case hy18 =>
                intro w_ hSw; have hc := (hSw.cell (p := ⟨w.heap.size, 2, none⟩) (by first | exact hltK | exact hltE | exact hltA)).trans k2; go_simp
                all_goals (with_reducible rfl)
              try simp only [Act.put, List.getElem_toArray, List.getElem_cons_succ, List.getElem_cons_zero, List.setIfInBounds_toArray, List.set_cons_zero, List.set_cons_succ]
              refine wpAnyH_take (i := 4) (v := ?v19) rfl (by kernel_rfl) (by kernel_rfl) (by kernel_rfl) (fun _ _ _ h => h) (Or.inl ⟨by rfl, ?hy19⟩) hHeld ?rest19
              case hy19 =>
                intro w_ hSw; go_simp
                all_goals (with_reducible rfl)
              try simp only [Act.put, List.getElem_toArray, List.getElem_cons_succ, List.getElem_cons_zero, List.setIfInBounds_toArray, List.set_cons_zero, List.set_cons_succ]
              refine wpAnyH_take (i := 5) (v := ?v20) rfl (by kernel_rfl) (by kernel_rfl) (by kernel_rfl) (fun _ _ _ h => h) (Or.inl ⟨by rfl, ?hy20⟩) hHeld ?rest20
              case hy20 =>
                intro w_ hSw; go_simp
                all_goals (with_reducible rfl)
              try simp only [Act.put, List.getElem_toArray, List.getElem_cons_succ, List.getElem_cons_zero, List.setIfInBounds_toArray, List.set_cons_zero, List.set_cons_succ]
              refine wpAnyH_take (i := 6) (v := ?v21) rfl (by kernel_rfl) (by kernel_rfl) (by kernel_rfl) (fun _ _ _ h => h) (Or.inl ⟨by rfl, ?hy21⟩) hHeld ?rest21
              case hy21 =>
                intro w_ hSw; go_simp
                all_goals (with_reducible rfl)
              try simp only [Act.put, List.getElem_toArray, List.getElem_cons_succ, List.getElem_cons_zero, List.setIfInBounds_toArray, List.set_cons_zero, List.set_cons_succ]
              refine wpAnyH_take (i := 7) (v := ?v22) rfl (by kernel_rfl) (by kernel_rfl) (by kernel_rfl) (fun _ _ _ h => h) (Or.inl ⟨by rfl, ?hy22⟩) hHeld ?rest22
              case hy22 =>
                intro w_ hSw; have hc := (hSw.cell (p := ⟨b1, off1 + k * 4, none⟩) (by first | exact hltK | exact hltE | exact hltA)).trans e0; go_simp
                all_goals (with_reducible rfl)
              try simp only [Act.put, List.getElem_toArray, List.getElem_cons_succ, List.getElem_cons_zero, List.setIfInBounds_toArray, List.set_cons_zero, List.set_cons_succ]
              refine wpAnyH_take (i := 8) (v := ?v23) rfl (by kernel_rfl) (by kernel_rfl) (by kernel_rfl) (fun _ _ _ h => h) (Or.inl ⟨by rfl, ?hy23⟩) hHeld ?rest23
              case hy23 =>
                intro w_ hSw; go_simp
                all_goals (with_reducible rfl)
              try simp only [Act.put, List.getElem_toArray, List.getElem_cons_succ, List.getElem_cons_zero, List.setIfInBounds_toArray, List.set_cons_zero, List.set_cons_succ]
              refine wpAnyH_take (i := 9) (v := ?v24) rfl (by kernel_rfl) (by kernel_rfl) (by kernel_rfl) (fun _ _ _ h => h) (Or.inl ⟨by rfl, ?hy24⟩) hHeld ?rest24
              case hy24 =>
                intro w_ hSw; have h0 := (hSw.cell (p := ⟨b2, off2 + ja * 6, none⟩) hltA).trans a0; have h1 := (hSw.cell (p := ⟨b2, off2 + ja * 6 + 1, none⟩) hltA).trans a1; have h2 := (hSw.cell (p := ⟨b2, off2 + ja * 6 + 2, none⟩) hltA).trans a2; have h3 := (hSw.cell (p := ⟨b2, off2 + ja * 6 + 3, none⟩) hltA).trans a3; have h4 := (hSw.cell (p := ⟨b2, off2 + ja * 6 + 4, none⟩) hltA).trans a4; have h5 := (hSw.cell (p := ⟨b2, off2 + ja * 6 + 5, none⟩) hltA).trans a5; go_simp
                all_goals (with_reducible rfl)
              try simp only [Act.put, List.getElem_toArray, List.getElem_cons_succ, List.getElem_cons_zero, List.setIfInBounds_toArray, List.set_cons_zero, List.set_cons_succ]
              refine wpAnyH_ready (rs := [10]) (by kernel_rfl) (by simp) ?_
              refine AllReadyH.cons rfl (fun K hK => ?_) AllReadyH.nil
              go_simp
              refine hK.out _ _ (hHeld.alloc hHeld.size _) (fun hHeld => ?_)
              clear hK K
              try simp only [Act.put, List.getElem_toArray, List.getElem_cons_succ, List.getElem_cons_zero, List.setIfInBounds_toArray, List.set_cons_zero, List.set_cons_succ]
              refine wpAnyH_ready (rs := [11]) (by kernel_rfl) (by simp) ?_
              refine AllReadyH.cons rfl (fun K hK => ?_) AllReadyH.nil
              refine step_store_rowH rfl 37 (.tmp 8) (.tmp 75) rfl wr.heap.size rfl #[.int .u8 y.a.l.toNat, .string ⟨y.a.d.toArray⟩, .string ⟨y.a.n.toArray⟩, .int .u16 y.a.v.toNat, .int .u8 y.a.i.toNat, .slice y.b y.a.m.length y.c] rfl 37 _ (Blk.new wr.drew 37 #[.int .u8 0, .string ⟨#[]⟩, .string ⟨#[]⟩, .int .u16 0, .int .u8 0, .slice none 0 0]) (by kernel_rfl) rfl (by kernel_rfl) ?_
              have HG := Lib.hid (And.intro (Blk.row (Blk.new wr.drew 37 #[.int .u8 0, .string ⟨#[]⟩, .string ⟨#[]⟩, .int .u16 0, .int .u8 0, .slice none 0 0]) #[.int .u8 y.a.l.toNat, .string ⟨y.a.d.toArray⟩, .string ⟨y.a.n.toArray⟩, .int .u16 y.a.v.toNat, .int .u8 y.a.i.toNat, .slice y.b y.a.m.length y.c]) (below_row (g := wr.heap.size) (((Below.refl wr.heap.size wr).drew).alloc (Nat.le_refl _) (.cells #[.int .u8 0, .string ⟨#[]⟩, .string ⟨#[]⟩, .int .u16 0, .int .u8 0, .slice none 0 0] 37)) (Nat.le_refl _) #[.int .u8 y.a.l.toNat, .string ⟨y.a.d.toArray⟩, .string ⟨y.a.n.toArray⟩, .int .u16 y.a.v.toNat, .int .u8 y.a.i.toNat, .slice y.b y.a.m.length y.c]))
              refine hK.out _ _ (below_row (hHeld) (Nat.le_refl _) _) (fun hHeld => ?_)
              clear hK K
              try simp only [Act.put, List.getElem_toArray, List.getElem_cons_succ, List.getElem_cons_zero, List.setIfInBounds_toArray, List.set_cons_zero, List.set_cons_succ]
              refine wpAnyH_done (by kernel_rfl) ?_ _
              refine NoPanic.normal ?_
              clear hHeld
              go_wp2_with fail
              go_meet
              exact ⟨rfl, Lib.hid HG.out.1, Lib.hid HG.out.2⟩
            obtain ⟨rfl, HG, HBx⟩ := hcut
            have HKx := Lib.hid (HK.out.below HBx.out HK.out.lt)
            have HXx := Lib.hid (HX.out.below HBx.out HX.out.lt)
            have HRx := Lib.hid (HR.out.below HBx.out HR.out.lt)
            have HBX : Hid (Below w.heap.size w wc) := Lib.hid (HB.out.trans (HBx.out.mono HB.out.size))
            have HBW : Hid (Below w1.heap.size w1 wc) := Lib.hid (HBw.out.trans (HBx.out.mono HBw.out.size))
            have d2 := (HBx.out.cell (p := ⟨b1, off1 + k * 4 + 2, none⟩) hltE).trans e2
            have y0 := HG.out.cell 0
            have y3 := HG.out.cell 3
            simp only [List.getElem?_toArray, List.getElem?_cons_succ, List.getElem?_cons_zero] at y0 y3
            have x0 := HXx.out.cell 0
            have x1 := HXx.out.cell 1
            have x2 := HXx.out.cell 2
            simp only [List.getElem?_toArray, List.getElem?_cons_succ, List.getElem?_cons_zero] at x0 x1 x2
            have k2' := HKx.out.cell 2
            simp only [List.getElem?_toArray, List.getElem?_cons_succ, List.getElem?_cons_zero] at  k2'
            rw [HE1.out] at k2'
            clear e0 e1 e2 e3 a0 a1 a2 a3 a4 a5 k1 k2 HB HK HX HR HBx HBw hjl hltK
            by_cases hb : (x.p == m.p && ((T.of x).v == m.v && decide (m.l.toNat ≤ (T.of x).l.toNat))) = true
            · have hb' := hb
              simp only [Bool.and_eq_true, beq_iff_eq, decide_eq_true_eq] at hb'
              obtain ⟨h1, h2, h3⟩ := hb'
              have q1 : ((x.p.toNat : Int) == (m.p.toNat : Int)) = true := by rw [h1]; simp
              have q2 : ((y.a.v.toNat : Int) == (m.v.toNat : Int)) = true := by rw [HYO.out, h2]; simp
              have q3 : (m.l.toNat : Int) ≤ (y.a.l.toNat : Int) := by rw [HYO.out]; omega
              have q3' : decide (m.l.toNat ≤ y.a.l.toNat) = true := by simp; omega
              have HD : Hid (T.addM m = (T, 9)) := Lib.hid (by
                unfold Tb.addM
                rw [if_neg (by rw [HHM.out]; decide), if_neg (by rw [any_no16 HZ1.out]; decide), if_pos (List.any_eq_true.2 ⟨x, List.mem_of_getElem? HX_.out, by unfold Tb.under; simp [h1, h2, h3]⟩)])
              clear hb h1 h2 h3
              go_wp2_with fail
              go_quiet (fail)
              have HKq : Hid (Blk (wc.drewN nq) w.heap.size 34 #[.int .i64 (T.n : Int), .slice X.A nA X.ca, .slice X.E nE X.ce, .slice X.M nM X.cm]) := Lib.hid HKx.out
              have HRq : Hid (Blk (wc.drewN nq) (w.heap.size + 2) 34 #[.int .i64 0, .slice none 0 0, .slice none 0 0, .slice none 0 0]) := Lib.hid HRx.out
              have HBq : Hid (Below w.heap.size w (wc.drewN nq)) := Lib.hid (below_drewN16 HBX.out _)
              have k0 := HKq.out.cell 0
              have k1 := HKq.out.cell 1
              have k2 := HKq.out.cell 2
              have k3 := HKq.out.cell 3
              simp only [List.getElem?_toArray, List.getElem?_cons_succ, List.getElem?_cons_zero] at  k0 k1 k2 k3
              go_wp2_with (refine wpList_store_row rfl 34 (.tmp 4) (.tmp 99) rfl (w.heap.size + 2) rfl _ rfl 34 _ HRq.out (by kernel_rfl) rfl (by kernel_rfl) ?_)
              refine bodyPost_ret (v := .tuple #[.agg #[.int .i64 (T.n : Int), .slice X.A nA X.ca, .slice X.E nE X.ce, .slice X.M nM X.cm], .int .i64 9]) (results_cell_slot (p := 4) (q := 5) (by kernel_rfl) _ _ (w.heap.size + 2) 34 _ _ rfl (Blk.row HRq.out _) Try.underlying34 rfl (by kernel_rfl) _ rfl) rfl ?_
              rw [HD.out]
              exact ⟨X, by rw [← HNS.out.1, ← HNS.out.2.1, ← HNS.out.2.2]; rfl, HT.out.next (below_row HBq.out (by omega) _), below_row HBq.out (by omega) _, fun _ => XTo.refl _ _ _ _⟩
            · have hbf : (x.p == m.p && ((T.of x).v == m.v && decide (m.l.toNat ≤ (T.of x).l.toNat))) = false := by simpa using hb
              have HZ2 := Lib.hid (all_snoc16 (p := fun y => T.under y m) HZ.out HX_.out (under_no hbf))
              have hq : ((x.p.toNat : Int) == (m.p.toNat : Int)) = false ∨ (((x.p.toNat : Int) == (m.p.toNat : Int)) = true ∧ (((y.a.v.toNat : Int) == (m.v.toNat : Int)) = false ∨ (((y.a.v.toNat : Int) == (m.v.toNat : Int)) = true ∧ decide (m.l.toNat ≤ y.a.l.toNat) = false))) := by
                rw [HYO.out]
                by_cases h1 : x.p = m.p
                · refine .inr ⟨by rw [h1]; simp, ?_⟩
                  by_cases h2 : (T.of x).v = m.v
                  · refine .inr ⟨by rw [h2]; simp, ?_⟩
                    simp only [h1, h2, beq_self_eq_true, Bool.true_and] at hbf
                    simpa using hbf
                  · exact .inl (u16_ne h2)
                · exact .inl (u8_ne h1)
              clear hb hbf
              rcases hq with q1 | ⟨q1, q2 | ⟨q2, q3⟩⟩
              all_goals (
                go_wp2_with fail
                go_quiet (fail)
                go_wp2
                go_roundw
                case rel => exact ⟨k + 1, by have := HLT.out; omega, by go_num, HZ2, Lib.hid (below_drewN16 HBW.out _)⟩
                case measure => have := HLT.out; simp [intOf]; omega)
          · obtain rfl : nE = k := by omega
            rw [List.take_of_length_le (by rw [HNS.out.2.1]; exact Nat.le_refl _)] at HZ
            have HD : Hid (T.addM m = ({ T with M := T.M ++ [m] }, 0)) := Lib.hid (by
              unfold Tb.addM
              rw [if_neg (by rw [HHM.out]; decide), if_neg (by rw [any_no16 HZ1.out]; decide), if_neg (by rw [any_no16 HZ.out]; decide)])
            have HE : Hid (Els 3 miE wr X.M T.M) := Lib.hid (HT.out.mm.next HB.out)
            have HNN : Hid (T.M.length = nM) := Lib.hid HNS.out.2.2
            have HZN : Hid (X.M = none → X.cm = 0) := Lib.hid HT.out.zm
            have HLN : Hid (T.M.length + 1 ≤ 1000000) := Lib.hid (by have := HNS.out.2.2; have := HLM.out; omega)
            have k2 := HK.out.cell 2
            simp only [List.getElem?_toArray, List.getElem?_cons_succ, List.getElem?_cons_zero] at  k2
            clear hlt hk HB1 HK1 HX1 HR1 HBw
            go_upto_region 14 with (fail)
            go_cut [] (fun wx => ∃ v w5, wx = w5.setCell ⟨w.heap.size, 3, none⟩ v ∧ Hid (w5.ownsRow wr.heap.size 41 3 v (T.M ++ [m]).length ((T.M ++ [m]).flatMap miE)) ∧ Hid (Below wr.heap.size wr w5))
            case first =>
              have hltK := HK.out.lt
              have k3 := HK.out.cell 3
              simp only [List.getElem?_toArray, List.getElem?_cons_succ, List.getElem?_cons_zero] at  k3
              refine wp_region_noPanic ?_
              refine wp_region_held_drew (S := fun w_ => Chg (only w.heap.size) wr w_) (by kernel_rfl) (Chg.refl _ wr).drew (fun hHeld => ?_)
              refine wpAnyH_take (i := 0) (v := ?v11) rfl (by kernel_rfl) (by kernel_rfl) (by kernel_rfl) (fun _ _ _ h => h) (Or.inl ⟨by rfl, ?hy11⟩) hHeld ?rest11
              case hy11 =>
                intro w_ hSw; go_simp
                all_goals (with_reducible rfl)
              try simp only [Act.put, List.getElem_toArray, List.getElem_cons_succ, List.getElem_cons_zero, List.setIfInBounds_toArray, List.set_cons_zero, List.set_cons_succ]
              refine wpAnyH_take (i := 3) (v := .agg #[.int .u8 m.p.toNat, .int .u16 m.v.toNat, .int .u8 m.l.toNat]) rfl (by kernel_rfl) (by kernel_rfl) (by kernel_rfl) (fun _ _ _ h => h) (yieldsIf_rowH 41 3 rfl (by rfl) (w.heap.size + 1) rfl 41 _ _ (fun w_ hw => (HX.out.chg (w := wr) hw (by unfold only; omega))) Try.underlying41 rfl (by kernel_rfl)) hHeld ?_
              try simp only [Act.put, List.getElem_toArray, List.getElem_cons_succ, List.getElem_cons_zero, List.setIfInBounds_toArray, List.set_cons_zero, List.set_cons_succ]
              refine wpAnyH_ready (rs := [1, 4]) (by kernel_rfl) (by simp) ?_
              refine AllReadyH.cons rfl (fun K hK => ?_) ?_
              · go_simp
                refine hK.out _ _ (hHeld) (fun hHeld => ?_)
                clear hK K
                try simp only [Act.put, List.getElem_toArray, List.getElem_cons_succ, List.getElem_cons_zero, List.setIfInBounds_toArray, List.set_cons_zero, List.set_cons_succ]
                refine wpAnyH_ready (rs := [2, 4]) (by kernel_rfl) (by simp) ?_
                refine AllReadyH.cons rfl (fun K hK => ?_) ?_
                · refine step_appL rfl (.const (.slice none 0 0)) (.tmp 101) 32 rfl miE_len miE_one (by decide) wr.heap.size 41 i0 _ 6 Try.underlying32 HIT.out rfl _ [] rfl (World.ownsRow_nil _ _ _ _) X.M nM X.cm T.M HNN.out rfl HZN.out (HE.out) (by have := HLN.out; simp; omega) (by decide) (by simp) ?_
                  intro va wa hoa hga _
                  have HOA := Lib.hid (show wa.ownsRow wr.heap.size 41 3 va (T.M).length ((T.M).flatMap miE) by simpa using hoa)
                  clear hoa
                  have HBA : Hid (Below wr.heap.size wr wa) := Lib.hid ((Below.refl wr.heap.size wr).drew.grown hga (by simp) (fun j hj => by cases hj))
                  clear hga
                  refine hK.out _ _ (Chg.of_below HBA.out) (fun hHeld => ?_)
                  clear hK K
                  try simp only [Act.put, List.getElem_toArray, List.getElem_cons_succ, List.getElem_cons_zero, List.setIfInBounds_toArray, List.set_cons_zero, List.set_cons_succ]
                  refine wpAnyH_ready (rs := [4]) (by kernel_rfl) (by simp) ?_
                  refine AllReadyH.cons rfl (fun K hK => ?_) AllReadyH.nil
                  go_simp
                  refine hK.out _ _ ((Chg.of_below HBA.out).alloc _) (fun hHeld => ?_)
                  clear hK K
                  try simp only [Act.put, List.getElem_toArray, List.getElem_cons_succ, List.getElem_cons_zero, List.setIfInBounds_toArray, List.set_cons_zero, List.set_cons_succ]
                  refine wpAnyH_ready (rs := [5]) (by kernel_rfl) (by simp) ?_
                  refine AllReadyH.cons rfl (fun K hK => ?_) AllReadyH.nil
                  refine step_appL rfl (.tmp 102) (.tmp 104) 32 rfl miE_len miE_one (by decide) wr.heap.size 41 i0 _ 6 Try.underlying32 HIT.out rfl va T.M rfl (World.ownsRow.alloc HOA.out _) (some ⟨wa.heap.size, 0, none⟩) 1 1 [m] rfl rfl (fun e => by cases e) (els_one16 wa 41 m _ rfl) (by have := HLN.out; simp; omega) (by decide) (by have := HBA.out.size; simp; omega) ?_
                  intro v5 w5 ho5 hg5 _
                  have hb5 : Below wr.heap.size wr w5 := (HBA.out.alloc HBA.out.size (.cells #[.int .u8 m.p.toNat, .int .u16 m.v.toNat, .int .u8 m.l.toNat] 41)).grown hg5 (by have := HBA.out.size; simp; omega) (fun j hj => (HOA.out.lt j hj).1)
                  have HO9 := Lib.hid ho5
                  have HB9 : Hid (Below wr.heap.size wr w5) := Lib.hid (hb5)
                  have HK9 := Lib.hid (HK.out.below HB9.out HK.out.lt)
                  obtain ⟨A9, c9, e9, _⟩ := own_fullL miE_len HO9.out
                  obtain ⟨m9, hm9⟩ : ∃ q_, (T.M ++ [m]).length = q_ := ⟨_, rfl⟩
                  rw [hm9] at e9
                  clear hm9
                  subst e9
                  have s0 := HK9.out.cell 3
                  have s1 := HK9.out.frozen 3
                  simp only [List.getElem?_toArray, List.getElem?_cons_succ, List.getElem?_cons_zero] at  s0
                  clear ho5 hg5 hb5
                  refine hK.out _ _ (Chg.of_below HB9.out) (fun hHeld => ?_)
                  clear hK K
                  try simp only [Act.put, List.getElem_toArray, List.getElem_cons_succ, List.getElem_cons_zero, List.setIfInBounds_toArray, List.set_cons_zero, List.set_cons_succ]
                  refine wpAnyH_take (i := 6) (v := ?v12) rfl (by kernel_rfl) (by kernel_rfl) (by kernel_rfl) (fun _ _ _ h => h) (Or.inl ⟨by rfl, ?hy12⟩) hHeld ?rest12
                  case hy12 =>
                    intro w_ hSw; go_simp
                    all_goals (with_reducible rfl)
                  try simp only [Act.put, List.getElem_toArray, List.getElem_cons_succ, List.getElem_cons_zero, List.setIfInBounds_toArray, List.set_cons_zero, List.set_cons_succ]
                  refine wpAnyH_ready (rs := [7]) (by kernel_rfl) (by simp) ?_
                  refine AllReadyH.cons rfl (fun K hK => ?_) AllReadyH.nil
                  go_simp
                  refine hK.out _ _ ((Chg.of_below (S := only w.heap.size) HB9.out).setCell (p := ⟨w.heap.size, 3, none⟩) (.inr rfl) _) (fun hHeld => ?_)
                  clear hK K
                  try simp only [Act.put, List.getElem_toArray, List.getElem_cons_succ, List.getElem_cons_zero, List.setIfInBounds_toArray, List.set_cons_zero, List.set_cons_succ]
                  refine wpAnyH_done (by kernel_rfl) ?_ _
                  refine NoPanic.normal ?_
                  clear hHeld
                  go_wp2_with fail
                  go_meet
                  exact ⟨_, _, rfl, HO9, HB9⟩
                · refine AllReadyH.cons rfl (fun K hK => ?_) AllReadyH.nil
                  go_simp
                  refine hK.out _ _ (hHeld.alloc _) (fun hHeld => ?_)
                  clear hK K
                  try simp only [Act.put, List.getElem_toArray, List.getElem_cons_succ, List.getElem_cons_zero, List.setIfInBounds_toArray, List.set_cons_zero, List.set_cons_succ]
                  refine wpAnyH_ready (rs := [2]) (by kernel_rfl) (by simp) ?_
                  refine AllReadyH.cons rfl (fun K hK => ?_) AllReadyH.nil
                  refine step_appL rfl (.const (.slice none 0 0)) (.tmp 101) 32 rfl miE_len miE_one (by decide) wr.heap.size 41 i0 _ 6 Try.underlying32 HIT.out rfl _ [] rfl (World.ownsRow_nil _ _ _ _) X.M nM X.cm T.M HNN.out rfl HZN.out (HE.out.next (w := wr) ((Below.refl wr.heap.size wr).drew.alloc (Nat.le_refl _) (.cells #[.int .u8 m.p.toNat, .int .u16 m.v.toNat, .int .u8 m.l.toNat] 41))) (by have := HLN.out; simp; omega) (by decide) (by simp) ?_
                  intro va wa hoa hga _
                  have HOA := Lib.hid (show wa.ownsRow wr.heap.size 41 3 va (T.M).length ((T.M).flatMap miE) by simpa using hoa)
                  clear hoa
                  have HBA : Hid (Below wr.heap.size wr wa) := Lib.hid (((Below.refl wr.heap.size wr).drew.alloc (Nat.le_refl _) (.cells #[.int .u8 m.p.toNat, .int .u16 m.v.toNat, .int .u8 m.l.toNat] 41)).grown hga (by simp) (fun j hj => by cases hj))
                  have HEA : Hid (Els 3 miE wa (some ⟨wr.heap.size, 0, none⟩) [m]) := Lib.hid ((els_one16 wr.drew 41 m _ rfl).next ((Below.refl _ (wr.drew.alloc (.cells #[.int .u8 m.p.toNat, .int .u16 m.v.toNat, .int .u8 m.l.toNat] 41))).grown hga (Nat.le_refl _) (fun j hj => by cases hj)))
                  clear hga
                  refine hK.out _ _ (Chg.of_below HBA.out) (fun hHeld => ?_)
                  clear hK K
                  try simp only [Act.put, List.getElem_toArray, List.getElem_cons_succ, List.getElem_cons_zero, List.setIfInBounds_toArray, List.set_cons_zero, List.set_cons_succ]
                  refine wpAnyH_ready (rs := [5]) (by kernel_rfl) (by simp) ?_
                  refine AllReadyH.cons rfl (fun K hK => ?_) AllReadyH.nil
                  refine step_appL rfl (.tmp 102) (.tmp 104) 32 rfl miE_len miE_one (by decide) wr.heap.size 41 i0 _ 6 Try.underlying32 HIT.out rfl va T.M rfl (HOA.out) (some ⟨wr.heap.size, 0, none⟩) 1 1 [m] rfl rfl (fun e => by cases e) (HEA.out) (by have := HLN.out; simp; omega) (by decide) (by exact HBA.out.size) ?_
                  intro v5 w5 ho5 hg5 _
                  have hb5 : Below wr.heap.size wr w5 := HBA.out.grown hg5 HBA.out.size (fun j hj => (HOA.out.lt j hj).1)
                  have HO9 := Lib.hid ho5
                  have HB9 : Hid (Below wr.heap.size wr w5) := Lib.hid (hb5)
                  have HK9 := Lib.hid (HK.out.below HB9.out HK.out.lt)
                  obtain ⟨A9, c9, e9, _⟩ := own_fullL miE_len HO9.out
                  obtain ⟨m9, hm9⟩ : ∃ q_, (T.M ++ [m]).length = q_ := ⟨_, rfl⟩
                  rw [hm9] at e9
                  clear hm9
                  subst e9
                  have s0 := HK9.out.cell 3
                  have s1 := HK9.out.frozen 3
                  simp only [List.getElem?_toArray, List.getElem?_cons_succ, List.getElem?_cons_zero] at  s0
                  clear ho5 hg5 hb5
                  refine hK.out _ _ (Chg.of_below HB9.out) (fun hHeld => ?_)
                  clear hK K
                  try simp only [Act.put, List.getElem_toArray, List.getElem_cons_succ, List.getElem_cons_zero, List.setIfInBounds_toArray, List.set_cons_zero, List.set_cons_succ]
                  refine wpAnyH_take (i := 6) (v := ?v13) rfl (by kernel_rfl) (by kernel_rfl) (by kernel_rfl) (fun _ _ _ h => h) (Or.inl ⟨by rfl, ?hy13⟩) hHeld ?rest13
                  case hy13 =>
                    intro w_ hSw; go_simp
                    all_goals (with_reducible rfl)
                  try simp only [Act.put, List.getElem_toArray, List.getElem_cons_succ, List.getElem_cons_zero, List.setIfInBounds_toArray, List.set_cons_zero, List.set_cons_succ]
                  refine wpAnyH_ready (rs := [7]) (by kernel_rfl) (by simp) ?_
                  refine AllReadyH.cons rfl (fun K hK => ?_) AllReadyH.nil
                  go_simp
                  refine hK.out _ _ ((Chg.of_below (S := only w.heap.size) HB9.out).setCell (p := ⟨w.heap.size, 3, none⟩) (.inr rfl) _) (fun hHeld => ?_)
                  clear hK K
                  try simp only [Act.put, List.getElem_toArray, List.getElem_cons_succ, List.getElem_cons_zero, List.setIfInBounds_toArray, List.set_cons_zero, List.set_cons_succ]
                  refine wpAnyH_done (by kernel_rfl) ?_ _
                  refine NoPanic.normal ?_
                  clear hHeld
                  go_wp2_with fail
                  go_meet
                  exact ⟨_, _, rfl, HO9, HB9⟩
              · refine AllReadyH.cons rfl (fun K hK => ?_) AllReadyH.nil
                go_simp
                refine hK.out _ _ (hHeld.alloc _) (fun hHeld => ?_)
                clear hK K
                try simp only [Act.put, List.getElem_toArray, List.getElem_cons_succ, List.getElem_cons_zero, List.setIfInBounds_toArray, List.set_cons_zero, List.set_cons_succ]
                refine wpAnyH_ready (rs := [1]) (by kernel_rfl) (by simp) ?_
                refine AllReadyH.cons rfl (fun K hK => ?_) AllReadyH.nil
                have k3b : (wr.drew.alloc (.cells #[.int .u8 m.p.toNat, .int .u16 m.v.toNat, .int .u8 m.l.toNat] 41)).cell? ⟨w.heap.size, 3, none⟩ = some (.slice X.M nM X.cm) := by
                  have h := ((HK.out.drew).alloc (.cells #[.int .u8 m.p.toNat, .int .u16 m.v.toNat, .int .u8 m.l.toNat] 41)).cell 3
                  simpa only [List.getElem?_toArray, List.getElem?_cons_succ, List.getElem?_cons_zero] using h
                go_simp
                refine hK.out _ _ (hHeld) (fun hHeld => ?_)
                clear hK K
                try simp only [Act.put, List.getElem_toArray, List.getElem_cons_succ, List.getElem_cons_zero, List.setIfInBounds_toArray, List.set_cons_zero, List.set_cons_succ]
                refine wpAnyH_ready (rs := [2]) (by kernel_rfl) (by simp) ?_
                refine AllReadyH.cons rfl (fun K hK => ?_) AllReadyH.nil
                refine step_appL rfl (.const (.slice none 0 0)) (.tmp 101) 32 rfl miE_len miE_one (by decide) wr.heap.size 41 i0 _ 6 Try.underlying32 HIT.out rfl _ [] rfl (World.ownsRow_nil _ _ _ _) X.M nM X.cm T.M HNN.out rfl HZN.out (HE.out.next (w := wr) ((Below.refl wr.heap.size wr).drew.alloc (Nat.le_refl _) (.cells #[.int .u8 m.p.toNat, .int .u16 m.v.toNat, .int .u8 m.l.toNat] 41))) (by have := HLN.out; simp; omega) (by decide) (by simp) ?_
                intro va wa hoa hga _
                have HOA := Lib.hid (show wa.ownsRow wr.heap.size 41 3 va (T.M).length ((T.M).flatMap miE) by simpa using hoa)
                clear hoa
                have HBA : Hid (Below wr.heap.size wr wa) := Lib.hid (((Below.refl wr.heap.size wr).drew.alloc (Nat.le_refl _) (.cells #[.int .u8 m.p.toNat, .int .u16 m.v.toNat, .int .u8 m.l.toNat] 41)).grown hga (by simp) (fun j hj => by cases hj))
                have HEA : Hid (Els 3 miE wa (some ⟨wr.heap.size, 0, none⟩) [m]) := Lib.hid ((els_one16 wr.drew 41 m _ rfl).next ((Below.refl _ (wr.drew.alloc (.cells #[.int .u8 m.p.toNat, .int .u16 m.v.toNat, .int .u8 m.l.toNat] 41))).grown hga (Nat.le_refl _) (fun j hj => by cases hj)))
                clear hga
                refine hK.out _ _ (Chg.of_below HBA.out) (fun hHeld => ?_)
                clear hK K
                try simp only [Act.put, List.getElem_toArray, List.getElem_cons_succ, List.getElem_cons_zero, List.setIfInBounds_toArray, List.set_cons_zero, List.set_cons_succ]
                refine wpAnyH_ready (rs := [5]) (by kernel_rfl) (by simp) ?_
                refine AllReadyH.cons rfl (fun K hK => ?_) AllReadyH.nil
                refine step_appL rfl (.tmp 102) (.tmp 104) 32 rfl miE_len miE_one (by decide) wr.heap.size 41 i0 _ 6 Try.underlying32 HIT.out rfl va T.M rfl (HOA.out) (some ⟨wr.heap.size, 0, none⟩) 1 1 [m] rfl rfl (fun e => by cases e) (HEA.out) (by have := HLN.out; simp; omega) (by decide) (by exact HBA.out.size) ?_
                intro v5 w5 ho5 hg5 _
                have hb5 : Below wr.heap.size wr w5 := HBA.out.grown hg5 HBA.out.size (fun j hj => (HOA.out.lt j hj).1)
                have HO9 := Lib.hid ho5
                have HB9 : Hid (Below wr.heap.size wr w5) := Lib.hid (hb5)
                have HK9 := Lib.hid (HK.out.below HB9.out HK.out.lt)
                obtain ⟨A9, c9, e9, _⟩ := own_fullL miE_len HO9.out
                obtain ⟨m9, hm9⟩ : ∃ q_, (T.M ++ [m]).length = q_ := ⟨_, rfl⟩
                rw [hm9] at e9
                clear hm9
                subst e9
                have s0 := HK9.out.cell 3
                have s1 := HK9.out.frozen 3
                simp only [List.getElem?_toArray, List.getElem?_cons_succ, List.getElem?_cons_zero] at  s0
                clear ho5 hg5 hb5
                refine hK.out _ _ (Chg.of_below HB9.out) (fun hHeld => ?_)
                clear hK K
                try simp only [Act.put, List.getElem_toArray, List.getElem_cons_succ, List.getElem_cons_zero, List.setIfInBounds_toArray, List.set_cons_zero, List.set_cons_succ]
                refine wpAnyH_take (i := 6) (v := ?v14) rfl (by kernel_rfl) (by kernel_rfl) (by kernel_rfl) (fun _ _ _ h => h) (Or.inl ⟨by rfl, ?hy14⟩) hHeld ?rest14
                case hy14 =>
                  intro w_ hSw; go_simp
                  all_goals (with_reducible rfl)
                try simp only [Act.put, List.getElem_toArray, List.getElem_cons_succ, List.getElem_cons_zero, List.setIfInBounds_toArray, List.set_cons_zero, List.set_cons_succ]
                refine wpAnyH_ready (rs := [7]) (by kernel_rfl) (by simp) ?_
                refine AllReadyH.cons rfl (fun K hK => ?_) AllReadyH.nil
                go_simp
                refine hK.out _ _ ((Chg.of_below (S := only w.heap.size) HB9.out).setCell (p := ⟨w.heap.size, 3, none⟩) (.inr rfl) _) (fun hHeld => ?_)
                clear hK K
                try simp only [Act.put, List.getElem_toArray, List.getElem_cons_succ, List.getElem_cons_zero, List.setIfInBounds_toArray, List.set_cons_zero, List.set_cons_succ]
                refine wpAnyH_done (by kernel_rfl) ?_ _
                refine NoPanic.normal ?_
                clear hHeld
                go_wp2_with fail
                go_meet
                exact ⟨_, _, rfl, HO9, HB9⟩
            obtain ⟨v9, w5, rfl, HO9, HB9⟩ := hcut
            have HK9 := Lib.hid (HK.out.below HB9.out HK.out.lt)
            have HR9 := Lib.hid (HR.out.below HB9.out HR.out.lt)
            have HBW9 : Hid (Below w.heap.size w w5) := Lib.hid (HB.out.trans (HB9.out.mono HB.out.size))
            obtain ⟨A9, c9, rfl, hE9, _, hz9, hA9⟩ := own_fullL miE_len HO9.out
            obtain ⟨m9, hm9⟩ : ∃ q_, (T.M ++ [m]).length = q_ := ⟨_, rfl⟩
            have HM9 := Lib.hid hm9
            have HE9 := Lib.hid (And.intro hE9 (And.intro hz9 hA9))
            rw [hm9]
            have HKs : Hid (Blk (w5.setCell ⟨w.heap.size, 3, none⟩ (.slice A9 m9 c9)) w.heap.size 34 #[.int .i64 (T.n : Int), .slice X.A nA X.ca, .slice X.E nE X.ce, .slice A9 m9 c9]) := Lib.hid (by
              have := HK9.out.put 3 (.slice A9 m9 c9)
              simpa using this)
            have HRs : Hid (Blk (w5.setCell ⟨w.heap.size, 3, none⟩ (.slice A9 m9 c9)) (w.heap.size + 2) 34 #[.int .i64 0, .slice none 0 0, .slice none 0 0, .slice none 0 0]) := Lib.hid (HR9.out.far (p := ⟨w.heap.size, 3, none⟩) (by show w.heap.size + 2 ≠ w.heap.size; omega) _)
            have HBs : Hid (Below w.heap.size w (w5.setCell ⟨w.heap.size, 3, none⟩ (.slice A9 m9 c9))) := Lib.hid (HBW9.out.setCell (p := ⟨w.heap.size, 3, none⟩) (Nat.le_refl _) _)
            have HC : Hid (∀ cs, Chg (fun j => j = w.heap.size ∨ j = w.heap.size + 2) w5 ((w5.setCell ⟨w.heap.size, 3, none⟩ (.slice A9 m9 c9)).setRow (w.heap.size + 2) cs)) := Lib.hid (fun cs => ((Chg.refl _ _).setCell (p := ⟨w.heap.size, 3, none⟩) (.inr (.inl rfl)) _).setRow (.inr (.inr rfl)) _)
            have hw2 : w.heap.size + 2 < wr.heap.size := HR.out.lt
            have HW2 := Lib.hid hw2
            have s0 := HKs.out.cell 0
            have s1 := HKs.out.cell 1
            have s2 := HKs.out.cell 2
            have s3 := HKs.out.cell 3
            simp only [List.getElem?_toArray, List.getElem?_cons_succ, List.getElem?_cons_zero] at  s0 s1 s2 s3
            clear hm9 hE9 hz9 hA9 HO9 hw2
            go_wp2_with (refine wpList_store_row rfl 34 (.tmp 4) (.tmp 107) rfl (w.heap.size + 2) rfl _ rfl 34 _ HRs.out (by kernel_rfl) rfl (by kernel_rfl) ?_)
            refine bodyPost_ret (v := .tuple #[.agg #[.int .i64 (T.n : Int), .slice X.A nA X.ca, .slice X.E nE X.ce, .slice A9 m9 c9], .int .i64 0]) (results_cell_slot (p := 4) (q := 5) (by kernel_rfl) _ _ (w.heap.size + 2) 34 _ _ rfl (Blk.row HRs.out _) Try.underlying34 rfl (by kernel_rfl) _ rfl) rfl ?_
            rw [HD.out]
            refine ⟨{ X with M := A9, cm := c9 }, by rw [← HM9.out, ← HNS.out.1, ← HNS.out.2.1]; rfl, ?_, below_row HBs.out (by omega) _, fun _ => ⟨.inl rfl, .inl rfl, .inr (fun a ha => by have h1 := HE9.out.2.2 a ha; have := HW2.out; refine ⟨by omega, ?_⟩; have h2 := h1.2; first | (simpa [World.setCell] using h2) | (simpa using h2) | omega), fun x hx => .inl hx⟩⟩
            have h := HT.out.next (below_row (g := w.heap.size + 2) HBs.out (by omega) #[.int .i64 (T.n : Int), .slice X.A nA X.ca, .slice X.E nE X.ce, .slice A9 m9 c9])
            have hN := elsL_chg HE9.out.1 (HC.out #[.int .i64 (T.n : Int), .slice X.A nA X.ca, .slice X.E nE X.ce, .slice A9 m9 c9]) (fun a ha hh => by have := (HE9.out.2.2 a ha).1; have := HW2.out; rcases hh with hh | hh <;> omega)
            exact ⟨h.la, h.ea, h.em, h.ee, hN, h.za, h.ze, HE9.out.2.1⟩
  · have HD : Hid (T.addM m = (T, 2)) := Lib.hid (by
      unfold Tb.addM
      rw [if_pos (by simpa using hM)])
    have hwp : IntKind.i64.wrap (m.p.toNat : Int) = (m.p.toNat : Int) := by have := m.p.toNat_lt; simp [IntKind.wrap, IntKind.signed, IntKind.bits]; omega
    have hq : (T.n : Int) ≤ (m.p.toNat : Int) ∨ ((m.p.toNat : Int) < (T.n : Int) ∧ ((m.v.toNat : Int) < 1 ∨ (¬ (m.v.toNat : Int) < 1 ∧ ((4094 : Int) < (m.v.toNat : Int) ∨ (¬ (4094 : Int) < (m.v.toNat : Int) ∧ (7 : Int) < (m.l.toNat : Int)))))) := by
      unfold Tb.hasM at hM
      simp only [Bool.and_eq_true, decide_eq_true_eq, not_and] at hM
      by_cases h1 : m.p.toNat < T.n
      · refine .inr ⟨by omega, ?_⟩
        by_cases h2 : 0 < m.v.toNat
        · by_cases h3 : m.v.toNat < 4095
          · have := hM h1 ⟨h2, h3⟩
            exact .inr ⟨by omega, .inr ⟨by omega, by omega⟩⟩
          · exact .inr ⟨by omega, .inl (by omega)⟩
        · exact .inl (by omega)
      · exact .inl (by omega)
    clear hM
    have x0 := HX0.out.cell 0
    have x1 := HX0.out.cell 1
    have x2 := HX0.out.cell 2
    simp only [List.getElem?_toArray, List.getElem?_cons_succ, List.getElem?_cons_zero] at x0 x1 x2
    rcases hq with p1 | ⟨p1, p2 | ⟨p2, p3 | ⟨p3, p4⟩⟩⟩
    all_goals (
      go_enter Try.func26, Try.ntmps26
      have k0 := HK0.out.cell 0
      have k1 := HK0.out.cell 1
      have k2 := HK0.out.cell 2
      have k3 := HK0.out.cell 3
      simp only [List.getElem?_toArray, List.getElem?_cons_succ, List.getElem?_cons_zero] at  k0 k1 k2 k3
      go_wp2_with (first | (rw [hw0]) | refine wpList_store_row rfl 34 (.tmp 4) (.tmp 30) rfl (w.heap.size + 2) rfl _ rfl 34 _ HR0.out (by kernel_rfl) rfl (by kernel_rfl) ?_)
      refine bodyPost_ret (v := .tuple #[.agg #[.int .i64 (T.n : Int), .slice X.A nA X.ca, .slice X.E nE X.ce, .slice X.M nM X.cm], .int .i64 2]) (results_cell_slot (p := 4) (q := 5) (by kernel_rfl) _ _ (w.heap.size + 2) 34 _ _ rfl (Blk.row HR0.out _) Try.underlying34 rfl (by kernel_rfl) _ rfl) rfl ?_
      rw [HD.out]
      exact ⟨X, by rw [← HNS.out.1, ← HNS.out.2.1, ← HNS.out.2.2]; rfl, HT.out.next (below_row HB0.out (by omega) _), below_row HB0.out (by omega) _, fun _ => XTo.refl _ _ _ _⟩
)
end Go.Proofs.Ytfdiolfelecccaa
