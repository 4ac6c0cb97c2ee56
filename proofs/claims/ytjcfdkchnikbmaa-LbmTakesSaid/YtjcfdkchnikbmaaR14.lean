/- Layer 14: the document's Put, Take. -/
import Derived.Test.YtjcfdkchnikbmaaLo
import Derived.Test.YtjcfdkchnikbmaaRefRd
import Derived.Test.YtjcfdkchnikbmaaRefNum
import Derived.Test.YtjcfdkchnikbmaaFind11
import Derived.Test.YtjcfdkchnikbmaaRt11
import Derived.Deep.RegionHeld3
import Derived.Deep.DeepCutAuto
import Derived.StillTailTactics
namespace Go.Proofs.Ytjcfdkchnikbmaa
open Go.RowKit
set_option linter.unusedVariables false
set_option linter.unusedSimpArgs false
set_option maxRecDepth 100000

theorem wp_store_rowT {P : Program} {o : Oper} {a : Act} {w : World} {K : Act → World → Prop} {Q : Exit → Act → World → Prop} (ty : TypeId) (p v : Operand) (ho : o.op = .store ty p v)
    (g : Nat) (hp : a.eval p = .pointer (some ⟨g, 0, none⟩)) (c' : Array Value) (hv : a.eval v = .agg c') (t : TypeId) (cs : Array Value) (hg : Blk w g t cs)
    (hi : (P.info? ty).map (·.size) = some c'.size) (hs : cs.size = c'.size) (h1 : c'.all (·.oneCell') = true)
    (h : K (a.put o.dst (.tuple #[])) (w.setRow g c')) : Oper.wp P o a w K Q := by
  unfold Oper.wp execOp
  simp only [ho, hp, hv, Instr.storeAt, Instr.sureAddr, Sem.run_bind, Sem.run_pure, Result.andThen_ok, run_storeVar_row w g t ty cs c' hg hi hs h1]
  exact h
theorem num4_any (q : UInt32) (w : World) :
    Calls Try.prog 20 #[.int .u64 (q.toNat : Int), .int .i64 4] w fun e w' => e = .returned (.string ⟨(dig 4 q.toNat).toArray⟩) ∧ Below w.heap.size w w' := by
  have := numstr_any 4 (q.toNat : Int) w (by omega) (by have := q.toNat_lt; omega) (by decide)
  rw [show ((q.toNat : Int)).toNat = q.toNat by omega] at this
  exact this
set_option maxHeartbeats 4000000 in
theorem refput14_any (o : Lo) (w : World) :
    Calls Try.prog 9 #[LoV o] w fun e w' => ∃ A k, e = .returned (.tuple #[PdV (loP o) A k, .int .i64 (loE o : Nat)]) ∧ Els 2 tlV w' A (loP o).t ∧ (A = none → k = 0) ∧ Below w.heap.size w w' := by
  have HB0 : Hid (Below w.heap.size w ((w.alloc (.cells #[.int .u8 o.l.toNat, .bool o.r, .int .u32 o.q.toNat, .string ⟨o.d.toArray⟩] 24)).alloc (.cells #[.int .u8 0, .int .u8 0, .int .u8 0, .string ⟨#[]⟩, .slice none 0 0] 36))) := Lib.hid (((Below.refl _ _).alloc (Nat.le_refl _) _).alloc (by simp) _)
  have HK0 : Hid (Blk ((w.alloc (.cells #[.int .u8 o.l.toNat, .bool o.r, .int .u32 o.q.toNat, .string ⟨o.d.toArray⟩] 24)).alloc (.cells #[.int .u8 0, .int .u8 0, .int .u8 0, .string ⟨#[]⟩, .slice none 0 0] 36)) w.heap.size 24 #[.int .u8 o.l.toNat, .bool o.r, .int .u32 o.q.toNat, .string ⟨o.d.toArray⟩]) := Lib.hid ((Blk.new _ _ _).alloc _)
  have HR0 : Hid (Blk ((w.alloc (.cells #[.int .u8 o.l.toNat, .bool o.r, .int .u32 o.q.toNat, .string ⟨o.d.toArray⟩] 24)).alloc (.cells #[.int .u8 0, .int .u8 0, .int .u8 0, .string ⟨#[]⟩, .slice none 0 0] 36)) (w.heap.size + 1) 36 #[.int .u8 0, .int .u8 0, .int .u8 0, .string ⟨#[]⟩, .slice none 0 0]) := Lib.hid (by
    have := Blk.new (w.alloc (.cells #[.int .u8 o.l.toNat, .bool o.r, .int .u32 o.q.toNat, .string ⟨o.d.toArray⟩] 24)) 36 #[.int .u8 0, .int .u8 0, .int .u8 0, .string ⟨#[]⟩, .slice none 0 0]
    simpa using this)
  by_cases h1 : 7 < o.l.toNat
  · have d1 : (7 : Int) < (o.l.toNat : Int) := by omega
    have HE : Hid (loE o = 2 ∧ loP o = pd0) := Lib.hid (by
      have e : loE o = 2 := by unfold loE; rw [if_pos h1]
      exact ⟨e, loP_no (by omega)⟩)
    clear h1
    go_enter Try.func9, Try.ntmps9
    go_wp2_with (refine wpList_store_row rfl 36 (.tmp 2) (.tmp 8) rfl (w.heap.size + 1) rfl _ rfl 36 _ HR0.out (by kernel_rfl) rfl (by kernel_rfl) ?_)
    refine bodyPost_ret (v := .tuple #[.agg #[.int .u8 0, .int .u8 0, .int .u8 0, .string ⟨#[]⟩, .slice none 0 0], .int .i64 2]) (results_cell_slot (p := 2) (q := 3) (by kernel_rfl) _ _ (w.heap.size + 1) 36 _ _ rfl (Blk.row HR0.out _) Try.underlying36 rfl (by kernel_rfl) _ rfl) rfl ?_
    exact ⟨none, 0, by rw [HE.out.1, HE.out.2]; rfl, by rw [HE.out.2]; exact els_nilL _ _, fun _ => rfl, below_row HB0.out (by omega) _⟩
  · have d1 : ¬ (7 : Int) < (o.l.toNat : Int) := by omega
    by_cases h2 : 64 < o.d.length
    · have d2 : (64 : Int) < (o.d.length : Int) := by omega
      have HE : Hid (loE o = 5 ∧ loP o = pd0) := Lib.hid (by
        have e : loE o = 5 := by unfold loE; rw [if_neg h1, if_pos h2]
        exact ⟨e, loP_no (by omega)⟩)
      clear h1 h2
      go_enter Try.func9, Try.ntmps9
      go_wp2_with (refine wpList_store_row rfl 36 (.tmp 2) (.tmp 13) rfl (w.heap.size + 1) rfl _ rfl 36 _ HR0.out (by kernel_rfl) rfl (by kernel_rfl) ?_)
      refine bodyPost_ret (v := .tuple #[.agg #[.int .u8 0, .int .u8 0, .int .u8 0, .string ⟨#[]⟩, .slice none 0 0], .int .i64 5]) (results_cell_slot (p := 2) (q := 3) (by kernel_rfl) _ _ (w.heap.size + 1) 36 _ _ rfl (Blk.row HR0.out _) Try.underlying36 rfl (by kernel_rfl) _ rfl) rfl ?_
      exact ⟨none, 0, by rw [HE.out.1, HE.out.2]; rfl, by rw [HE.out.2]; exact els_nilL _ _, fun _ => rfl, below_row HB0.out (by omega) _⟩
    · have d2 : ¬ (64 : Int) < (o.d.length : Int) := by omega
      have h0 : loE o = 0 := by unfold loE; rw [if_neg h1, if_neg h2]
      obtain ⟨D, hD⟩ : ∃ D, dig 4 o.q.toNat = D := ⟨_, rfl⟩
      have KN1 := Lib.hid (fun w => num4_any o.q w)
      rw [hD] at KN1
      have HE : Hid (loE o = 0 ∧ loP o = ⟨o.l, loO o, 0, D, loT o⟩) := Lib.hid ⟨h0, by rw [← hD]; exact loP_ok h0⟩
      have hwq : IntKind.u64.wrap (o.q.toNat : Int) = (o.q.toNat : Int) := by have := o.q.toNat_lt; simp [IntKind.wrap, IntKind.signed, IntKind.bits]; omega
      have HDL := Lib.hid (show o.d.length ≤ 64 by omega)
      clear h0 h1 h2 hD
      go_enter Try.func9, Try.ntmps9
      go_upto_region 5 with (fail)
      generalize ((w.alloc (.cells #[.int .u8 o.l.toNat, .bool o.r, .int .u32 o.q.toNat, .string ⟨o.d.toArray⟩] 24)).alloc (.cells #[.int .u8 0, .int .u8 0, .int .u8 0, .string ⟨#[]⟩, .slice none 0 0] 36)) = w5 at *
      have c0 := HK0.out.cell 0
      have c2 := HK0.out.cell 2
      simp only [List.getElem?_toArray, List.getElem?_cons_succ, List.getElem?_cons_zero] at c0 c2
      have hlt5 := HK0.out.lt
      have HLT5 : Hid (w.heap.size + 1 < w5.heap.size) := Lib.hid HR0.out.lt
      go_cut [4] from 14 to 21 (fun z wx => ∃ g, z = .pointer (some ⟨g, 0, none⟩) ∧ Hid (Blk wx g 36 #[.int .u8 o.l.toNat, .int .u8 3, .int .u8 0, .string ⟨D.toArray⟩, .slice none 0 0]) ∧ Hid (w.heap.size + 1 < g) ∧ Hid (Below w5.heap.size w5 wx))
      case first =>
        refine wp_region_noPanic ?_
        refine wp_region_held_drew (S := fun w_ => Below w5.heap.size w5 w_) (by kernel_rfl) (Below.refl _ w5).drew (fun hHeld => ?_)
        refine wpAnyH_take (i := 0) (v := ?v1) rfl (by kernel_rfl) (by kernel_rfl) (by kernel_rfl) (fun _ _ _ h => h) (Or.inl ⟨by rfl, ?hy1⟩) hHeld ?rest1
        case hy1 =>
          intro w_ hSw; go_simp
          all_goals (with_reducible rfl)
        try simp only [Act.put, List.setIfInBounds_toArray, List.set_cons_zero, List.set_cons_succ]
        refine wpAnyH_take (i := 1) (v := ?v2) rfl (by kernel_rfl) (by kernel_rfl) (by kernel_rfl) (fun _ _ _ h => h) (Or.inl ⟨by rfl, ?hy2⟩) hHeld ?rest2
        case hy2 =>
          intro w_ hSw; have hc := (hSw.cell (p := ⟨w.heap.size, 0, none⟩) hlt5).trans c0; go_simp
          all_goals (with_reducible rfl)
        try simp only [Act.put, List.setIfInBounds_toArray, List.set_cons_zero, List.set_cons_succ]
        refine wpAnyH_take (i := 2) (v := ?v3) rfl (by kernel_rfl) (by kernel_rfl) (by kernel_rfl) (fun _ _ _ h => h) (Or.inl ⟨by rfl, ?hy3⟩) hHeld ?rest3
        case hy3 =>
          intro w_ hSw; go_simp
          all_goals (with_reducible rfl)
        try simp only [Act.put, List.setIfInBounds_toArray, List.set_cons_zero, List.set_cons_succ]
        refine wpAnyH_take (i := 3) (v := ?v4) rfl (by kernel_rfl) (by kernel_rfl) (by kernel_rfl) (fun _ _ _ h => h) (Or.inl ⟨by rfl, ?hy4⟩) hHeld ?rest4
        case hy4 =>
          intro w_ hSw; have hc := (hSw.cell (p := ⟨w.heap.size, 2, none⟩) hlt5).trans c2; go_simp
          all_goals (with_reducible rfl)
        try simp only [Act.put, List.setIfInBounds_toArray, List.set_cons_zero, List.set_cons_succ]
        refine wpAnyH_take (i := 4) (v := ?v5) rfl (by kernel_rfl) (by kernel_rfl) (by kernel_rfl) (fun _ _ _ h => h) (Or.inl ⟨by rfl, ?hy5⟩) hHeld ?rest5
        case hy5 =>
          intro w_ hSw; go_simp
          all_goals (with_reducible rfl)
        try simp only [Act.put, List.setIfInBounds_toArray, List.set_cons_zero, List.set_cons_succ]
        refine wpAnyH_ready (rs := [5, 7]) (by kernel_rfl) (by simp) ?_
        refine AllReadyH.cons rfl (fun K hK => ?_) ?_
        · go_simp
          go_at_call 20
          refine (KN1.out _).mono ?_
          rintro r w_ ⟨rfl, hb_⟩
          have hS : Below w5.heap.size w5 w_ := hHeld.trans (hb_.mono hHeld.size)
          refine hK.out _ _ (hS) (fun hHeld => ?_)
          clear hK K
          try simp only [Act.put, List.setIfInBounds_toArray, List.set_cons_zero, List.set_cons_succ]
          refine wpAnyH_take (i := 6) (v := ?v6) rfl (by kernel_rfl) (by kernel_rfl) (by kernel_rfl) (fun _ _ _ h => h) (Or.inl ⟨by rfl, ?hy6⟩) hHeld ?rest6
          case hy6 =>
            intro w_ hSw; go_simp
            all_goals (with_reducible rfl)
          try simp only [Act.put, List.setIfInBounds_toArray, List.set_cons_zero, List.set_cons_succ]
          refine wpAnyH_ready (rs := [7]) (by kernel_rfl) (by simp) ?_
          refine AllReadyH.cons rfl (fun K hK => ?_) AllReadyH.nil
          go_simp
          refine hK.out _ _ (hS.alloc hS.size _) (fun hHeld => ?_)
          clear hK K
          try simp only [Act.put, List.setIfInBounds_toArray, List.set_cons_zero, List.set_cons_succ]
          refine wpAnyH_ready (rs := [8]) (by kernel_rfl) (by simp) ?_
          refine AllReadyH.cons rfl (fun K hK => ?_) AllReadyH.nil
          rw [if_pos (by rfl)]
          refine wp_store_rowT 36 (.tmp 4) (.tmp 20) rfl w_.heap.size rfl #[.int .u8 o.l.toNat, .int .u8 3, .int .u8 0, .string ⟨D.toArray⟩, .slice none 0 0] rfl 36 _ (Blk.new w_ _ _) (by kernel_rfl) rfl (by kernel_rfl) ?_
          refine hK.out _ _ (below_row (hS.alloc hS.size _) hS.size _) (fun hHeld => ?_)
          clear hK K
          try simp only [Act.put, List.setIfInBounds_toArray, List.set_cons_zero, List.set_cons_succ]
          refine wpAnyH_done (by kernel_rfl) ?_ _
          refine NoPanic.normal ?_
          go_wp2_with fail
          go_meet
          exact ⟨w_.heap.size, rfl, Lib.hid ((Blk.new w_ _ _).row _), Lib.hid (by have := HLT5.out; have := hS.size; omega), Lib.hid hHeld⟩
        · refine AllReadyH.cons rfl (fun K hK => ?_) AllReadyH.nil
          go_simp
          refine hK.out _ _ (hHeld.alloc hHeld.size _) (fun hHeld => ?_)
          clear hK K
          try simp only [Act.put, List.setIfInBounds_toArray, List.set_cons_zero, List.set_cons_succ]
          refine wpAnyH_ready (rs := [5]) (by kernel_rfl) (by simp) ?_
          refine AllReadyH.cons rfl (fun K hK => ?_) AllReadyH.nil
          go_simp
          go_at_call 20
          refine (KN1.out _).mono ?_
          rintro r w_ ⟨rfl, hb_⟩
          have hS : Below w5.heap.size w5 w_ := hHeld.trans (hb_.mono hHeld.size)
          refine hK.out _ _ (hS) (fun hHeld => ?_)
          clear hK K
          try simp only [Act.put, List.setIfInBounds_toArray, List.set_cons_zero, List.set_cons_succ]
          refine wpAnyH_take (i := 6) (v := ?v7) rfl (by kernel_rfl) (by kernel_rfl) (by kernel_rfl) (fun _ _ _ h => h) (Or.inl ⟨by rfl, ?hy7⟩) hHeld ?rest7
          case hy7 =>
            intro w_ hSw; go_simp
            all_goals (with_reducible rfl)
          try simp only [Act.put, List.setIfInBounds_toArray, List.set_cons_zero, List.set_cons_succ]
          refine wpAnyH_ready (rs := [8]) (by kernel_rfl) (by simp) ?_
          refine AllReadyH.cons rfl (fun K hK => ?_) AllReadyH.nil
          rw [if_pos (by rfl)]
          refine wp_store_rowT 36 (.tmp 4) (.tmp 20) rfl w5.heap.size rfl #[.int .u8 o.l.toNat, .int .u8 3, .int .u8 0, .string ⟨D.toArray⟩, .slice none 0 0] rfl 36 _ ((Blk.new w5.drew _ _).below hb_ (by simp)) (by kernel_rfl) rfl (by kernel_rfl) ?_
          refine hK.out _ _ (below_row hS (Nat.le_refl _) _) (fun hHeld => ?_)
          clear hK K
          try simp only [Act.put, List.setIfInBounds_toArray, List.set_cons_zero, List.set_cons_succ]
          refine wpAnyH_done (by kernel_rfl) ?_ _
          refine NoPanic.normal ?_
          go_wp2_with fail
          go_meet
          exact ⟨w5.heap.size, rfl, Lib.hid (((Blk.new w5.drew _ _).below hb_ (by simp)).row _), Lib.hid (by have := HLT5.out; omega), Lib.hid hHeld⟩
      obtain ⟨g4, rfl, HP6, HG4, HBx⟩ := hcut
      have HKc := Lib.hid (HK0.out.below HBx.out HK0.out.lt)
      have HRc := Lib.hid (HR0.out.below HBx.out HR0.out.lt)
      have HBc : Hid (Below w.heap.size w wc) := Lib.hid (HB0.out.trans (HBx.out.mono HB0.out.size))
      clear HBx HK0 HR0 HB0 HLT5 hlt5 c0 c2
      have c1 := HKc.out.cell 1
      have c3 := HKc.out.cell 3
      simp only [List.getElem?_toArray, List.getElem?_cons_succ, List.getElem?_cons_zero] at c1 c3
      cases hr : o.r
      · have HO : Hid (loO o = 3) := Lib.hid (by unfold loO; rw [hr]; rfl)
        rw [hr] at c1
        clear hr
        have HP7 := HP6
        have HK7 := HKc
        have HR7 := HRc
        have HB7 := HBc
        go_upto_region 8 with (fail)
        clear c1 c3
        generalize wc = w6 at *
        clear HP6 HKc HRc HBc
        have c3 := HK7.out.cell 3
        simp only [List.getElem?_toArray, List.getElem?_cons_succ, List.getElem?_cons_zero] at c3
        have HG6 : Hid (g4 < w6.heap.size) := Lib.hid HP7.out.lt
        by_cases hd : o.d = []
        · have p0 : ¬ (0 : Int) < (o.d.length : Int) := by rw [hd]; simp
          have p0' : ¬ 0 < o.d.length := by rw [hd]; simp
          have HT : Hid (loT o = []) := Lib.hid (by unfold loT; rw [if_pos hd])
          clear hd
          have q0 := HP7.out.cell 0
          have q1 := HP7.out.cell 1
          have q2 := HP7.out.cell 2
          have q3 := HP7.out.cell 3
          have q4 := HP7.out.cell 4
          simp only [List.getElem?_toArray, List.getElem?_cons_succ, List.getElem?_cons_zero] at q0 q1 q2 q3 q4
          go_wp2_with (refine wpList_store_row rfl 36 (.tmp 2) (.tmp 36) rfl (w.heap.size + 1) rfl _ rfl 36 _ HR7.out (by kernel_rfl) rfl (by kernel_rfl) ?_)
          refine bodyPost_ret (v := .tuple #[.agg #[.int .u8 o.l.toNat, .int .u8 3, .int .u8 0, .string ⟨D.toArray⟩, .slice none 0 0], .int .i64 0]) (results_cell_slot (p := 2) (q := 3) (by kernel_rfl) _ _ (w.heap.size + 1) 36 _ _ rfl (Blk.row HR7.out _) Try.underlying36 rfl (by kernel_rfl) _ rfl) rfl ?_
          exact ⟨none, 0, by rw [HE.out.1, HE.out.2, HO.out, HT.out]; rfl, by rw [HE.out.2]; show Els 2 tlV _ none (loT o); rw [HT.out]; exact els_nilL _ _, fun _ => rfl, below_row HB7.out (by omega) _⟩
        · have h0 : 0 < o.d.length := List.length_pos_iff.2 hd
          have p0 : (0 : Int) < (o.d.length : Int) := by omega
          have HT : Hid (loT o = [⟨3, o.d⟩]) := Lib.hid (by unfold loT; rw [if_neg hd])
          obtain ⟨i0, hi⟩ := info_parts infoRl
          have HIT := Lib.hid hi
          clear hd hi
          have q4 := HP7.out.cell 4
          simp only [List.getElem?_toArray, List.getElem?_cons_succ, List.getElem?_cons_zero] at q4
          go_wp2_with (at_builtin; refine wpl_appL rfl (.tmp 29) (.tmp 33) _ rfl tlV_len tlV_one (by decide) w6.heap.size _ i0 _ 24 Try.underlying34 HIT.out rfl _ ([] : List Tl) rfl (World.ownsRow_nil _ _ _ _) (some ⟨w6.heap.size, 0, none⟩) 1 1 [⟨3, o.d⟩] rfl rfl (fun e => by cases e) (els_oneL w6 _ ⟨3, o.d⟩ _ rfl) (by simp) (by decide) (by simp) ?_)
          intro v5 w7 ho5 hg5 _
          have hb7 : Below w6.heap.size w6 w7 := ((Below.refl _ _).alloc (Nat.le_refl _) _).grown hg5 (by simp) (fun k hk => by cases hk)
          have HP8 := Lib.hid (HP7.out.below hb7 HP7.out.lt)
          have HR8 := Lib.hid (HR7.out.below hb7 HR7.out.lt)
          have HB8 : Hid (Below w.heap.size w w7) := Lib.hid (HB7.out.trans (hb7.mono HB7.out.size))
          obtain ⟨A, k, hv, hE, _, hA, hO⟩ := own_fullL (l := [(⟨3, o.d⟩ : Tl)]) tlV_len (by simpa using ho5)
          subst hv
          have HEA := Lib.hid (And.intro hE (And.intro hA hO))
          clear ho5 hg5 hE hA hO hb7 HP7 HR7 HB7 HK7 c3 q4
          have q0 := HP8.out.cell 0
          have q1 := HP8.out.cell 1
          have q2 := HP8.out.cell 2
          have q3 := HP8.out.cell 3
          have q4 := HP8.out.cell 4
          simp only [List.getElem?_toArray, List.getElem?_cons_succ, List.getElem?_cons_zero] at q0 q1 q2 q3 q4
          have qf := HP8.out.frozen 4
          have HP9 : Hid (Blk (w7.setCell ⟨g4, 4, none⟩ (.slice A 1 k)) g4 36 #[.int .u8 o.l.toNat, .int .u8 3, .int .u8 0, .string ⟨D.toArray⟩, .slice A 1 k]) := Lib.hid (by
            have := HP8.out.put 4 (.slice A 1 k)
            simpa using this)
          have HR9 := Lib.hid (HR8.out.far (p := ⟨g4, 4, none⟩) (by have := HG4.out; show w.heap.size + 1 ≠ g4; omega) (.slice A 1 k))
          have HB9 : Hid (Below w.heap.size w (w7.setCell ⟨g4, 4, none⟩ (.slice A 1 k))) := Lib.hid (HB8.out.setCell (by have := HG4.out; show w.heap.size ≤ g4; omega) _)
          have HE9 : Hid (Els 2 tlV (w7.setCell ⟨g4, 4, none⟩ (.slice A 1 k)) A [⟨3, o.d⟩]) := Lib.hid (elsL_chg HEA.out.1 ((Chg.refl (only g4) w7).setCell (.inr (by exact rfl)) _) (fun a ha h => by have h1 := (HEA.out.2.2 a ha).1; have h2 := HG6.out; unfold only at h; omega))
          clear HP8 HR8 HB8
          go_upto_region 10 with (fail)
          generalize w7.setCell ⟨g4, 4, none⟩ (.slice A 1 k) = w9 at *
          clear q0 q1 q2 q3 q4 qf
          have q0 := HP9.out.cell 0
          have q1 := HP9.out.cell 1
          have q2 := HP9.out.cell 2
          have q3 := HP9.out.cell 3
          have q4 := HP9.out.cell 4
          simp only [List.getElem?_toArray, List.getElem?_cons_succ, List.getElem?_cons_zero] at q0 q1 q2 q3 q4
          go_wp2_with (refine wpList_store_row rfl 36 (.tmp 2) (.tmp 36) rfl (w.heap.size + 1) rfl _ rfl 36 _ HR9.out (by kernel_rfl) rfl (by kernel_rfl) ?_)
          refine bodyPost_ret (v := .tuple #[.agg #[.int .u8 o.l.toNat, .int .u8 3, .int .u8 0, .string ⟨D.toArray⟩, .slice A 1 k], .int .i64 0]) (results_cell_slot (p := 2) (q := 3) (by kernel_rfl) _ _ (w.heap.size + 1) 36 _ _ rfl (Blk.row HR9.out _) Try.underlying36 rfl (by kernel_rfl) _ rfl) rfl ?_
          exact ⟨A, k, by rw [HE.out.1, HE.out.2, HO.out, HT.out]; rfl, by rw [HE.out.2]; show Els 2 tlV _ A (loT o); rw [HT.out]; exact elsL_chg HE9.out ((Chg.refl (only (w.heap.size + 1)) w9).setRow (.inr (by exact rfl)) _) (fun a ha h => by have h1 := (HEA.out.2.2 a ha).1; have h2 := HG6.out; have h3 := HG4.out; unfold only at h; omega), HEA.out.2.1, below_row HB9.out (by omega) _⟩
      · have HO : Hid (loO o = 2) := Lib.hid (by unfold loO; rw [hr]; rfl)
        rw [hr] at c1
        clear hr
        have q0 := HP6.out.cell 0
        have q1 := HP6.out.cell 1
        have q2 := HP6.out.cell 2
        have q3 := HP6.out.cell 3
        have q4 := HP6.out.cell 4
        simp only [List.getElem?_toArray, List.getElem?_cons_succ, List.getElem?_cons_zero] at q0 q1 q2 q3 q4
        have qf := HP6.out.frozen 1
        have HP7 : Hid (Blk (wc.setCell ⟨g4, 1, none⟩ (.int .u8 2)) g4 36 #[.int .u8 o.l.toNat, .int .u8 2, .int .u8 0, .string ⟨D.toArray⟩, .slice none 0 0]) := Lib.hid (by
          have := HP6.out.put 1 (.int .u8 2)
          simpa using this)
        have HK7 := Lib.hid (HKc.out.far (p := ⟨g4, 1, none⟩) (by have := HG4.out; show w.heap.size ≠ g4; omega) (.int .u8 2))
        have HR7 := Lib.hid (HRc.out.far (p := ⟨g4, 1, none⟩) (by have := HG4.out; show w.heap.size + 1 ≠ g4; omega) (.int .u8 2))
        have HB7 : Hid (Below w.heap.size w (wc.setCell ⟨g4, 1, none⟩ (.int .u8 2))) := Lib.hid (HBc.out.setCell (by have := HG4.out; show w.heap.size ≤ g4; omega) _)
        go_upto_region 8 with (fail)
        clear q0 q1 q2 q3 q4 qf c1 c3
        generalize wc.setCell ⟨g4, 1, none⟩ (.int .u8 2) = w6 at *
        clear HP6 HKc HRc HBc
        have c3 := HK7.out.cell 3
        simp only [List.getElem?_toArray, List.getElem?_cons_succ, List.getElem?_cons_zero] at c3
        have HG6 : Hid (g4 < w6.heap.size) := Lib.hid HP7.out.lt
        by_cases hd : o.d = []
        · have p0 : ¬ (0 : Int) < (o.d.length : Int) := by rw [hd]; simp
          have p0' : ¬ 0 < o.d.length := by rw [hd]; simp
          have HT : Hid (loT o = []) := Lib.hid (by unfold loT; rw [if_pos hd])
          clear hd
          have q0 := HP7.out.cell 0
          have q1 := HP7.out.cell 1
          have q2 := HP7.out.cell 2
          have q3 := HP7.out.cell 3
          have q4 := HP7.out.cell 4
          simp only [List.getElem?_toArray, List.getElem?_cons_succ, List.getElem?_cons_zero] at q0 q1 q2 q3 q4
          go_wp2_with (refine wpList_store_row rfl 36 (.tmp 2) (.tmp 36) rfl (w.heap.size + 1) rfl _ rfl 36 _ HR7.out (by kernel_rfl) rfl (by kernel_rfl) ?_)
          refine bodyPost_ret (v := .tuple #[.agg #[.int .u8 o.l.toNat, .int .u8 2, .int .u8 0, .string ⟨D.toArray⟩, .slice none 0 0], .int .i64 0]) (results_cell_slot (p := 2) (q := 3) (by kernel_rfl) _ _ (w.heap.size + 1) 36 _ _ rfl (Blk.row HR7.out _) Try.underlying36 rfl (by kernel_rfl) _ rfl) rfl ?_
          exact ⟨none, 0, by rw [HE.out.1, HE.out.2, HO.out, HT.out]; rfl, by rw [HE.out.2]; show Els 2 tlV _ none (loT o); rw [HT.out]; exact els_nilL _ _, fun _ => rfl, below_row HB7.out (by omega) _⟩
        · have h0 : 0 < o.d.length := List.length_pos_iff.2 hd
          have p0 : (0 : Int) < (o.d.length : Int) := by omega
          have HT : Hid (loT o = [⟨3, o.d⟩]) := Lib.hid (by unfold loT; rw [if_neg hd])
          obtain ⟨i0, hi⟩ := info_parts infoRl
          have HIT := Lib.hid hi
          clear hd hi
          have q4 := HP7.out.cell 4
          simp only [List.getElem?_toArray, List.getElem?_cons_succ, List.getElem?_cons_zero] at q4
          go_wp2_with (at_builtin; refine wpl_appL rfl (.tmp 29) (.tmp 33) _ rfl tlV_len tlV_one (by decide) w6.heap.size _ i0 _ 24 Try.underlying34 HIT.out rfl _ ([] : List Tl) rfl (World.ownsRow_nil _ _ _ _) (some ⟨w6.heap.size, 0, none⟩) 1 1 [⟨3, o.d⟩] rfl rfl (fun e => by cases e) (els_oneL w6 _ ⟨3, o.d⟩ _ rfl) (by simp) (by decide) (by simp) ?_)
          intro v5 w7 ho5 hg5 _
          have hb7 : Below w6.heap.size w6 w7 := ((Below.refl _ _).alloc (Nat.le_refl _) _).grown hg5 (by simp) (fun k hk => by cases hk)
          have HP8 := Lib.hid (HP7.out.below hb7 HP7.out.lt)
          have HR8 := Lib.hid (HR7.out.below hb7 HR7.out.lt)
          have HB8 : Hid (Below w.heap.size w w7) := Lib.hid (HB7.out.trans (hb7.mono HB7.out.size))
          obtain ⟨A, k, hv, hE, _, hA, hO⟩ := own_fullL (l := [(⟨3, o.d⟩ : Tl)]) tlV_len (by simpa using ho5)
          subst hv
          have HEA := Lib.hid (And.intro hE (And.intro hA hO))
          clear ho5 hg5 hE hA hO hb7 HP7 HR7 HB7 HK7 c3 q4
          have q0 := HP8.out.cell 0
          have q1 := HP8.out.cell 1
          have q2 := HP8.out.cell 2
          have q3 := HP8.out.cell 3
          have q4 := HP8.out.cell 4
          simp only [List.getElem?_toArray, List.getElem?_cons_succ, List.getElem?_cons_zero] at q0 q1 q2 q3 q4
          have qf := HP8.out.frozen 4
          have HP9 : Hid (Blk (w7.setCell ⟨g4, 4, none⟩ (.slice A 1 k)) g4 36 #[.int .u8 o.l.toNat, .int .u8 2, .int .u8 0, .string ⟨D.toArray⟩, .slice A 1 k]) := Lib.hid (by
            have := HP8.out.put 4 (.slice A 1 k)
            simpa using this)
          have HR9 := Lib.hid (HR8.out.far (p := ⟨g4, 4, none⟩) (by have := HG4.out; show w.heap.size + 1 ≠ g4; omega) (.slice A 1 k))
          have HB9 : Hid (Below w.heap.size w (w7.setCell ⟨g4, 4, none⟩ (.slice A 1 k))) := Lib.hid (HB8.out.setCell (by have := HG4.out; show w.heap.size ≤ g4; omega) _)
          have HE9 : Hid (Els 2 tlV (w7.setCell ⟨g4, 4, none⟩ (.slice A 1 k)) A [⟨3, o.d⟩]) := Lib.hid (elsL_chg HEA.out.1 ((Chg.refl (only g4) w7).setCell (.inr (by exact rfl)) _) (fun a ha h => by have h1 := (HEA.out.2.2 a ha).1; have h2 := HG6.out; unfold only at h; omega))
          clear HP8 HR8 HB8
          go_upto_region 10 with (fail)
          generalize w7.setCell ⟨g4, 4, none⟩ (.slice A 1 k) = w9 at *
          clear q0 q1 q2 q3 q4 qf
          have q0 := HP9.out.cell 0
          have q1 := HP9.out.cell 1
          have q2 := HP9.out.cell 2
          have q3 := HP9.out.cell 3
          have q4 := HP9.out.cell 4
          simp only [List.getElem?_toArray, List.getElem?_cons_succ, List.getElem?_cons_zero] at q0 q1 q2 q3 q4
          go_wp2_with (refine wpList_store_row rfl 36 (.tmp 2) (.tmp 36) rfl (w.heap.size + 1) rfl _ rfl 36 _ HR9.out (by kernel_rfl) rfl (by kernel_rfl) ?_)
          refine bodyPost_ret (v := .tuple #[.agg #[.int .u8 o.l.toNat, .int .u8 2, .int .u8 0, .string ⟨D.toArray⟩, .slice A 1 k], .int .i64 0]) (results_cell_slot (p := 2) (q := 3) (by kernel_rfl) _ _ (w.heap.size + 1) 36 _ _ rfl (Blk.row HR9.out _) Try.underlying36 rfl (by kernel_rfl) _ rfl) rfl ?_
          exact ⟨A, k, by rw [HE.out.1, HE.out.2, HO.out, HT.out]; rfl, by rw [HE.out.2]; show Els 2 tlV _ A (loT o); rw [HT.out]; exact elsL_chg HE9.out ((Chg.refl (only (w.heap.size + 1)) w9).setRow (.inr (by exact rfl)) _) (fun a ha h => by have h1 := (HEA.out.2.2 a ha).1; have h2 := HG6.out; have h3 := HG4.out; unfold only at h; omega), HEA.out.2.1, below_row HB9.out (by omega) _⟩
end Go.Proofs.Ytjcfdkchnikbmaa
