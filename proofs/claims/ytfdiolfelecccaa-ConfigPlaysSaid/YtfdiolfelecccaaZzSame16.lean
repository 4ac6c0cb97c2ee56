/- Layer 16: the law's same. -/
import Derived.Test.YtfdiolfelecccaaZzGr16
namespace Go.Proofs.Ytfdiolfelecccaa
open Go.RowKit
set_option linter.unusedVariables false
set_option linter.unusedSimpArgs false
set_option maxRecDepth 100000

theorem alloc_new {w w_ : World} (h : Below w.heap.size w w_) (t : TypeId) (cs : Array Value) : Hid (Blk (w_.alloc (.cells cs t)) w_.heap.size t cs) ∧ Hid (w.heap.size ≤ w_.heap.size) := ⟨Lib.hid (Blk.new _ _ _), Lib.hid h.size⟩
theorem run_eqAt (a b : UInt8) (c : Int) (w : World) : (Op.equalIn 10000 56 (.agg #[.int .u8 a.toNat, .int .u8 b.toNat, .int .i64 c]) (.agg #[.int .u8 a.toNat, .int .u8 b.toNat, .int .i64 c])).run Try.prog w = .ok true w := by
  have h0 := run_equalIn_int (P := Try.prog) w 9998 5 .u8 .u8 (a.toNat : Int) (a.toNat : Int) Try.underlying5
  have h1 := run_equalIn_int (P := Try.prog) w 9998 5 .u8 .u8 (b.toNat : Int) (b.toNat : Int) Try.underlying5
  have h2 := run_equalIn_int (P := Try.prog) w 9998 3 .i64 .i64 c c Try.underlying3
  rw [run_equalIn_struct w 9999 56 _ _ (by rw [Program.fieldsOf, Try.underlying56]) (by kernel_rfl)]
  simp only [Program.fieldsOf, Try.underlying56]
  have e : true = (((a.toNat : Int) == (a.toNat : Int)) && (((b.toNat : Int) == (b.toNat : Int)) && ((c == c) && true))) := by simp
  rw [e]
  refine eqs_step (by decide) (by kernel_rfl) (by kernel_rfl) h0 ?_
  refine eqs_step (by decide) (by kernel_rfl) (by kernel_rfl) h1 ?_
  refine eqs_step (by decide) (by kernel_rfl) (by kernel_rfl) h2 ?_
  exact eqs_nil
theorem run_eqMp (x y : Mp) (w : World) : (Op.equalIn 10000 59 (.agg #[.int .i64 x.a, .int .u16 x.m.toNat, .int .u8 x.p.toNat, .bool x.u]) (.agg #[.int .i64 y.a, .int .u16 y.m.toNat, .int .u8 y.p.toNat, .bool y.u])).run Try.prog w = .ok (decide (x = y)) w := by
  have h0 := run_equalIn_int (P := Try.prog) w 9998 3 .i64 .i64 x.a y.a Try.underlying3
  have h1 := run_equalIn_int (P := Try.prog) w 9998 23 .u16 .u16 (x.m.toNat : Int) (y.m.toNat : Int) Try.underlying23
  rw [u16_eqB] at h1
  have h2 := run_equalIn_int (P := Try.prog) w 9998 5 .u8 .u8 (x.p.toNat : Int) (y.p.toNat : Int) Try.underlying5
  rw [u8_eqB] at h2
  have h3 := run_equalIn_bool' (P := Try.prog) w 9998 4 x.u y.u Try.underlying4
  rw [run_equalIn_struct w 9999 59 _ _ (by rw [Program.fieldsOf, Try.underlying59]) (by kernel_rfl)]
  simp only [Program.fieldsOf, Try.underlying59]
  have e : decide (x = y) = ((x.a == y.a) && ((x.m == y.m) && ((x.p == y.p) && ((x.u == y.u) && true)))) := by
    obtain ⟨a, b, c, d⟩ := x
    obtain ⟨a', b', c', d'⟩ := y
    rw [Bool.eq_iff_iff]
    simp
  rw [e]
  refine eqs_step (by decide) (by kernel_rfl) (by kernel_rfl) h0 ?_
  refine eqs_step (by decide) (by kernel_rfl) (by kernel_rfl) h1 ?_
  refine eqs_step (by decide) (by kernel_rfl) (by kernel_rfl) h2 ?_
  refine eqs_step (by decide) (by kernel_rfl) (by kernel_rfl) h3 ?_
  exact eqs_nil
set_option maxHeartbeats 16000000 in
theorem same16_any {R : (Nat → Prop) → World → Nat → Tb → Prop} (HH : CgI R) (S : Nat → Prop) (w : World) (b : Nat) (T : Tb) (X : TbX) (p : UInt8) (v : UInt16) (i : Int) (hr : R S w b T) (hT : TbD w T X) (hs : Sm T 1000) :
    Calls Try.prog 11 #[.pointer (some ⟨b, 0, none⟩), .agg (TbC T X), .int .u8 p.toNat, .int .u16 v.toNat, .int .i64 i] w fun e w' => e = .returned (.bool true) ∧ Below w.heap.size w w' := by
  have H := Lib.hid HH
  have HS := Lib.hid hs
  have HI := Lib.hid (HH.inv _ _ _ _ hr)
  show Calls _ _ #[_, .agg #[.int .i64 (T.n : Int), .slice X.A T.A.length X.ca, .slice X.E T.E.length X.ce, .slice X.M T.M.length X.cm], _, _, _] _ _
  have KLf := Lib.hid (fun w h => reflev16_any T X p v false w h HI.out HS.out.2.1 HS.out.1)
  have KLt := Lib.hid (fun w h => reflev16_any T X p v true w h HI.out HS.out.2.1 HS.out.1)
  have KSf := Lib.hid (fun w => refset16_any (T.lev p v false) w)
  have KSt := Lib.hid (fun w => refset16_any (T.lev p v true) w)
  have KM := Lib.hid (fun w h => refmid16_any T X p v w h HS.out.2.2)
  have KA := Lib.hid (fun w h => HH.att S w b T p v h hs)
  have KP := Lib.hid (fun w h => HH.meps S w b T h hs)
  obtain ⟨nE, hnE⟩ : ∃ n, T.E.length = n := ⟨_, rfl⟩
  obtain ⟨nM, hnM⟩ : ∃ n, T.M.length = n := ⟨_, rfl⟩
  obtain ⟨nA, hnA⟩ : ∃ n, T.A.length = n := ⟨_, rfl⟩
  simp only [TbC, hnA, hnE, hnM] at KLf KLt KM KP
  have HNS := Lib.hid (And.intro hnA (And.intro hnE hnM))
  rw [hnA, hnE, hnM]
  have hnl : (nE : Int) ≤ 1000 := by have := HS.out.2.1; omega
  clear hnE hnM hnA
  have HB0 : Hid (Below w.heap.size w (w.alloc (.cells #[.int .i64 (T.n : Int), .slice X.A nA X.ca, .slice X.E nE X.ce, .slice X.M nM X.cm] 34))) := Lib.hid ((Below.refl _ _).alloc (Nat.le_refl _) _)
  have HK0 := Lib.hid (Blk.new w 34 #[.int .i64 (T.n : Int), .slice X.A nA X.ca, .slice X.E nE X.ce, .slice X.M nM X.cm])
  have HR0 := Lib.hid (HH.next hr HB0.out)
  have HTW := Lib.hid hT
  clear hr hT hs HH
  go_enter Try.func11, Try.ntmps11
  go_wp2_with fail
  refine (KP.out _ HR0.out).mono ?_
  rintro e_ w1 ⟨B1, c1, rfl, hE1, hz1, _, hb1, _⟩
  have HB1 : Hid (Below w.heap.size w w1) := Lib.hid (HB0.out.trans (hb1.mono HB0.out.size))
  have HK1 := Lib.hid (HK0.out.below hb1 HK0.out.lt)
  have HR1 := Lib.hid (H.out.next HR0.out hb1)
  have HE1 := Lib.hid hE1
  have k2 := HK1.out.cell 2
  simp only [List.getElem?_toArray, List.getElem?_cons_succ, List.getElem?_cons_zero] at  k2
  clear hb1 hE1 hz1 HB0 HK0 HR0 KP
  go_wp2
  clear k2
  go_loopw [12] (fun j wr => ∃ k : Nat, k ≤ nE ∧ j = .int .i64 k ∧ Hid (Below w1.heap.size w1 wr)) (fun j _ => nE - (intOf j).toNat)
  case atStart => exact ⟨0, Nat.zero_le _, rfl, Lib.hid (Below.refl _ _)⟩
  case round =>
    obtain ⟨k, hk, rfl, HBw⟩ := hrel
    have HB : Hid (Below w.heap.size w wr) := Lib.hid (HB1.out.trans (HBw.out.mono HB1.out.size))
    have HK := Lib.hid (HK1.out.below HBw.out HK1.out.lt)
    by_cases hlt : k < nE
    · obtain ⟨x, hx⟩ : ∃ x, T.E[k]? = some x := ⟨_, List.getElem?_eq_getElem (by rw [HNS.out.2.1]; exact hlt)⟩
      obtain ⟨b1, off1, hA1, hlt1, e0, e1, e2, e3⟩ := mp_at (HE1.out.next HBw.out) hx
      obtain ⟨b2, off2, hA2, hlt2, d0, d1, d2, d3⟩ := mp_at (HTW.out.ee.next HB.out) hx
      have hki : (k : Int) < nE := by omega
      have hltK := HK.out.lt
      have k2 := HK.out.cell 2
      simp only [List.getElem?_toArray, List.getElem?_cons_succ, List.getElem?_cons_zero] at  k2
      rw [hA2] at k2
      subst hA1
      have q := fun w => run_eqMp x x w
      simp only [decide_true] at q
      have HLT := Lib.hid hlt
      clear hlt hx hA2
      go_upto_region 7 with (fail)
      go_cut [42] (fun a wx => a = .bool false ∧ Hid (Below wr.heap.size wr wx))
      case first =>
        refine wp_region_noPanic ?_
        refine wp_region_held_drew (S := fun w_ => Below wr.heap.size wr w_) (by kernel_rfl) (Below.refl _ wr).drew (fun hHeld => ?_)
        refine wpAnyH_take (i := 0) (v := ?v1) rfl (by kernel_rfl) (by kernel_rfl) (by kernel_rfl) (fun _ _ _ h => h) (Or.inl ⟨by rfl, ?hy1⟩) hHeld ?rest1
        case hy1 =>
          intro w_ hSw; go_simp
          all_goals (with_reducible rfl)
        try simp only [Act.put, List.getElem_toArray, List.getElem_cons_succ, List.getElem_cons_zero, List.setIfInBounds_toArray, List.set_cons_zero, List.set_cons_succ]
        refine wpAnyH_take (i := 1) (v := ?v2) rfl (by kernel_rfl) (by kernel_rfl) (by kernel_rfl) (fun _ _ _ h => h) (Or.inl ⟨by rfl, ?hy2⟩) hHeld ?rest2
        case hy2 =>
          intro w_ hSw; go_simp
          all_goals (with_reducible rfl)
        try simp only [Act.put, List.getElem_toArray, List.getElem_cons_succ, List.getElem_cons_zero, List.setIfInBounds_toArray, List.set_cons_zero, List.set_cons_succ]
        refine wpAnyH_take (i := 2) (v := ?v3) rfl (by kernel_rfl) (by kernel_rfl) (by kernel_rfl) (fun _ _ _ h => h) (Or.inl ⟨by rfl, ?hy3⟩) hHeld ?rest3
        case hy3 =>
          intro w_ hSw; go_simp
          all_goals (with_reducible rfl)
        try simp only [Act.put, List.getElem_toArray, List.getElem_cons_succ, List.getElem_cons_zero, List.setIfInBounds_toArray, List.set_cons_zero, List.set_cons_succ]
        refine wpAnyH_take (i := 3) (v := ?v4) rfl (by kernel_rfl) (by kernel_rfl) (by kernel_rfl) (fun _ _ _ h => h) (Or.inl ⟨by rfl, ?hy4⟩) hHeld ?rest4
        case hy4 =>
          intro w_ hSw; have h0 := (hSw.cell (p := ⟨b1, off1 + k * 4, none⟩) hlt1).trans e0; have h1 := (hSw.cell (p := ⟨b1, off1 + k * 4 + 1, none⟩) hlt1).trans e1; have h2 := (hSw.cell (p := ⟨b1, off1 + k * 4 + 2, none⟩) hlt1).trans e2; have h3 := (hSw.cell (p := ⟨b1, off1 + k * 4 + 3, none⟩) hlt1).trans e3; go_simp
          all_goals (with_reducible rfl)
        try simp only [Act.put, List.getElem_toArray, List.getElem_cons_succ, List.getElem_cons_zero, List.setIfInBounds_toArray, List.set_cons_zero, List.set_cons_succ]
        refine wpAnyH_take (i := 4) (v := ?v5) rfl (by kernel_rfl) (by kernel_rfl) (by kernel_rfl) (fun _ _ _ h => h) (Or.inl ⟨by rfl, ?hy5⟩) hHeld ?rest5
        case hy5 =>
          intro w_ hSw; go_simp
          all_goals (with_reducible rfl)
        try simp only [Act.put, List.getElem_toArray, List.getElem_cons_succ, List.getElem_cons_zero, List.setIfInBounds_toArray, List.set_cons_zero, List.set_cons_succ]
        refine wpAnyH_take (i := 5) (v := ?v6) rfl (by kernel_rfl) (by kernel_rfl) (by kernel_rfl) (fun _ _ _ h => h) (Or.inl ⟨by rfl, ?hy6⟩) hHeld ?rest6
        case hy6 =>
          intro w_ hSw; have hc := (hSw.cell (p := ⟨w.heap.size, 2, none⟩) hltK).trans k2; go_simp
          all_goals (with_reducible rfl)
        try simp only [Act.put, List.getElem_toArray, List.getElem_cons_succ, List.getElem_cons_zero, List.setIfInBounds_toArray, List.set_cons_zero, List.set_cons_succ]
        refine wpAnyH_take (i := 6) (v := ?v7) rfl (by kernel_rfl) (by kernel_rfl) (by kernel_rfl) (fun _ _ _ h => h) (Or.inl ⟨by rfl, ?hy7⟩) hHeld ?rest7
        case hy7 =>
          intro w_ hSw; go_simp
          all_goals (with_reducible rfl)
        try simp only [Act.put, List.getElem_toArray, List.getElem_cons_succ, List.getElem_cons_zero, List.setIfInBounds_toArray, List.set_cons_zero, List.set_cons_succ]
        refine wpAnyH_take (i := 7) (v := ?v8) rfl (by kernel_rfl) (by kernel_rfl) (by kernel_rfl) (fun _ _ _ h => h) (Or.inl ⟨by rfl, ?hy8⟩) hHeld ?rest8
        case hy8 =>
          intro w_ hSw; go_simp
          all_goals (with_reducible rfl)
        try simp only [Act.put, List.getElem_toArray, List.getElem_cons_succ, List.getElem_cons_zero, List.setIfInBounds_toArray, List.set_cons_zero, List.set_cons_succ]
        refine wpAnyH_take (i := 8) (v := ?v9) rfl (by kernel_rfl) (by kernel_rfl) (by kernel_rfl) (fun _ _ _ h => h) (Or.inl ⟨by rfl, ?hy9⟩) hHeld ?rest9
        case hy9 =>
          intro w_ hSw; have h0 := (hSw.cell (p := ⟨b2, off2 + k * 4, none⟩) hlt2).trans d0; have h1 := (hSw.cell (p := ⟨b2, off2 + k * 4 + 1, none⟩) hlt2).trans d1; have h2 := (hSw.cell (p := ⟨b2, off2 + k * 4 + 2, none⟩) hlt2).trans d2; have h3 := (hSw.cell (p := ⟨b2, off2 + k * 4 + 3, none⟩) hlt2).trans d3; go_simp
          all_goals (with_reducible rfl)
        try simp only [Act.put, List.getElem_toArray, List.getElem_cons_succ, List.getElem_cons_zero, List.setIfInBounds_toArray, List.set_cons_zero, List.set_cons_succ]
        refine wpAnyH_ready (rs := [9]) (by kernel_rfl) (by simp) ?_
        refine AllReadyH.cons rfl (fun K hK => ?_) AllReadyH.nil
        go_simp
        go_at_call 15
        refine (mep16_any x _).mono ?_
        rintro e_ w3 ⟨rfl, hb3⟩
        have hS3 : Below wr.heap.size wr w3 := hHeld.trans (hb3.mono hHeld.size)
        refine hK.out _ _ (hS3) (fun hHeld => ?_)
        clear hK K
        try simp only [Act.put, List.getElem_toArray, List.getElem_cons_succ, List.getElem_cons_zero, List.setIfInBounds_toArray, List.set_cons_zero, List.set_cons_succ]
        refine wpAnyH_take (i := 10) (v := ?v10) rfl (by kernel_rfl) (by kernel_rfl) (by kernel_rfl) (fun _ _ _ h => h) (Or.inl ⟨by rfl, ?hy10⟩) hHeld ?rest10
        case hy10 =>
          intro w_ hSw; go_simp
          all_goals (with_reducible rfl)
        try simp only [Act.put, List.getElem_toArray, List.getElem_cons_succ, List.getElem_cons_zero, List.setIfInBounds_toArray, List.set_cons_zero, List.set_cons_succ]
        refine wpAnyH_done (by kernel_rfl) ?_ _
        refine NoPanic.normal ?_
        go_wp2_with fail
        go_meet
        exact ⟨rfl, Lib.hid hS3⟩
      obtain ⟨rfl, HBx⟩ := hcut
      have HBn : Hid (Below w1.heap.size w1 wc) := Lib.hid (HBw.out.trans (HBx.out.mono HBw.out.size))
      clear e0 e1 e2 e3 d0 d1 d2 d3 k2 q
      go_wp2
      go_roundw
      case rel => exact ⟨k + 1, by have := HLT.out; omega, by go_num, HBn⟩
      case measure => have := HLT.out; simp [intOf]; omega
    · obtain rfl : nE = k := by omega
      have HR := Lib.hid (H.out.next HR1.out HBw.out)
      have HT := Lib.hid (HTW.out.next HB.out)
      clear hlt hk HB1 HK1 HR1 HBw HE1
      go_upto_region 9 with (fail)
      go_cut [13] (fun a wx => ∃ g, a = .pointer (some ⟨g, 0, none⟩) ∧ Hid (Blk wx g 56 #[.int .u8 (T.set p v false).toNat, .int .u8 (T.set p v true).toNat, .int .i64 (T.mid p v)]) ∧ Hid (Below wr.heap.size wr wx))
      case first =>
        refine wp_region_noPanic ?_
        refine wp_region_held_drew (S := fun w_ => Below wr.heap.size wr w_) (by kernel_rfl) (Below.refl _ wr).drew (fun hHeld => ?_)
        refine wpAnyH_take (i := 0) (v := .agg #[.int .i64 (T.n : Int), .slice X.A nA X.ca, .slice X.E nE X.ce, .slice X.M nM X.cm]) rfl (by kernel_rfl) (by kernel_rfl) (by kernel_rfl) (fun _ _ _ h => h) (yieldsIf_rowH 34 6 rfl (by rfl) w.heap.size rfl 34 _ _ (fun w_ hw => (HK.out.below hw HK.out.lt)) Try.underlying34 rfl (by kernel_rfl)) hHeld ?_
        try simp only [Act.put, List.getElem_toArray, List.getElem_cons_succ, List.getElem_cons_zero, List.setIfInBounds_toArray, List.set_cons_zero, List.set_cons_succ]
        refine wpAnyH_take (i := 1) (v := ?v11) rfl (by kernel_rfl) (by kernel_rfl) (by kernel_rfl) (fun _ _ _ h => h) (Or.inl ⟨by rfl, ?hy11⟩) hHeld ?rest11
        case hy11 =>
          intro w_ hSw; go_simp
          all_goals (with_reducible rfl)
        try simp only [Act.put, List.getElem_toArray, List.getElem_cons_succ, List.getElem_cons_zero, List.setIfInBounds_toArray, List.set_cons_zero, List.set_cons_succ]
        refine wpAnyH_take (i := 2) (v := ?v12) rfl (by kernel_rfl) (by kernel_rfl) (by kernel_rfl) (fun _ _ _ h => h) (Or.inl ⟨by rfl, ?hy12⟩) hHeld ?rest12
        case hy12 =>
          intro w_ hSw; go_simp
          all_goals (with_reducible rfl)
        try simp only [Act.put, List.getElem_toArray, List.getElem_cons_succ, List.getElem_cons_zero, List.setIfInBounds_toArray, List.set_cons_zero, List.set_cons_succ]
        refine wpAnyH_take (i := 5) (v := .agg #[.int .i64 (T.n : Int), .slice X.A nA X.ca, .slice X.E nE X.ce, .slice X.M nM X.cm]) rfl (by kernel_rfl) (by kernel_rfl) (by kernel_rfl) (fun _ _ _ h => h) (yieldsIf_rowH 34 6 rfl (by rfl) w.heap.size rfl 34 _ _ (fun w_ hw => (HK.out.below hw HK.out.lt)) Try.underlying34 rfl (by kernel_rfl)) hHeld ?_
        try simp only [Act.put, List.getElem_toArray, List.getElem_cons_succ, List.getElem_cons_zero, List.setIfInBounds_toArray, List.set_cons_zero, List.set_cons_succ]
        refine wpAnyH_take (i := 6) (v := ?v13) rfl (by kernel_rfl) (by kernel_rfl) (by kernel_rfl) (fun _ _ _ h => h) (Or.inl ⟨by rfl, ?hy13⟩) hHeld ?rest13
        case hy13 =>
          intro w_ hSw; go_simp
          all_goals (with_reducible rfl)
        try simp only [Act.put, List.getElem_toArray, List.getElem_cons_succ, List.getElem_cons_zero, List.setIfInBounds_toArray, List.set_cons_zero, List.set_cons_succ]
        refine wpAnyH_take (i := 7) (v := ?v14) rfl (by kernel_rfl) (by kernel_rfl) (by kernel_rfl) (fun _ _ _ h => h) (Or.inl ⟨by rfl, ?hy14⟩) hHeld ?rest14
        case hy14 =>
          intro w_ hSw; go_simp
          all_goals (with_reducible rfl)
        try simp only [Act.put, List.getElem_toArray, List.getElem_cons_succ, List.getElem_cons_zero, List.setIfInBounds_toArray, List.set_cons_zero, List.set_cons_succ]
        refine wpAnyH_take (i := 10) (v := .agg #[.int .i64 (T.n : Int), .slice X.A nA X.ca, .slice X.E nE X.ce, .slice X.M nM X.cm]) rfl (by kernel_rfl) (by kernel_rfl) (by kernel_rfl) (fun _ _ _ h => h) (yieldsIf_rowH 34 6 rfl (by rfl) w.heap.size rfl 34 _ _ (fun w_ hw => (HK.out.below hw HK.out.lt)) Try.underlying34 rfl (by kernel_rfl)) hHeld ?_
        try simp only [Act.put, List.getElem_toArray, List.getElem_cons_succ, List.getElem_cons_zero, List.setIfInBounds_toArray, List.set_cons_zero, List.set_cons_succ]
        refine wpAnyH_take (i := 11) (v := ?v15) rfl (by kernel_rfl) (by kernel_rfl) (by kernel_rfl) (fun _ _ _ h => h) (Or.inl ⟨by rfl, ?hy15⟩) hHeld ?rest15
        case hy15 =>
          intro w_ hSw; go_simp
          all_goals (with_reducible rfl)
        try simp only [Act.put, List.getElem_toArray, List.getElem_cons_succ, List.getElem_cons_zero, List.setIfInBounds_toArray, List.set_cons_zero, List.set_cons_succ]
        refine wpAnyH_take (i := 12) (v := ?v16) rfl (by kernel_rfl) (by kernel_rfl) (by kernel_rfl) (fun _ _ _ h => h) (Or.inl ⟨by rfl, ?hy16⟩) hHeld ?rest16
        case hy16 =>
          intro w_ hSw; go_simp
          all_goals (with_reducible rfl)
        try simp only [Act.put, List.getElem_toArray, List.getElem_cons_succ, List.getElem_cons_zero, List.setIfInBounds_toArray, List.set_cons_zero, List.set_cons_succ]
        refine wpAnyH_ready (rs := [3, 15]) (by kernel_rfl) (by simp) ?_
        refine AllReadyH.cons rfl (fun K hK => ?_) ?_
        · go_simp
          go_at_call 30
          refine (KLf.out _ (HT.out.next hHeld)).mono ?_
          rintro e_ w_ ⟨rfl, hb_⟩
          have hS_ := hHeld.trans (hb_.mono hHeld.size)
          clear hb_
          refine hK.out _ _ (hS_) (fun hHeld => ?_)
          clear hK K
          try simp only [Act.put, List.getElem_toArray, List.getElem_cons_succ, List.getElem_cons_zero, List.setIfInBounds_toArray, List.set_cons_zero, List.set_cons_succ]
          refine wpAnyH_ready (rs := [4, 15]) (by kernel_rfl) (by simp) ?_
          refine AllReadyH.cons rfl (fun K hK => ?_) ?_
          · go_simp
            go_at_call 29
            refine (KSf.out _).mono ?_
            rintro e_ w_ ⟨rfl, hb_⟩
            have hS_ := hHeld.trans (hb_.mono hHeld.size)
            clear hb_
            refine hK.out _ _ (hS_) (fun hHeld => ?_)
            clear hK K
            try simp only [Act.put, List.getElem_toArray, List.getElem_cons_succ, List.getElem_cons_zero, List.setIfInBounds_toArray, List.set_cons_zero, List.set_cons_succ]
            refine wpAnyH_ready (rs := [8, 15]) (by kernel_rfl) (by simp) ?_
            refine AllReadyH.cons rfl (fun K hK => ?_) ?_
            · go_simp
              go_at_call 30
              refine (KLt.out _ (HT.out.next hHeld)).mono ?_
              rintro e_ w_ ⟨rfl, hb_⟩
              have hS_ := hHeld.trans (hb_.mono hHeld.size)
              clear hb_
              refine hK.out _ _ (hS_) (fun hHeld => ?_)
              clear hK K
              try simp only [Act.put, List.getElem_toArray, List.getElem_cons_succ, List.getElem_cons_zero, List.setIfInBounds_toArray, List.set_cons_zero, List.set_cons_succ]
              refine wpAnyH_ready (rs := [9, 15]) (by kernel_rfl) (by simp) ?_
              refine AllReadyH.cons rfl (fun K hK => ?_) ?_
              · go_simp
                go_at_call 29
                refine (KSt.out _).mono ?_
                rintro e_ w_ ⟨rfl, hb_⟩
                have hS_ := hHeld.trans (hb_.mono hHeld.size)
                clear hb_
                refine hK.out _ _ (hS_) (fun hHeld => ?_)
                clear hK K
                try simp only [Act.put, List.getElem_toArray, List.getElem_cons_succ, List.getElem_cons_zero, List.setIfInBounds_toArray, List.set_cons_zero, List.set_cons_succ]
                refine wpAnyH_ready (rs := [13, 15]) (by kernel_rfl) (by simp) ?_
                refine AllReadyH.cons rfl (fun K hK => ?_) ?_
                · go_simp
                  go_at_call 31
                  refine (KM.out _ (HT.out.next hHeld)).mono ?_
                  rintro e_ w_ ⟨rfl, hb_⟩
                  have hS_ := hHeld.trans (hb_.mono hHeld.size)
                  clear hb_
                  refine hK.out _ _ (hS_) (fun hHeld => ?_)
                  clear hK K
                  try simp only [Act.put, List.getElem_toArray, List.getElem_cons_succ, List.getElem_cons_zero, List.setIfInBounds_toArray, List.set_cons_zero, List.set_cons_succ]
                  refine wpAnyH_take (i := 14) (v := ?v17) rfl (by kernel_rfl) (by kernel_rfl) (by kernel_rfl) (fun _ _ _ h => h) (Or.inl ⟨by rfl, ?hy17⟩) hHeld ?rest17
                  case hy17 =>
                    intro w_ hSw; go_simp
                    all_goals (with_reducible rfl)
                  try simp only [Act.put, List.getElem_toArray, List.getElem_cons_succ, List.getElem_cons_zero, List.setIfInBounds_toArray, List.set_cons_zero, List.set_cons_succ]
                  refine wpAnyH_ready (rs := [15]) (by kernel_rfl) (by simp) ?_
                  refine AllReadyH.cons rfl (fun K hK => ?_) AllReadyH.nil
                  go_simp
                  obtain ⟨HG, HGE⟩ := alloc_new hHeld 56 #[.int .u8 0, .int .u8 0, .int .i64 0]
                  refine hK.out _ _ (hHeld.alloc hHeld.size _) (fun hHeld => ?_)
                  clear hK K
                  try simp only [Act.put, List.getElem_toArray, List.getElem_cons_succ, List.getElem_cons_zero, List.setIfInBounds_toArray, List.set_cons_zero, List.set_cons_succ]
                  refine wpAnyH_ready (rs := [16]) (by kernel_rfl) (by simp) ?_
                  refine AllReadyH.cons rfl (fun K hK => ?_) AllReadyH.nil
                  refine step_store_rowH rfl 56 (.tmp 13) (.tmp 57) rfl _ rfl #[.int .u8 (T.set p v false).toNat, .int .u8 (T.set p v true).toNat, .int .i64 (T.mid p v)] rfl 56 _ HG.out (by kernel_rfl) rfl (by kernel_rfl) ?_
                  have HG9 := Lib.hid (HG.out.row #[.int .u8 (T.set p v false).toNat, .int .u8 (T.set p v true).toNat, .int .i64 (T.mid p v)])
                  have hle := HGE.out
                  have hS9 := below_row hHeld hle #[.int .u8 (T.set p v false).toNat, .int .u8 (T.set p v true).toNat, .int .i64 (T.mid p v)]
                  refine hK.out _ _ (hS9) (fun hHeld => ?_)
                  clear hK K
                  try simp only [Act.put, List.getElem_toArray, List.getElem_cons_succ, List.getElem_cons_zero, List.setIfInBounds_toArray, List.set_cons_zero, List.set_cons_succ]
                  refine wpAnyH_done (by kernel_rfl) ?_ _
                  refine NoPanic.normal ?_
                  go_wp2_with fail
                  go_meet
                  exact ⟨_, rfl, HG9, Lib.hid hS9⟩
                · refine AllReadyH.cons rfl (fun K hK => ?_) AllReadyH.nil
                  go_simp
                  obtain ⟨HG, HGE⟩ := alloc_new hHeld 56 #[.int .u8 0, .int .u8 0, .int .i64 0]
                  refine hK.out _ _ (hHeld.alloc hHeld.size _) (fun hHeld => ?_)
                  clear hK K
                  try simp only [Act.put, List.getElem_toArray, List.getElem_cons_succ, List.getElem_cons_zero, List.setIfInBounds_toArray, List.set_cons_zero, List.set_cons_succ]
                  refine wpAnyH_ready (rs := [13]) (by kernel_rfl) (by simp) ?_
                  refine AllReadyH.cons rfl (fun K hK => ?_) AllReadyH.nil
                  go_simp
                  go_at_call 31
                  refine (KM.out _ (HT.out.next hHeld)).mono ?_
                  rintro e_ w_ ⟨rfl, hb_⟩
                  have HG := Lib.hid (HG.out.below hb_ HG.out.lt)
                  have hS_ := hHeld.trans (hb_.mono hHeld.size)
                  clear hb_
                  refine hK.out _ _ (hS_) (fun hHeld => ?_)
                  clear hK K
                  try simp only [Act.put, List.getElem_toArray, List.getElem_cons_succ, List.getElem_cons_zero, List.setIfInBounds_toArray, List.set_cons_zero, List.set_cons_succ]
                  refine wpAnyH_take (i := 14) (v := ?v18) rfl (by kernel_rfl) (by kernel_rfl) (by kernel_rfl) (fun _ _ _ h => h) (Or.inl ⟨by rfl, ?hy18⟩) hHeld ?rest18
                  case hy18 =>
                    intro w_ hSw; go_simp
                    all_goals (with_reducible rfl)
                  try simp only [Act.put, List.getElem_toArray, List.getElem_cons_succ, List.getElem_cons_zero, List.setIfInBounds_toArray, List.set_cons_zero, List.set_cons_succ]
                  refine wpAnyH_ready (rs := [16]) (by kernel_rfl) (by simp) ?_
                  refine AllReadyH.cons rfl (fun K hK => ?_) AllReadyH.nil
                  refine step_store_rowH rfl 56 (.tmp 13) (.tmp 57) rfl _ rfl #[.int .u8 (T.set p v false).toNat, .int .u8 (T.set p v true).toNat, .int .i64 (T.mid p v)] rfl 56 _ HG.out (by kernel_rfl) rfl (by kernel_rfl) ?_
                  have HG9 := Lib.hid (HG.out.row #[.int .u8 (T.set p v false).toNat, .int .u8 (T.set p v true).toNat, .int .i64 (T.mid p v)])
                  have hle := HGE.out
                  have hS9 := below_row hHeld hle #[.int .u8 (T.set p v false).toNat, .int .u8 (T.set p v true).toNat, .int .i64 (T.mid p v)]
                  refine hK.out _ _ (hS9) (fun hHeld => ?_)
                  clear hK K
                  try simp only [Act.put, List.getElem_toArray, List.getElem_cons_succ, List.getElem_cons_zero, List.setIfInBounds_toArray, List.set_cons_zero, List.set_cons_succ]
                  refine wpAnyH_done (by kernel_rfl) ?_ _
                  refine NoPanic.normal ?_
                  go_wp2_with fail
                  go_meet
                  exact ⟨_, rfl, HG9, Lib.hid hS9⟩
              · refine AllReadyH.cons rfl (fun K hK => ?_) AllReadyH.nil
                go_simp
                obtain ⟨HG, HGE⟩ := alloc_new hHeld 56 #[.int .u8 0, .int .u8 0, .int .i64 0]
                refine hK.out _ _ (hHeld.alloc hHeld.size _) (fun hHeld => ?_)
                clear hK K
                try simp only [Act.put, List.getElem_toArray, List.getElem_cons_succ, List.getElem_cons_zero, List.setIfInBounds_toArray, List.set_cons_zero, List.set_cons_succ]
                refine wpAnyH_ready (rs := [9]) (by kernel_rfl) (by simp) ?_
                refine AllReadyH.cons rfl (fun K hK => ?_) AllReadyH.nil
                go_simp
                go_at_call 29
                refine (KSt.out _).mono ?_
                rintro e_ w_ ⟨rfl, hb_⟩
                have HG := Lib.hid (HG.out.below hb_ HG.out.lt)
                have hS_ := hHeld.trans (hb_.mono hHeld.size)
                clear hb_
                refine hK.out _ _ (hS_) (fun hHeld => ?_)
                clear hK K
                try simp only [Act.put, List.getElem_toArray, List.getElem_cons_succ, List.getElem_cons_zero, List.setIfInBounds_toArray, List.set_cons_zero, List.set_cons_succ]
                refine wpAnyH_ready (rs := [13]) (by kernel_rfl) (by simp) ?_
                refine AllReadyH.cons rfl (fun K hK => ?_) AllReadyH.nil
                go_simp
                go_at_call 31
                refine (KM.out _ (HT.out.next hHeld)).mono ?_
                rintro e_ w_ ⟨rfl, hb_⟩
                have HG := Lib.hid (HG.out.below hb_ HG.out.lt)
                have hS_ := hHeld.trans (hb_.mono hHeld.size)
                clear hb_
                refine hK.out _ _ (hS_) (fun hHeld => ?_)
                clear hK K
                try simp only [Act.put, List.getElem_toArray, List.getElem_cons_succ, List.getElem_cons_zero, List.setIfInBounds_toArray, List.set_cons_zero, List.set_cons_succ]
                refine wpAnyH_take (i := 14) (v := ?v19) rfl (by kernel_rfl) (by kernel_rfl) (by kernel_rfl) (fun _ _ _ h => h) (Or.inl ⟨by rfl, ?hy19⟩) hHeld ?rest19
                case hy19 =>
                  intro w_ hSw; go_simp
                  all_goals (with_reducible rfl)
                try simp only [Act.put, List.getElem_toArray, List.getElem_cons_succ, List.getElem_cons_zero, List.setIfInBounds_toArray, List.set_cons_zero, List.set_cons_succ]
                refine wpAnyH_ready (rs := [16]) (by kernel_rfl) (by simp) ?_
                refine AllReadyH.cons rfl (fun K hK => ?_) AllReadyH.nil
                refine step_store_rowH rfl 56 (.tmp 13) (.tmp 57) rfl _ rfl #[.int .u8 (T.set p v false).toNat, .int .u8 (T.set p v true).toNat, .int .i64 (T.mid p v)] rfl 56 _ HG.out (by kernel_rfl) rfl (by kernel_rfl) ?_
                have HG9 := Lib.hid (HG.out.row #[.int .u8 (T.set p v false).toNat, .int .u8 (T.set p v true).toNat, .int .i64 (T.mid p v)])
                have hle := HGE.out
                have hS9 := below_row hHeld hle #[.int .u8 (T.set p v false).toNat, .int .u8 (T.set p v true).toNat, .int .i64 (T.mid p v)]
                refine hK.out _ _ (hS9) (fun hHeld => ?_)
                clear hK K
                try simp only [Act.put, List.getElem_toArray, List.getElem_cons_succ, List.getElem_cons_zero, List.setIfInBounds_toArray, List.set_cons_zero, List.set_cons_succ]
                refine wpAnyH_done (by kernel_rfl) ?_ _
                refine NoPanic.normal ?_
                go_wp2_with fail
                go_meet
                exact ⟨_, rfl, HG9, Lib.hid hS9⟩
            · refine AllReadyH.cons rfl (fun K hK => ?_) AllReadyH.nil
              go_simp
              obtain ⟨HG, HGE⟩ := alloc_new hHeld 56 #[.int .u8 0, .int .u8 0, .int .i64 0]
              refine hK.out _ _ (hHeld.alloc hHeld.size _) (fun hHeld => ?_)
              clear hK K
              try simp only [Act.put, List.getElem_toArray, List.getElem_cons_succ, List.getElem_cons_zero, List.setIfInBounds_toArray, List.set_cons_zero, List.set_cons_succ]
              refine wpAnyH_ready (rs := [8]) (by kernel_rfl) (by simp) ?_
              refine AllReadyH.cons rfl (fun K hK => ?_) AllReadyH.nil
              go_simp
              go_at_call 30
              refine (KLt.out _ (HT.out.next hHeld)).mono ?_
              rintro e_ w_ ⟨rfl, hb_⟩
              have HG := Lib.hid (HG.out.below hb_ HG.out.lt)
              have hS_ := hHeld.trans (hb_.mono hHeld.size)
              clear hb_
              refine hK.out _ _ (hS_) (fun hHeld => ?_)
              clear hK K
              try simp only [Act.put, List.getElem_toArray, List.getElem_cons_succ, List.getElem_cons_zero, List.setIfInBounds_toArray, List.set_cons_zero, List.set_cons_succ]
              refine wpAnyH_ready (rs := [9]) (by kernel_rfl) (by simp) ?_
              refine AllReadyH.cons rfl (fun K hK => ?_) AllReadyH.nil
              go_simp
              go_at_call 29
              refine (KSt.out _).mono ?_
              rintro e_ w_ ⟨rfl, hb_⟩
              have HG := Lib.hid (HG.out.below hb_ HG.out.lt)
              have hS_ := hHeld.trans (hb_.mono hHeld.size)
              clear hb_
              refine hK.out _ _ (hS_) (fun hHeld => ?_)
              clear hK K
              try simp only [Act.put, List.getElem_toArray, List.getElem_cons_succ, List.getElem_cons_zero, List.setIfInBounds_toArray, List.set_cons_zero, List.set_cons_succ]
              refine wpAnyH_ready (rs := [13]) (by kernel_rfl) (by simp) ?_
              refine AllReadyH.cons rfl (fun K hK => ?_) AllReadyH.nil
              go_simp
              go_at_call 31
              refine (KM.out _ (HT.out.next hHeld)).mono ?_
              rintro e_ w_ ⟨rfl, hb_⟩
              have HG := Lib.hid (HG.out.below hb_ HG.out.lt)
              have hS_ := hHeld.trans (hb_.mono hHeld.size)
              clear hb_
              refine hK.out _ _ (hS_) (fun hHeld => ?_)
              clear hK K
              try simp only [Act.put, List.getElem_toArray, List.getElem_cons_succ, List.getElem_cons_zero, List.setIfInBounds_toArray, List.set_cons_zero, List.set_cons_succ]
              refine wpAnyH_take (i := 14) (v := ?v20) rfl (by kernel_rfl) (by kernel_rfl) (by kernel_rfl) (fun _ _ _ h => h) (Or.inl ⟨by rfl, ?hy20⟩) hHeld ?rest20
              case hy20 =>
                intro w_ hSw; go_simp
                all_goals (with_reducible rfl)
              try simp only [Act.put, List.getElem_toArray, List.getElem_cons_succ, List.getElem_cons_zero, List.setIfInBounds_toArray, List.set_cons_zero, List.set_cons_succ]
              refine wpAnyH_ready (rs := [16]) (by kernel_rfl) (by simp) ?_
              refine AllReadyH.cons rfl (fun K hK => ?_) AllReadyH.nil
              refine step_store_rowH rfl 56 (.tmp 13) (.tmp 57) rfl _ rfl #[.int .u8 (T.set p v false).toNat, .int .u8 (T.set p v true).toNat, .int .i64 (T.mid p v)] rfl 56 _ HG.out (by kernel_rfl) rfl (by kernel_rfl) ?_
              have HG9 := Lib.hid (HG.out.row #[.int .u8 (T.set p v false).toNat, .int .u8 (T.set p v true).toNat, .int .i64 (T.mid p v)])
              have hle := HGE.out
              have hS9 := below_row hHeld hle #[.int .u8 (T.set p v false).toNat, .int .u8 (T.set p v true).toNat, .int .i64 (T.mid p v)]
              refine hK.out _ _ (hS9) (fun hHeld => ?_)
              clear hK K
              try simp only [Act.put, List.getElem_toArray, List.getElem_cons_succ, List.getElem_cons_zero, List.setIfInBounds_toArray, List.set_cons_zero, List.set_cons_succ]
              refine wpAnyH_done (by kernel_rfl) ?_ _
              refine NoPanic.normal ?_
              go_wp2_with fail
              go_meet
              exact ⟨_, rfl, HG9, Lib.hid hS9⟩
          · refine AllReadyH.cons rfl (fun K hK => ?_) AllReadyH.nil
            go_simp
            obtain ⟨HG, HGE⟩ := alloc_new hHeld 56 #[.int .u8 0, .int .u8 0, .int .i64 0]
            refine hK.out _ _ (hHeld.alloc hHeld.size _) (fun hHeld => ?_)
            clear hK K
            try simp only [Act.put, List.getElem_toArray, List.getElem_cons_succ, List.getElem_cons_zero, List.setIfInBounds_toArray, List.set_cons_zero, List.set_cons_succ]
            refine wpAnyH_ready (rs := [4]) (by kernel_rfl) (by simp) ?_
            refine AllReadyH.cons rfl (fun K hK => ?_) AllReadyH.nil
            go_simp
            go_at_call 29
            refine (KSf.out _).mono ?_
            rintro e_ w_ ⟨rfl, hb_⟩
            have HG := Lib.hid (HG.out.below hb_ HG.out.lt)
            have hS_ := hHeld.trans (hb_.mono hHeld.size)
            clear hb_
            refine hK.out _ _ (hS_) (fun hHeld => ?_)
            clear hK K
            try simp only [Act.put, List.getElem_toArray, List.getElem_cons_succ, List.getElem_cons_zero, List.setIfInBounds_toArray, List.set_cons_zero, List.set_cons_succ]
            refine wpAnyH_ready (rs := [8]) (by kernel_rfl) (by simp) ?_
            refine AllReadyH.cons rfl (fun K hK => ?_) AllReadyH.nil
            go_simp
            go_at_call 30
            refine (KLt.out _ (HT.out.next hHeld)).mono ?_
            rintro e_ w_ ⟨rfl, hb_⟩
            have HG := Lib.hid (HG.out.below hb_ HG.out.lt)
            have hS_ := hHeld.trans (hb_.mono hHeld.size)
            clear hb_
            refine hK.out _ _ (hS_) (fun hHeld => ?_)
            clear hK K
            try simp only [Act.put, List.getElem_toArray, List.getElem_cons_succ, List.getElem_cons_zero, List.setIfInBounds_toArray, List.set_cons_zero, List.set_cons_succ]
            refine wpAnyH_ready (rs := [9]) (by kernel_rfl) (by simp) ?_
            refine AllReadyH.cons rfl (fun K hK => ?_) AllReadyH.nil
            go_simp
            go_at_call 29
            refine (KSt.out _).mono ?_
            rintro e_ w_ ⟨rfl, hb_⟩
            have HG := Lib.hid (HG.out.below hb_ HG.out.lt)
            have hS_ := hHeld.trans (hb_.mono hHeld.size)
            clear hb_
            refine hK.out _ _ (hS_) (fun hHeld => ?_)
            clear hK K
            try simp only [Act.put, List.getElem_toArray, List.getElem_cons_succ, List.getElem_cons_zero, List.setIfInBounds_toArray, List.set_cons_zero, List.set_cons_succ]
            refine wpAnyH_ready (rs := [13]) (by kernel_rfl) (by simp) ?_
            refine AllReadyH.cons rfl (fun K hK => ?_) AllReadyH.nil
            go_simp
            go_at_call 31
            refine (KM.out _ (HT.out.next hHeld)).mono ?_
            rintro e_ w_ ⟨rfl, hb_⟩
            have HG := Lib.hid (HG.out.below hb_ HG.out.lt)
            have hS_ := hHeld.trans (hb_.mono hHeld.size)
            clear hb_
            refine hK.out _ _ (hS_) (fun hHeld => ?_)
            clear hK K
            try simp only [Act.put, List.getElem_toArray, List.getElem_cons_succ, List.getElem_cons_zero, List.setIfInBounds_toArray, List.set_cons_zero, List.set_cons_succ]
            refine wpAnyH_take (i := 14) (v := ?v21) rfl (by kernel_rfl) (by kernel_rfl) (by kernel_rfl) (fun _ _ _ h => h) (Or.inl ⟨by rfl, ?hy21⟩) hHeld ?rest21
            case hy21 =>
              intro w_ hSw; go_simp
              all_goals (with_reducible rfl)
            try simp only [Act.put, List.getElem_toArray, List.getElem_cons_succ, List.getElem_cons_zero, List.setIfInBounds_toArray, List.set_cons_zero, List.set_cons_succ]
            refine wpAnyH_ready (rs := [16]) (by kernel_rfl) (by simp) ?_
            refine AllReadyH.cons rfl (fun K hK => ?_) AllReadyH.nil
            refine step_store_rowH rfl 56 (.tmp 13) (.tmp 57) rfl _ rfl #[.int .u8 (T.set p v false).toNat, .int .u8 (T.set p v true).toNat, .int .i64 (T.mid p v)] rfl 56 _ HG.out (by kernel_rfl) rfl (by kernel_rfl) ?_
            have HG9 := Lib.hid (HG.out.row #[.int .u8 (T.set p v false).toNat, .int .u8 (T.set p v true).toNat, .int .i64 (T.mid p v)])
            have hle := HGE.out
            have hS9 := below_row hHeld hle #[.int .u8 (T.set p v false).toNat, .int .u8 (T.set p v true).toNat, .int .i64 (T.mid p v)]
            refine hK.out _ _ (hS9) (fun hHeld => ?_)
            clear hK K
            try simp only [Act.put, List.getElem_toArray, List.getElem_cons_succ, List.getElem_cons_zero, List.setIfInBounds_toArray, List.set_cons_zero, List.set_cons_succ]
            refine wpAnyH_done (by kernel_rfl) ?_ _
            refine NoPanic.normal ?_
            go_wp2_with fail
            go_meet
            exact ⟨_, rfl, HG9, Lib.hid hS9⟩
        · refine AllReadyH.cons rfl (fun K hK => ?_) AllReadyH.nil
          go_simp
          obtain ⟨HG, HGE⟩ := alloc_new hHeld 56 #[.int .u8 0, .int .u8 0, .int .i64 0]
          refine hK.out _ _ (hHeld.alloc hHeld.size _) (fun hHeld => ?_)
          clear hK K
          try simp only [Act.put, List.getElem_toArray, List.getElem_cons_succ, List.getElem_cons_zero, List.setIfInBounds_toArray, List.set_cons_zero, List.set_cons_succ]
          refine wpAnyH_ready (rs := [3]) (by kernel_rfl) (by simp) ?_
          refine AllReadyH.cons rfl (fun K hK => ?_) AllReadyH.nil
          go_simp
          go_at_call 30
          refine (KLf.out _ (HT.out.next hHeld)).mono ?_
          rintro e_ w_ ⟨rfl, hb_⟩
          have HG := Lib.hid (HG.out.below hb_ HG.out.lt)
          have hS_ := hHeld.trans (hb_.mono hHeld.size)
          clear hb_
          refine hK.out _ _ (hS_) (fun hHeld => ?_)
          clear hK K
          try simp only [Act.put, List.getElem_toArray, List.getElem_cons_succ, List.getElem_cons_zero, List.setIfInBounds_toArray, List.set_cons_zero, List.set_cons_succ]
          refine wpAnyH_ready (rs := [4]) (by kernel_rfl) (by simp) ?_
          refine AllReadyH.cons rfl (fun K hK => ?_) AllReadyH.nil
          go_simp
          go_at_call 29
          refine (KSf.out _).mono ?_
          rintro e_ w_ ⟨rfl, hb_⟩
          have HG := Lib.hid (HG.out.below hb_ HG.out.lt)
          have hS_ := hHeld.trans (hb_.mono hHeld.size)
          clear hb_
          refine hK.out _ _ (hS_) (fun hHeld => ?_)
          clear hK K
          try simp only [Act.put, List.getElem_toArray, List.getElem_cons_succ, List.getElem_cons_zero, List.setIfInBounds_toArray, List.set_cons_zero, List.set_cons_succ]
          refine wpAnyH_ready (rs := [8]) (by kernel_rfl) (by simp) ?_
          refine AllReadyH.cons rfl (fun K hK => ?_) AllReadyH.nil
          go_simp
          go_at_call 30
          refine (KLt.out _ (HT.out.next hHeld)).mono ?_
          rintro e_ w_ ⟨rfl, hb_⟩
          have HG := Lib.hid (HG.out.below hb_ HG.out.lt)
          have hS_ := hHeld.trans (hb_.mono hHeld.size)
          clear hb_
          refine hK.out _ _ (hS_) (fun hHeld => ?_)
          clear hK K
          try simp only [Act.put, List.getElem_toArray, List.getElem_cons_succ, List.getElem_cons_zero, List.setIfInBounds_toArray, List.set_cons_zero, List.set_cons_succ]
          refine wpAnyH_ready (rs := [9]) (by kernel_rfl) (by simp) ?_
          refine AllReadyH.cons rfl (fun K hK => ?_) AllReadyH.nil
          go_simp
          go_at_call 29
          refine (KSt.out _).mono ?_
          rintro e_ w_ ⟨rfl, hb_⟩
          have HG := Lib.hid (HG.out.below hb_ HG.out.lt)
          have hS_ := hHeld.trans (hb_.mono hHeld.size)
          clear hb_
          refine hK.out _ _ (hS_) (fun hHeld => ?_)
          clear hK K
          try simp only [Act.put, List.getElem_toArray, List.getElem_cons_succ, List.getElem_cons_zero, List.setIfInBounds_toArray, List.set_cons_zero, List.set_cons_succ]
          refine wpAnyH_ready (rs := [13]) (by kernel_rfl) (by simp) ?_
          refine AllReadyH.cons rfl (fun K hK => ?_) AllReadyH.nil
          go_simp
          go_at_call 31
          refine (KM.out _ (HT.out.next hHeld)).mono ?_
          rintro e_ w_ ⟨rfl, hb_⟩
          have HG := Lib.hid (HG.out.below hb_ HG.out.lt)
          have hS_ := hHeld.trans (hb_.mono hHeld.size)
          clear hb_
          refine hK.out _ _ (hS_) (fun hHeld => ?_)
          clear hK K
          try simp only [Act.put, List.getElem_toArray, List.getElem_cons_succ, List.getElem_cons_zero, List.setIfInBounds_toArray, List.set_cons_zero, List.set_cons_succ]
          refine wpAnyH_take (i := 14) (v := ?v22) rfl (by kernel_rfl) (by kernel_rfl) (by kernel_rfl) (fun _ _ _ h => h) (Or.inl ⟨by rfl, ?hy22⟩) hHeld ?rest22
          case hy22 =>
            intro w_ hSw; go_simp
            all_goals (with_reducible rfl)
          try simp only [Act.put, List.getElem_toArray, List.getElem_cons_succ, List.getElem_cons_zero, List.setIfInBounds_toArray, List.set_cons_zero, List.set_cons_succ]
          refine wpAnyH_ready (rs := [16]) (by kernel_rfl) (by simp) ?_
          refine AllReadyH.cons rfl (fun K hK => ?_) AllReadyH.nil
          refine step_store_rowH rfl 56 (.tmp 13) (.tmp 57) rfl _ rfl #[.int .u8 (T.set p v false).toNat, .int .u8 (T.set p v true).toNat, .int .i64 (T.mid p v)] rfl 56 _ HG.out (by kernel_rfl) rfl (by kernel_rfl) ?_
          have HG9 := Lib.hid (HG.out.row #[.int .u8 (T.set p v false).toNat, .int .u8 (T.set p v true).toNat, .int .i64 (T.mid p v)])
          have hle := HGE.out
          have hS9 := below_row hHeld hle #[.int .u8 (T.set p v false).toNat, .int .u8 (T.set p v true).toNat, .int .i64 (T.mid p v)]
          refine hK.out _ _ (hS9) (fun hHeld => ?_)
          clear hK K
          try simp only [Act.put, List.getElem_toArray, List.getElem_cons_succ, List.getElem_cons_zero, List.setIfInBounds_toArray, List.set_cons_zero, List.set_cons_succ]
          refine wpAnyH_done (by kernel_rfl) ?_ _
          refine NoPanic.normal ?_
          go_wp2_with fail
          go_meet
          exact ⟨_, rfl, HG9, Lib.hid hS9⟩
      obtain ⟨g, rfl, HG, HBx⟩ := hcut
      have HBx1 : Hid (Below w.heap.size w wc) := Lib.hid (HB.out.trans (HBx.out.mono HB.out.size))
      have HKx := Lib.hid (HK.out.below HBx.out HK.out.lt)
      have HRx := Lib.hid (H.out.next HR.out HBx.out)
      have HTx := Lib.hid (HT.out.next HBx.out)
      clear HB HK HR HT HBx KLf KLt KSf KSt KM
      have q : ∀ w : World, (Op.equalIn 10000 56 (.agg #[.int .u8 (T.set p v false).toNat, .int .u8 (T.set p v true).toNat, .int .i64 (T.mid p v)]) (.agg #[.int .u8 (T.set p v false).toNat, .int .u8 (T.set p v true).toNat, .int .i64 (T.mid p v)])).run Try.prog w = .ok true w := fun w => run_eqAt _ _ _ w
      by_cases hi : 0 ≤ i ∧ i < T.A.length
      · obtain ⟨z, hz⟩ : ∃ z, T.A.getD i.toNat default = z := ⟨_, rfl⟩
        obtain ⟨y, hy, hya⟩ := as_of HTx.out.la (show i.toNat < T.A.length by omega)
        have hyz : y.a = z := hya.trans hz
        have KS := Lib.hid (fun w h => H.out.assoc S w b T i h HS.out hi.1 hi.2)
        rw [hz] at KS
        obtain ⟨nz, hnz⟩ : ∃ n, z.m.length = n := ⟨_, rfl⟩
        simp only [AsV, hnz] at KS
        have HZN := Lib.hid hnz
        have hi0 : 0 ≤ i := hi.1
        have hi1 : i < (nA : Int) := by have := HNS.out.1; omega
        have HYZ := Lib.hid (And.intro hy hyz)
        have hm8 : nz ≤ 8 := by
          have hmem : z ∈ T.A := by
            rw [← hz, List.getD_eq_getElem?_getD, List.getElem?_eq_getElem (show i.toNat < T.A.length by omega)]
            exact List.getElem_mem _
          have := (asM_head (HI.out.ass _ hmem)).2.2.2.2.2.2.1
          omega
        clear hi hz hy hya hyz hnz
        go_wp2_with fail
        refine (KS.out _ HRx.out).mono ?_
        rintro e_ w3 ⟨B2, c2, rfl, hE2, _, hb3⟩
        have HB3 : Hid (Below w.heap.size w w3) := Lib.hid (HBx1.out.trans (hb3.mono HBx1.out.size))
        have HK3 := Lib.hid (HKx.out.below hb3 HKx.out.lt)
        have HR3 := Lib.hid (H.out.next HRx.out hb3)
        have HG3 := Lib.hid (HG.out.below hb3 HG.out.lt)
        have HT3 := Lib.hid (HTx.out.next hb3)
        have HE2 := Lib.hid hE2
        clear hb3 hE2 HBx1 HKx HRx HG KS HTx
        have HB4 : Hid (Below w.heap.size w (w3.alloc (.cells #[.int .u8 z.l.toNat, .string ⟨z.d.toArray⟩, .string ⟨z.n.toArray⟩, .int .u16 z.v.toNat, .int .u8 z.i.toNat, .slice B2 nz c2] 50))) := Lib.hid (HB3.out.alloc HB3.out.size _)
        have HK4 := Lib.hid (HK3.out.alloc (.cells #[.int .u8 z.l.toNat, .string ⟨z.d.toArray⟩, .string ⟨z.n.toArray⟩, .int .u16 z.v.toNat, .int .u8 z.i.toNat, .slice B2 nz c2] 50))
        have HR4 := Lib.hid (H.out.next HR3.out ((Below.refl _ _).alloc (Nat.le_refl _) (.cells #[.int .u8 z.l.toNat, .string ⟨z.d.toArray⟩, .string ⟨z.n.toArray⟩, .int .u16 z.v.toNat, .int .u8 z.i.toNat, .slice B2 nz c2] 50)))
        have HG4 := Lib.hid (HG3.out.alloc (.cells #[.int .u8 z.l.toNat, .string ⟨z.d.toArray⟩, .string ⟨z.n.toArray⟩, .int .u16 z.v.toNat, .int .u8 z.i.toNat, .slice B2 nz c2] 50))
        have HZ4 := Lib.hid (Blk.new w3 50 #[.int .u8 z.l.toNat, .string ⟨z.d.toArray⟩, .string ⟨z.n.toArray⟩, .int .u16 z.v.toNat, .int .u8 z.i.toNat, .slice B2 nz c2])
        go_upto_region 11 with (fail)
        obtain ⟨w4, hw4⟩ : ∃ w4, (w3.alloc (.cells #[.int .u8 z.l.toNat, .string ⟨z.d.toArray⟩, .string ⟨z.n.toArray⟩, .int .u16 z.v.toNat, .int .u8 z.i.toNat, .slice B2 nz c2] 50)) = w4 := ⟨_, rfl⟩
        obtain ⟨h, hh⟩ : ∃ h, w3.heap.size = h := ⟨_, rfl⟩
        have HW4 := Lib.hid ((Below.refl w3.heap.size w3).alloc (Nat.le_refl _) (.cells #[.int .u8 z.l.toNat, .string ⟨z.d.toArray⟩, .string ⟨z.n.toArray⟩, .int .u16 z.v.toNat, .int .u8 z.i.toNat, .slice B2 nz c2] 50))
        rw [hw4] at HB4 HK4 HR4 HG4 HZ4 HW4
        rw [hh] at HZ4
        rw [hw4, hh]
        clear hw4 hh HB3 HK3 HR3 HG3
        have hltG := HG4.out.lt
        have hltK := HK4.out.lt
        have g0 := HG4.out.cell 0
        have g1 := HG4.out.cell 1
        have g2 := HG4.out.cell 2
        simp only [List.getElem?_toArray, List.getElem?_cons_succ, List.getElem?_cons_zero] at g0 g1 g2
        have k1 := HK4.out.cell 1
        simp only [List.getElem?_toArray, List.getElem?_cons_succ, List.getElem?_cons_zero] at k1
        have HE4 : Hid (Els 1 u16c w4 B2 z.m) := Lib.hid (HE2.out.next HW4.out)
        have HT4 := Lib.hid (HT3.out.next HW4.out)
        go_cut [82] (fun a wx => a = .bool false ∧ Hid (Below w4.heap.size w4 wx))
        case first =>
          refine wp_region_noPanic ?_
          refine wp_region_held_drew (S := fun w_ => Below w4.heap.size w4 w_) (by kernel_rfl) (Below.refl _ w4).drew (fun hHeld => ?_)
          refine wpAnyH_take (i := 0) (v := ?v23) rfl (by kernel_rfl) (by kernel_rfl) (by kernel_rfl) (fun _ _ _ h => h) (Or.inl ⟨by rfl, ?hy23⟩) hHeld ?rest23
          case hy23 =>
            intro w_ hSw; go_simp
            all_goals (with_reducible rfl)
          try simp only [Act.put, List.getElem_toArray, List.getElem_cons_succ, List.getElem_cons_zero, List.setIfInBounds_toArray, List.set_cons_zero, List.set_cons_succ]
          refine wpAnyH_take (i := 1) (v := ?v24) rfl (by kernel_rfl) (by kernel_rfl) (by kernel_rfl) (fun _ _ _ h => h) (Or.inl ⟨by rfl, ?hy24⟩) hHeld ?rest24
          case hy24 =>
            intro w_ hSw; go_simp
            all_goals (with_reducible rfl)
          try simp only [Act.put, List.getElem_toArray, List.getElem_cons_succ, List.getElem_cons_zero, List.setIfInBounds_toArray, List.set_cons_zero, List.set_cons_succ]
          refine wpAnyH_take (i := 2) (v := ?v25) rfl (by kernel_rfl) (by kernel_rfl) (by kernel_rfl) (fun _ _ _ h => h) (Or.inl ⟨by rfl, ?hy25⟩) hHeld ?rest25
          case hy25 =>
            intro w_ hSw; go_simp
            all_goals (with_reducible rfl)
          try simp only [Act.put, List.getElem_toArray, List.getElem_cons_succ, List.getElem_cons_zero, List.setIfInBounds_toArray, List.set_cons_zero, List.set_cons_succ]
          refine wpAnyH_take (i := 4) (v := ?v26) rfl (by kernel_rfl) (by kernel_rfl) (by kernel_rfl) (fun _ _ _ h => h) (Or.inl ⟨by rfl, ?hy26⟩) hHeld ?rest26
          case hy26 =>
            intro w_ hSw; have h0 := (hSw.cell (p := ⟨g, 0, none⟩) hltG).trans g0; have h1 := (hSw.cell (p := ⟨g, 1, none⟩) hltG).trans g1; have h2 := (hSw.cell (p := ⟨g, 2, none⟩) hltG).trans g2; go_simp
            all_goals (with_reducible rfl)
          try simp only [Act.put, List.getElem_toArray, List.getElem_cons_succ, List.getElem_cons_zero, List.setIfInBounds_toArray, List.set_cons_zero, List.set_cons_succ]
          refine wpAnyH_ready (rs := [3]) (by kernel_rfl) (by simp) ?_
          refine AllReadyH.cons rfl (fun K hK => ?_) AllReadyH.nil
          go_simp
          go_at_call 14
          refine (KA.out _ (H.out.next HR4.out hHeld)).mono ?_
          rintro e_ w5 ⟨rfl, _, hb5⟩
          have hS5 := hHeld.trans (hb5.mono hHeld.size)
          clear hb5
          refine hK.out _ _ (hS5) (fun hHeld => ?_)
          clear hK K
          try simp only [Act.put, List.getElem_toArray, List.getElem_cons_succ, List.getElem_cons_zero, List.setIfInBounds_toArray, List.set_cons_zero, List.set_cons_succ]
          refine wpAnyH_take (i := 5) (v := ?v27) rfl (by kernel_rfl) (by kernel_rfl) (by kernel_rfl) (fun _ _ _ h => h) (Or.inl ⟨by rfl, ?hy27⟩) hHeld ?rest27
          case hy27 =>
            intro w_ hSw; go_simp
            all_goals (with_reducible rfl)
          try simp only [Act.put, List.getElem_toArray, List.getElem_cons_succ, List.getElem_cons_zero, List.setIfInBounds_toArray, List.set_cons_zero, List.set_cons_succ]
          refine wpAnyH_take (i := 6) (v := ?v28) rfl (by kernel_rfl) (by kernel_rfl) (by kernel_rfl) (fun _ _ _ h => h) (Or.inl ⟨by rfl, ?hy28⟩) hHeld ?rest28
          case hy28 =>
            intro w_ hSw; go_simp
            all_goals (with_reducible rfl)
          try simp only [Act.put, List.getElem_toArray, List.getElem_cons_succ, List.getElem_cons_zero, List.setIfInBounds_toArray, List.set_cons_zero, List.set_cons_succ]
          refine wpAnyH_take (i := 7) (v := ?v29) rfl (by kernel_rfl) (by kernel_rfl) (by kernel_rfl) (fun _ _ _ h => h) (Or.inl ⟨by rfl, ?hy29⟩) hHeld ?rest29
          case hy29 =>
            intro w_ hSw; go_simp
            all_goals (with_reducible rfl)
          try simp only [Act.put, List.getElem_toArray, List.getElem_cons_succ, List.getElem_cons_zero, List.setIfInBounds_toArray, List.set_cons_zero, List.set_cons_succ]
          refine wpAnyH_take (i := 8) (v := ?v30) rfl (by kernel_rfl) (by kernel_rfl) (by kernel_rfl) (fun _ _ _ h => h) (Or.inl ⟨by rfl, ?hy30⟩) hHeld ?rest30
          case hy30 =>
            intro w_ hSw; go_simp
            all_goals (with_reducible rfl)
          try simp only [Act.put, List.getElem_toArray, List.getElem_cons_succ, List.getElem_cons_zero, List.setIfInBounds_toArray, List.set_cons_zero, List.set_cons_succ]
          refine wpAnyH_take (i := 9) (v := ?v31) rfl (by kernel_rfl) (by kernel_rfl) (by kernel_rfl) (fun _ _ _ h => h) (Or.inl ⟨by rfl, ?hy31⟩) hHeld ?rest31
          case hy31 =>
            intro w_ hSw; go_simp
            all_goals (with_reducible rfl)
          try simp only [Act.put, List.getElem_toArray, List.getElem_cons_succ, List.getElem_cons_zero, List.setIfInBounds_toArray, List.set_cons_zero, List.set_cons_succ]
          refine wpAnyH_take (i := 10) (v := ?v32) rfl (by kernel_rfl) (by kernel_rfl) (by kernel_rfl) (fun _ _ _ h => h) (Or.inl ⟨by rfl, ?hy32⟩) hHeld ?rest32
          case hy32 =>
            intro w_ hSw; go_simp
            all_goals (with_reducible rfl)
          try simp only [Act.put, List.getElem_toArray, List.getElem_cons_succ, List.getElem_cons_zero, List.setIfInBounds_toArray, List.set_cons_zero, List.set_cons_succ]
          refine wpAnyH_take (i := 11) (v := ?v33) rfl (by kernel_rfl) (by kernel_rfl) (by kernel_rfl) (fun _ _ _ h => h) (Or.inl ⟨by rfl, ?hy33⟩) hHeld ?rest33
          case hy33 =>
            intro w_ hSw; go_simp
            all_goals (with_reducible rfl)
          try simp only [Act.put, List.getElem_toArray, List.getElem_cons_succ, List.getElem_cons_zero, List.setIfInBounds_toArray, List.set_cons_zero, List.set_cons_succ]
          refine wpAnyH_take (i := 12) (v := ?v34) rfl (by kernel_rfl) (by kernel_rfl) (by kernel_rfl) (fun _ _ _ h => h) (Or.inl ⟨by rfl, ?hy34⟩) hHeld ?rest34
          case hy34 =>
            intro w_ hSw; go_simp
            all_goals (with_reducible rfl)
          try simp only [Act.put, List.getElem_toArray, List.getElem_cons_succ, List.getElem_cons_zero, List.setIfInBounds_toArray, List.set_cons_zero, List.set_cons_succ]
          refine wpAnyH_take (i := 13) (v := ?v35) rfl (by kernel_rfl) (by kernel_rfl) (by kernel_rfl) (fun _ _ _ h => h) (Or.inl ⟨by rfl, ?hy35⟩) hHeld ?rest35
          case hy35 =>
            intro w_ hSw; have hc := (hSw.cell (p := ⟨w.heap.size, 1, none⟩) hltK).trans k1; go_simp
            all_goals (with_reducible rfl)
          try simp only [Act.put, List.getElem_toArray, List.getElem_cons_succ, List.getElem_cons_zero, List.setIfInBounds_toArray, List.set_cons_zero, List.set_cons_succ]
          refine wpAnyH_take (i := 14) (v := ?v36) rfl (by kernel_rfl) (by kernel_rfl) (by kernel_rfl) (fun _ _ _ h => h) (Or.inl ⟨by rfl, ?hy36⟩) hHeld ?rest36
          case hy36 =>
            intro w_ hSw; go_simp
            all_goals (with_reducible rfl)
          try simp only [Act.put, List.getElem_toArray, List.getElem_cons_succ, List.getElem_cons_zero, List.setIfInBounds_toArray, List.set_cons_zero, List.set_cons_succ]
          refine wpAnyH_take (i := 15) (v := ?v37) rfl (by kernel_rfl) (by kernel_rfl) (by kernel_rfl) (fun _ _ _ h => h) (Or.inl ⟨by rfl, ?hy37⟩) hHeld ?rest37
          case hy37 =>
            intro w_ hSw; go_simp
            all_goals (with_reducible rfl)
          try simp only [Act.put, List.getElem_toArray, List.getElem_cons_succ, List.getElem_cons_zero, List.setIfInBounds_toArray, List.set_cons_zero, List.set_cons_succ]
          refine wpAnyH_take (i := 16) (v := ?v38) rfl (by kernel_rfl) (by kernel_rfl) (by kernel_rfl) (fun _ _ _ h => h) (Or.inl ⟨by rfl, ?hy38⟩) hHeld ?rest38
          case hy38 =>
            intro w_ hSw; go_simp
            all_goals (with_reducible rfl)
          try simp only [Act.put, List.getElem_toArray, List.getElem_cons_succ, List.getElem_cons_zero, List.setIfInBounds_toArray, List.set_cons_zero, List.set_cons_succ]
          refine wpAnyH_take (i := 17) (v := ?v39) rfl (by kernel_rfl) (by kernel_rfl) (by kernel_rfl) (fun _ _ _ h => h) (Or.inl ⟨by rfl, ?hy39⟩) hHeld ?rest39
          case hy39 =>
            intro w_ hSw; go_simp
            all_goals (with_reducible rfl)
          try simp only [Act.put, List.getElem_toArray, List.getElem_cons_succ, List.getElem_cons_zero, List.setIfInBounds_toArray, List.set_cons_zero, List.set_cons_succ]
          refine wpAnyH_take (i := 18) (v := ?v40) rfl (by kernel_rfl) (by kernel_rfl) (by kernel_rfl) (fun _ _ _ h => h) (Or.inl ⟨by rfl, ?hy40⟩) hHeld ?rest40
          case hy40 =>
            intro w_ hSw; go_simp
            all_goals (with_reducible rfl)
          try simp only [Act.put, List.getElem_toArray, List.getElem_cons_succ, List.getElem_cons_zero, List.setIfInBounds_toArray, List.set_cons_zero, List.set_cons_succ]
          refine wpAnyH_done (by kernel_rfl) ?_ _
          refine NoPanic.normal ?_
          go_wp2_with fail
          go_meet
          exact ⟨rfl, Lib.hid hS5⟩
        obtain ⟨rfl, HB5⟩ := hcut
        have HK5 := Lib.hid (HK4.out.below HB5.out HK4.out.lt)
        have HZ5 := Lib.hid (HZ4.out.below HB5.out HZ4.out.lt)
        have HT5 := Lib.hid (HT4.out.next HB5.out)
        have HE5 := Lib.hid (HE4.out.next HB5.out)
        have HBW5 : Hid (Below w.heap.size w wc) := Lib.hid (HB4.out.trans (HB5.out.mono HB4.out.size))
        obtain ⟨b3, off3, hA3, hlt3, a0, a1, a2, a3, a4, a5⟩ := as_at HT5.out.ea HYZ.out.1
        rw [HYZ.out.2] at a0 a1 a2 a3 a4 a5
        rw [HZN.out] at a5
        have hltZ := HZ5.out.lt
        have z0 := HZ5.out.cell 0
        have z1 := HZ5.out.cell 1
        have z2 := HZ5.out.cell 2
        have z3 := HZ5.out.cell 3
        have z4 := HZ5.out.cell 4
        have z5 := HZ5.out.cell 5
        simp only [List.getElem?_toArray, List.getElem?_cons_succ, List.getElem?_cons_zero] at z0 z1 z2 z3 z4 z5
        have k1 := HK5.out.cell 1
        simp only [List.getElem?_toArray, List.getElem?_cons_succ, List.getElem?_cons_zero] at k1
        rw [hA3] at k1
        have HW6 : Hid (Below wc.heap.size wc (wc.alloc (.cells #[.int .u8 z.l.toNat, .string ⟨z.d.toArray⟩, .string ⟨z.n.toArray⟩, .int .u16 z.v.toNat, .int .u8 z.i.toNat, .slice y.b nz y.c] 37))) := Lib.hid ((Below.refl _ _).alloc (Nat.le_refl _) _)
        have HB6 : Hid (Below w.heap.size w (wc.alloc (.cells #[.int .u8 z.l.toNat, .string ⟨z.d.toArray⟩, .string ⟨z.n.toArray⟩, .int .u16 z.v.toNat, .int .u8 z.i.toNat, .slice y.b nz y.c] 37))) := Lib.hid (HBW5.out.alloc HBW5.out.size _)
        have HY6 : Hid (Blk (wc.alloc (.cells #[.int .u8 z.l.toNat, .string ⟨z.d.toArray⟩, .string ⟨z.n.toArray⟩, .int .u16 z.v.toNat, .int .u8 z.i.toNat, .slice y.b nz y.c] 37)) wc.heap.size 37 #[.int .u8 z.l.toNat, .string ⟨z.d.toArray⟩, .string ⟨z.n.toArray⟩, .int .u16 z.v.toNat, .int .u8 z.i.toNat, .slice y.b nz y.c]) := Lib.hid (Blk.new _ _ _)
        have HZ6 := Lib.hid (HZ5.out.alloc (.cells #[.int .u8 z.l.toNat, .string ⟨z.d.toArray⟩, .string ⟨z.n.toArray⟩, .int .u16 z.v.toNat, .int .u8 z.i.toNat, .slice y.b nz y.c] 37))
        have HE6 : Hid (Els 1 u16c (wc.alloc (.cells #[.int .u8 z.l.toNat, .string ⟨z.d.toArray⟩, .string ⟨z.n.toArray⟩, .int .u16 z.v.toNat, .int .u8 z.i.toNat, .slice y.b nz y.c] 37)) B2 z.m) := Lib.hid (HE5.out.next HW6.out)
        have HF6 : Hid (Els 1 u16c (wc.alloc (.cells #[.int .u8 z.l.toNat, .string ⟨z.d.toArray⟩, .string ⟨z.n.toArray⟩, .int .u16 z.v.toNat, .int .u8 z.i.toNat, .slice y.b nz y.c] 37)) y.b z.m) := Lib.hid (by
          have hem := (HT5.out.em y (List.mem_of_getElem? HYZ.out.1)).next HW6.out
          rw [HYZ.out.2] at hem
          exact hem)
        clear HB4 HK4 HR4 HG4 HZ4 HB5 HK5 HZ5 HT4 HT5 HE4 HE5 HBW5 hltG hltK g0 g1 g2 q KA hA3
        go_upto_region 18 with (fail)
        obtain ⟨w6, hw6⟩ : ∃ w6, (wc.alloc (.cells #[.int .u8 z.l.toNat, .string ⟨z.d.toArray⟩, .string ⟨z.n.toArray⟩, .int .u16 z.v.toNat, .int .u8 z.i.toNat, .slice y.b nz y.c] 37)) = w6 := ⟨_, rfl⟩
        obtain ⟨h2, hh2⟩ : ∃ h, wc.heap.size = h := ⟨_, rfl⟩
        rw [hw6] at HB6 HY6 HZ6 HE6 HF6
        rw [hh2] at HY6
        rw [hw6, hh2]
        clear hw6 hh2 HW6 a0 a1 a2 a3 a4 a5 k1 z0 z1 z2 z3 z4 z5 hltZ hlt3 hi0 hi1
        go_wp2
        go_loopw [17] (fun j wr => ∃ k : Nat, k ≤ nz ∧ j = .int .i64 k ∧ Hid (Below w6.heap.size w6 wr)) (fun j _ => nz - (intOf j).toNat)
        case atStart => exact ⟨0, Nat.zero_le _, rfl, Lib.hid (Below.refl _ _)⟩
        case round =>
          obtain ⟨k, hk, rfl, HBw⟩ := hrel
          have HZ := Lib.hid (HZ6.out.below HBw.out HZ6.out.lt)
          have HY := Lib.hid (HY6.out.below HBw.out HY6.out.lt)
          have z5 := HZ.out.cell 5
          have y5 := HY.out.cell 5
          simp only [List.getElem?_toArray, List.getElem?_cons_succ, List.getElem?_cons_zero] at  z5 y5
          by_cases hlt : k < nz
          · obtain ⟨x, hx⟩ : ∃ x, z.m[k]? = some x := ⟨_, List.getElem?_eq_getElem (by rw [HZN.out]; exact hlt)⟩
            obtain ⟨b4, off4, hA4, hlt4, e0⟩ := u16c_at (HE6.out.next HBw.out) hx
            obtain ⟨b5, off5, hA5, hlt5, d0⟩ := u16c_at (HF6.out.next HBw.out) hx
            have hki : (k : Int) < nz := by omega
            have HLT := Lib.hid hlt
            rw [hA4] at z5
            rw [hA5] at y5
            clear hlt hx hA4 hA5
            go_wp2_with fail
            go_quiet (fail)
            go_wp2
            go_roundw
            case rel => exact ⟨k + 1, by have := HLT.out; omega, by go_num, Lib.hid (below_drewN16 HBw.out _)⟩
            case measure => have := HLT.out; simp [intOf]; omega
          · obtain rfl : nz = k := by omega
            go_wp2
            go_ret
            exact ⟨rfl, HB6.out.trans (HBw.out.mono HB6.out.size)⟩
      · have KS := Lib.hid (fun w h => H.out.assocNo S w b T i h HS.out hi)
        have hq : i < 0 ∨ (0 ≤ i ∧ (nA : Int) ≤ i) := by have := HNS.out.1; omega
        clear hi
        go_wp2_with fail
        refine (KS.out _ HRx.out).mono ?_
        rintro e_ w3 ⟨rfl, _, hb3⟩
        have HB3 : Hid (Below w.heap.size w w3) := Lib.hid (HBx1.out.trans (hb3.mono HBx1.out.size))
        have HK3 := Lib.hid (HKx.out.below hb3 HKx.out.lt)
        have HR3 := Lib.hid (H.out.next HRx.out hb3)
        have HG3 := Lib.hid (HG.out.below hb3 HG.out.lt)
        clear hb3 HBx1 HKx HRx HG KS HTx
        have HB4 : Hid (Below w.heap.size w (w3.alloc (.cells #[.int .u8 0, .string ⟨#[]⟩, .string ⟨#[]⟩, .int .u16 0, .int .u8 0, .slice none 0 0] 50))) := Lib.hid (HB3.out.alloc HB3.out.size _)
        have HK4 := Lib.hid (HK3.out.alloc (.cells #[.int .u8 0, .string ⟨#[]⟩, .string ⟨#[]⟩, .int .u16 0, .int .u8 0, .slice none 0 0] 50))
        have HR4 := Lib.hid (H.out.next HR3.out ((Below.refl _ _).alloc (Nat.le_refl _) (.cells #[.int .u8 0, .string ⟨#[]⟩, .string ⟨#[]⟩, .int .u16 0, .int .u8 0, .slice none 0 0] 50)))
        have HG4 := Lib.hid (HG3.out.alloc (.cells #[.int .u8 0, .string ⟨#[]⟩, .string ⟨#[]⟩, .int .u16 0, .int .u8 0, .slice none 0 0] 50))
        have HZ4 := Lib.hid (Blk.new w3 50 #[.int .u8 0, .string ⟨#[]⟩, .string ⟨#[]⟩, .int .u16 0, .int .u8 0, .slice none 0 0])
        go_upto_region 11 with (fail)
        obtain ⟨w4, hw4⟩ : ∃ w4, (w3.alloc (.cells #[.int .u8 0, .string ⟨#[]⟩, .string ⟨#[]⟩, .int .u16 0, .int .u8 0, .slice none 0 0] 50)) = w4 := ⟨_, rfl⟩
        obtain ⟨h, hh⟩ : ∃ h, w3.heap.size = h := ⟨_, rfl⟩
        have HW4 := Lib.hid ((Below.refl w3.heap.size w3).alloc (Nat.le_refl _) (.cells #[.int .u8 0, .string ⟨#[]⟩, .string ⟨#[]⟩, .int .u16 0, .int .u8 0, .slice none 0 0] 50))
        rw [hw4] at HB4 HK4 HR4 HG4 HZ4 HW4
        rw [hh] at HZ4
        rw [hw4, hh]
        clear hw4 hh HB3 HK3 HR3 HG3
        have hltG := HG4.out.lt
        have hltK := HK4.out.lt
        have g0 := HG4.out.cell 0
        have g1 := HG4.out.cell 1
        have g2 := HG4.out.cell 2
        simp only [List.getElem?_toArray, List.getElem?_cons_succ, List.getElem?_cons_zero] at g0 g1 g2
        have k1 := HK4.out.cell 1
        simp only [List.getElem?_toArray, List.getElem?_cons_succ, List.getElem?_cons_zero] at k1
        go_cut [82] (fun a wx => a = .bool false ∧ Hid (Below w4.heap.size w4 wx))
        case first =>
          rcases hq with hq | ⟨hq0, hq1⟩
          · have d0 : decide (0 ≤ i) = false := by simp; omega
            refine wp_region_noPanic ?_
            refine wp_region_held_drew (S := fun w_ => Below w4.heap.size w4 w_) (by kernel_rfl) (Below.refl _ w4).drew (fun hHeld => ?_)
            refine wpAnyH_take (i := 0) (v := ?v41) rfl (by kernel_rfl) (by kernel_rfl) (by kernel_rfl) (fun _ _ _ h => h) (Or.inl ⟨by rfl, ?hy41⟩) hHeld ?rest41
            case hy41 =>
              intro w_ hSw; go_simp
              all_goals (with_reducible rfl)
            try simp only [Act.put, List.getElem_toArray, List.getElem_cons_succ, List.getElem_cons_zero, List.setIfInBounds_toArray, List.set_cons_zero, List.set_cons_succ]
            refine wpAnyH_take (i := 1) (v := ?v42) rfl (by kernel_rfl) (by kernel_rfl) (by kernel_rfl) (fun _ _ _ h => h) (Or.inl ⟨by rfl, ?hy42⟩) hHeld ?rest42
            case hy42 =>
              intro w_ hSw; go_simp
              all_goals (with_reducible rfl)
            try simp only [Act.put, List.getElem_toArray, List.getElem_cons_succ, List.getElem_cons_zero, List.setIfInBounds_toArray, List.set_cons_zero, List.set_cons_succ]
            refine wpAnyH_take (i := 2) (v := ?v43) rfl (by kernel_rfl) (by kernel_rfl) (by kernel_rfl) (fun _ _ _ h => h) (Or.inl ⟨by rfl, ?hy43⟩) hHeld ?rest43
            case hy43 =>
              intro w_ hSw; go_simp
              all_goals (with_reducible rfl)
            try simp only [Act.put, List.getElem_toArray, List.getElem_cons_succ, List.getElem_cons_zero, List.setIfInBounds_toArray, List.set_cons_zero, List.set_cons_succ]
            refine wpAnyH_take (i := 4) (v := ?v44) rfl (by kernel_rfl) (by kernel_rfl) (by kernel_rfl) (fun _ _ _ h => h) (Or.inl ⟨by rfl, ?hy44⟩) hHeld ?rest44
            case hy44 =>
              intro w_ hSw; have h0 := (hSw.cell (p := ⟨g, 0, none⟩) hltG).trans g0; have h1 := (hSw.cell (p := ⟨g, 1, none⟩) hltG).trans g1; have h2 := (hSw.cell (p := ⟨g, 2, none⟩) hltG).trans g2; go_simp
              all_goals (with_reducible rfl)
            try simp only [Act.put, List.getElem_toArray, List.getElem_cons_succ, List.getElem_cons_zero, List.setIfInBounds_toArray, List.set_cons_zero, List.set_cons_succ]
            refine wpAnyH_ready (rs := [3]) (by kernel_rfl) (by simp) ?_
            refine AllReadyH.cons rfl (fun K hK => ?_) AllReadyH.nil
            go_simp
            go_at_call 14
            refine (KA.out _ (H.out.next HR4.out hHeld)).mono ?_
            rintro e_ w5 ⟨rfl, _, hb5⟩
            have hS5 := hHeld.trans (hb5.mono hHeld.size)
            clear hb5
            refine hK.out _ _ (hS5) (fun hHeld => ?_)
            clear hK K
            try simp only [Act.put, List.getElem_toArray, List.getElem_cons_succ, List.getElem_cons_zero, List.setIfInBounds_toArray, List.set_cons_zero, List.set_cons_succ]
            refine wpAnyH_take (i := 5) (v := ?v45) rfl (by kernel_rfl) (by kernel_rfl) (by kernel_rfl) (fun _ _ _ h => h) (Or.inl ⟨by rfl, ?hy45⟩) hHeld ?rest45
            case hy45 =>
              intro w_ hSw; go_simp
              all_goals (with_reducible rfl)
            try simp only [Act.put, List.getElem_toArray, List.getElem_cons_succ, List.getElem_cons_zero, List.setIfInBounds_toArray, List.set_cons_zero, List.set_cons_succ]
            refine wpAnyH_take (i := 6) (v := ?v46) rfl (by kernel_rfl) (by kernel_rfl) (by kernel_rfl) (fun _ _ _ h => h) (Or.inl ⟨by rfl, ?hy46⟩) hHeld ?rest46
            case hy46 =>
              intro w_ hSw; go_simp
              all_goals (with_reducible rfl)
            try simp only [Act.put, List.getElem_toArray, List.getElem_cons_succ, List.getElem_cons_zero, List.setIfInBounds_toArray, List.set_cons_zero, List.set_cons_succ]
            refine wpAnyH_take (i := 7) (v := ?v47) rfl (by kernel_rfl) (by kernel_rfl) (by kernel_rfl) (fun _ _ _ h => h) (Or.inl ⟨by rfl, ?hy47⟩) hHeld ?rest47
            case hy47 =>
              intro w_ hSw; go_simp
              all_goals (with_reducible rfl)
            try simp only [Act.put, List.getElem_toArray, List.getElem_cons_succ, List.getElem_cons_zero, List.setIfInBounds_toArray, List.set_cons_zero, List.set_cons_succ]
            refine wpAnyH_take (i := 8) (v := ?v48) rfl (by kernel_rfl) (by kernel_rfl) (by kernel_rfl) (fun _ _ _ h => h) (Or.inl ⟨by rfl, ?hy48⟩) hHeld ?rest48
            case hy48 =>
              intro w_ hSw; go_simp
              all_goals (with_reducible rfl)
            try simp only [Act.put, List.getElem_toArray, List.getElem_cons_succ, List.getElem_cons_zero, List.setIfInBounds_toArray, List.set_cons_zero, List.set_cons_succ]
            refine wpAnyH_take (i := 9) (v := ?v49) rfl (by kernel_rfl) (by kernel_rfl) (by kernel_rfl) (fun _ _ _ h => h) (Or.inl ⟨by rfl, ?hy49⟩) hHeld ?rest49
            case hy49 =>
              intro w_ hSw; go_simp
              all_goals (with_reducible rfl)
            try simp only [Act.put, List.getElem_toArray, List.getElem_cons_succ, List.getElem_cons_zero, List.setIfInBounds_toArray, List.set_cons_zero, List.set_cons_succ]
            refine wpAnyH_take (i := 10) (v := ?v50) rfl (by kernel_rfl) (by kernel_rfl) (by kernel_rfl) (fun _ _ _ h => h) (Or.inl ⟨by rfl, ?hy50⟩) hHeld ?rest50
            case hy50 =>
              intro w_ hSw; go_simp
              all_goals (with_reducible rfl)
            try simp only [Act.put, List.getElem_toArray, List.getElem_cons_succ, List.getElem_cons_zero, List.setIfInBounds_toArray, List.set_cons_zero, List.set_cons_succ]
            refine wpAnyH_take (i := 11) (v := undef) rfl (by kernel_rfl) (by kernel_rfl) (by kernel_rfl) (fun _ _ _ h => h) (Or.inr ⟨by rfl, rfl⟩) hHeld ?_
            try simp only [Act.put, List.getElem_toArray, List.getElem_cons_succ, List.getElem_cons_zero, List.setIfInBounds_toArray, List.set_cons_zero, List.set_cons_succ]
            refine wpAnyH_take (i := 12) (v := undef) rfl (by kernel_rfl) (by kernel_rfl) (by kernel_rfl) (fun _ _ _ h => h) (Or.inr ⟨by rfl, rfl⟩) hHeld ?_
            try simp only [Act.put, List.getElem_toArray, List.getElem_cons_succ, List.getElem_cons_zero, List.setIfInBounds_toArray, List.set_cons_zero, List.set_cons_succ]
            refine wpAnyH_take (i := 13) (v := undef) rfl (by kernel_rfl) (by kernel_rfl) (by kernel_rfl) (fun _ _ _ h => h) (Or.inr ⟨by rfl, rfl⟩) hHeld ?_
            try simp only [Act.put, List.getElem_toArray, List.getElem_cons_succ, List.getElem_cons_zero, List.setIfInBounds_toArray, List.set_cons_zero, List.set_cons_succ]
            refine wpAnyH_take (i := 14) (v := undef) rfl (by kernel_rfl) (by kernel_rfl) (by kernel_rfl) (fun _ _ _ h => h) (Or.inr ⟨by rfl, rfl⟩) hHeld ?_
            try simp only [Act.put, List.getElem_toArray, List.getElem_cons_succ, List.getElem_cons_zero, List.setIfInBounds_toArray, List.set_cons_zero, List.set_cons_succ]
            refine wpAnyH_take (i := 15) (v := undef) rfl (by kernel_rfl) (by kernel_rfl) (by kernel_rfl) (fun _ _ _ h => h) (Or.inr ⟨by rfl, rfl⟩) hHeld ?_
            try simp only [Act.put, List.getElem_toArray, List.getElem_cons_succ, List.getElem_cons_zero, List.setIfInBounds_toArray, List.set_cons_zero, List.set_cons_succ]
            refine wpAnyH_take (i := 16) (v := ?v51) rfl (by kernel_rfl) (by kernel_rfl) (by kernel_rfl) (fun _ _ _ h => h) (Or.inl ⟨by rfl, ?hy51⟩) hHeld ?rest51
            case hy51 =>
              intro w_ hSw; go_simp
              all_goals (with_reducible rfl)
            try simp only [Act.put, List.getElem_toArray, List.getElem_cons_succ, List.getElem_cons_zero, List.setIfInBounds_toArray, List.set_cons_zero, List.set_cons_succ]
            refine wpAnyH_take (i := 17) (v := ?v52) rfl (by kernel_rfl) (by kernel_rfl) (by kernel_rfl) (fun _ _ _ h => h) (Or.inl ⟨by rfl, ?hy52⟩) hHeld ?rest52
            case hy52 =>
              intro w_ hSw; go_simp
              all_goals (with_reducible rfl)
            try simp only [Act.put, List.getElem_toArray, List.getElem_cons_succ, List.getElem_cons_zero, List.setIfInBounds_toArray, List.set_cons_zero, List.set_cons_succ]
            refine wpAnyH_take (i := 18) (v := ?v53) rfl (by kernel_rfl) (by kernel_rfl) (by kernel_rfl) (fun _ _ _ h => h) (Or.inl ⟨by rfl, ?hy53⟩) hHeld ?rest53
            case hy53 =>
              intro w_ hSw; go_simp
              all_goals (with_reducible rfl)
            try simp only [Act.put, List.getElem_toArray, List.getElem_cons_succ, List.getElem_cons_zero, List.setIfInBounds_toArray, List.set_cons_zero, List.set_cons_succ]
            refine wpAnyH_done (by kernel_rfl) ?_ _
            refine NoPanic.normal ?_
            go_wp2_with fail
            go_meet
            exact ⟨rfl, Lib.hid hS5⟩
          · have d0 : decide (0 ≤ i) = true := by simp; omega
            have d1 : decide (i < (nA : Int)) = false := by simp; omega
            refine wp_region_noPanic ?_
            refine wp_region_held_drew (S := fun w_ => Below w4.heap.size w4 w_) (by kernel_rfl) (Below.refl _ w4).drew (fun hHeld => ?_)
            refine wpAnyH_take (i := 0) (v := ?vb54) rfl (by kernel_rfl) (by kernel_rfl) (by kernel_rfl) (fun _ _ _ h => h) (Or.inl ⟨by rfl, ?hyb54⟩) hHeld ?restb54
            case hyb54 =>
              intro w_ hSw; go_simp
              all_goals (with_reducible rfl)
            try simp only [Act.put, List.getElem_toArray, List.getElem_cons_succ, List.getElem_cons_zero, List.setIfInBounds_toArray, List.set_cons_zero, List.set_cons_succ]
            refine wpAnyH_take (i := 1) (v := ?vb55) rfl (by kernel_rfl) (by kernel_rfl) (by kernel_rfl) (fun _ _ _ h => h) (Or.inl ⟨by rfl, ?hyb55⟩) hHeld ?restb55
            case hyb55 =>
              intro w_ hSw; go_simp
              all_goals (with_reducible rfl)
            try simp only [Act.put, List.getElem_toArray, List.getElem_cons_succ, List.getElem_cons_zero, List.setIfInBounds_toArray, List.set_cons_zero, List.set_cons_succ]
            refine wpAnyH_take (i := 2) (v := ?vb56) rfl (by kernel_rfl) (by kernel_rfl) (by kernel_rfl) (fun _ _ _ h => h) (Or.inl ⟨by rfl, ?hyb56⟩) hHeld ?restb56
            case hyb56 =>
              intro w_ hSw; go_simp
              all_goals (with_reducible rfl)
            try simp only [Act.put, List.getElem_toArray, List.getElem_cons_succ, List.getElem_cons_zero, List.setIfInBounds_toArray, List.set_cons_zero, List.set_cons_succ]
            refine wpAnyH_take (i := 4) (v := ?vb57) rfl (by kernel_rfl) (by kernel_rfl) (by kernel_rfl) (fun _ _ _ h => h) (Or.inl ⟨by rfl, ?hyb57⟩) hHeld ?restb57
            case hyb57 =>
              intro w_ hSw; have h0 := (hSw.cell (p := ⟨g, 0, none⟩) hltG).trans g0; have h1 := (hSw.cell (p := ⟨g, 1, none⟩) hltG).trans g1; have h2 := (hSw.cell (p := ⟨g, 2, none⟩) hltG).trans g2; go_simp
              all_goals (with_reducible rfl)
            try simp only [Act.put, List.getElem_toArray, List.getElem_cons_succ, List.getElem_cons_zero, List.setIfInBounds_toArray, List.set_cons_zero, List.set_cons_succ]
            refine wpAnyH_ready (rs := [3]) (by kernel_rfl) (by simp) ?_
            refine AllReadyH.cons rfl (fun K hK => ?_) AllReadyH.nil
            go_simp
            go_at_call 14
            refine (KA.out _ (H.out.next HR4.out hHeld)).mono ?_
            rintro e_ w5 ⟨rfl, _, hb5⟩
            have hS5 := hHeld.trans (hb5.mono hHeld.size)
            clear hb5
            refine hK.out _ _ (hS5) (fun hHeld => ?_)
            clear hK K
            try simp only [Act.put, List.getElem_toArray, List.getElem_cons_succ, List.getElem_cons_zero, List.setIfInBounds_toArray, List.set_cons_zero, List.set_cons_succ]
            refine wpAnyH_take (i := 5) (v := ?vb58) rfl (by kernel_rfl) (by kernel_rfl) (by kernel_rfl) (fun _ _ _ h => h) (Or.inl ⟨by rfl, ?hyb58⟩) hHeld ?restb58
            case hyb58 =>
              intro w_ hSw; go_simp
              all_goals (with_reducible rfl)
            try simp only [Act.put, List.getElem_toArray, List.getElem_cons_succ, List.getElem_cons_zero, List.setIfInBounds_toArray, List.set_cons_zero, List.set_cons_succ]
            refine wpAnyH_take (i := 6) (v := ?vb59) rfl (by kernel_rfl) (by kernel_rfl) (by kernel_rfl) (fun _ _ _ h => h) (Or.inl ⟨by rfl, ?hyb59⟩) hHeld ?restb59
            case hyb59 =>
              intro w_ hSw; go_simp
              all_goals (with_reducible rfl)
            try simp only [Act.put, List.getElem_toArray, List.getElem_cons_succ, List.getElem_cons_zero, List.setIfInBounds_toArray, List.set_cons_zero, List.set_cons_succ]
            refine wpAnyH_take (i := 7) (v := ?vb60) rfl (by kernel_rfl) (by kernel_rfl) (by kernel_rfl) (fun _ _ _ h => h) (Or.inl ⟨by rfl, ?hyb60⟩) hHeld ?restb60
            case hyb60 =>
              intro w_ hSw; go_simp
              all_goals (with_reducible rfl)
            try simp only [Act.put, List.getElem_toArray, List.getElem_cons_succ, List.getElem_cons_zero, List.setIfInBounds_toArray, List.set_cons_zero, List.set_cons_succ]
            refine wpAnyH_take (i := 8) (v := ?vb61) rfl (by kernel_rfl) (by kernel_rfl) (by kernel_rfl) (fun _ _ _ h => h) (Or.inl ⟨by rfl, ?hyb61⟩) hHeld ?restb61
            case hyb61 =>
              intro w_ hSw; go_simp
              all_goals (with_reducible rfl)
            try simp only [Act.put, List.getElem_toArray, List.getElem_cons_succ, List.getElem_cons_zero, List.setIfInBounds_toArray, List.set_cons_zero, List.set_cons_succ]
            refine wpAnyH_take (i := 9) (v := ?vb62) rfl (by kernel_rfl) (by kernel_rfl) (by kernel_rfl) (fun _ _ _ h => h) (Or.inl ⟨by rfl, ?hyb62⟩) hHeld ?restb62
            case hyb62 =>
              intro w_ hSw; go_simp
              all_goals (with_reducible rfl)
            try simp only [Act.put, List.getElem_toArray, List.getElem_cons_succ, List.getElem_cons_zero, List.setIfInBounds_toArray, List.set_cons_zero, List.set_cons_succ]
            refine wpAnyH_take (i := 10) (v := ?vb63) rfl (by kernel_rfl) (by kernel_rfl) (by kernel_rfl) (fun _ _ _ h => h) (Or.inl ⟨by rfl, ?hyb63⟩) hHeld ?restb63
            case hyb63 =>
              intro w_ hSw; go_simp
              all_goals (with_reducible rfl)
            try simp only [Act.put, List.getElem_toArray, List.getElem_cons_succ, List.getElem_cons_zero, List.setIfInBounds_toArray, List.set_cons_zero, List.set_cons_succ]
            refine wpAnyH_take (i := 11) (v := ?vb64) rfl (by kernel_rfl) (by kernel_rfl) (by kernel_rfl) (fun _ _ _ h => h) (Or.inl ⟨by rfl, ?hyb64⟩) hHeld ?restb64
            case hyb64 =>
              intro w_ hSw; go_simp
              all_goals (with_reducible rfl)
            try simp only [Act.put, List.getElem_toArray, List.getElem_cons_succ, List.getElem_cons_zero, List.setIfInBounds_toArray, List.set_cons_zero, List.set_cons_succ]
            refine wpAnyH_take (i := 12) (v := ?vb65) rfl (by kernel_rfl) (by kernel_rfl) (by kernel_rfl) (fun _ _ _ h => h) (Or.inl ⟨by rfl, ?hyb65⟩) hHeld ?restb65
            case hyb65 =>
              intro w_ hSw; go_simp
              all_goals (with_reducible rfl)
            try simp only [Act.put, List.getElem_toArray, List.getElem_cons_succ, List.getElem_cons_zero, List.setIfInBounds_toArray, List.set_cons_zero, List.set_cons_succ]
            refine wpAnyH_take (i := 13) (v := ?vb66) rfl (by kernel_rfl) (by kernel_rfl) (by kernel_rfl) (fun _ _ _ h => h) (Or.inl ⟨by rfl, ?hyb66⟩) hHeld ?restb66
            case hyb66 =>
              intro w_ hSw; have hc := (hSw.cell (p := ⟨w.heap.size, 1, none⟩) hltK).trans k1; go_simp
              all_goals (with_reducible rfl)
            try simp only [Act.put, List.getElem_toArray, List.getElem_cons_succ, List.getElem_cons_zero, List.setIfInBounds_toArray, List.set_cons_zero, List.set_cons_succ]
            refine wpAnyH_take (i := 14) (v := ?vb67) rfl (by kernel_rfl) (by kernel_rfl) (by kernel_rfl) (fun _ _ _ h => h) (Or.inl ⟨by rfl, ?hyb67⟩) hHeld ?restb67
            case hyb67 =>
              intro w_ hSw; go_simp
              all_goals (with_reducible rfl)
            try simp only [Act.put, List.getElem_toArray, List.getElem_cons_succ, List.getElem_cons_zero, List.setIfInBounds_toArray, List.set_cons_zero, List.set_cons_succ]
            refine wpAnyH_take (i := 15) (v := ?vb68) rfl (by kernel_rfl) (by kernel_rfl) (by kernel_rfl) (fun _ _ _ h => h) (Or.inl ⟨by rfl, ?hyb68⟩) hHeld ?restb68
            case hyb68 =>
              intro w_ hSw; go_simp
              all_goals (with_reducible rfl)
            try simp only [Act.put, List.getElem_toArray, List.getElem_cons_succ, List.getElem_cons_zero, List.setIfInBounds_toArray, List.set_cons_zero, List.set_cons_succ]
            refine wpAnyH_take (i := 16) (v := ?vb69) rfl (by kernel_rfl) (by kernel_rfl) (by kernel_rfl) (fun _ _ _ h => h) (Or.inl ⟨by rfl, ?hyb69⟩) hHeld ?restb69
            case hyb69 =>
              intro w_ hSw; go_simp
              all_goals (with_reducible rfl)
            try simp only [Act.put, List.getElem_toArray, List.getElem_cons_succ, List.getElem_cons_zero, List.setIfInBounds_toArray, List.set_cons_zero, List.set_cons_succ]
            refine wpAnyH_take (i := 17) (v := ?vb70) rfl (by kernel_rfl) (by kernel_rfl) (by kernel_rfl) (fun _ _ _ h => h) (Or.inl ⟨by rfl, ?hyb70⟩) hHeld ?restb70
            case hyb70 =>
              intro w_ hSw; go_simp
              all_goals (with_reducible rfl)
            try simp only [Act.put, List.getElem_toArray, List.getElem_cons_succ, List.getElem_cons_zero, List.setIfInBounds_toArray, List.set_cons_zero, List.set_cons_succ]
            refine wpAnyH_take (i := 18) (v := ?vb71) rfl (by kernel_rfl) (by kernel_rfl) (by kernel_rfl) (fun _ _ _ h => h) (Or.inl ⟨by rfl, ?hyb71⟩) hHeld ?restb71
            case hyb71 =>
              intro w_ hSw; go_simp
              all_goals (with_reducible rfl)
            try simp only [Act.put, List.getElem_toArray, List.getElem_cons_succ, List.getElem_cons_zero, List.setIfInBounds_toArray, List.set_cons_zero, List.set_cons_succ]
            refine wpAnyH_done (by kernel_rfl) ?_ _
            refine NoPanic.normal ?_
            go_wp2_with fail
            go_meet
            exact ⟨rfl, Lib.hid hS5⟩
        obtain ⟨rfl, HB5⟩ := hcut
        have HZ5 := Lib.hid (HZ4.out.below HB5.out HZ4.out.lt)
        have HBW5 : Hid (Below w.heap.size w wc) := Lib.hid (HB4.out.trans (HB5.out.mono HB4.out.size))
        have z2 := HZ5.out.cell 2
        have z5 := HZ5.out.cell 5
        simp only [List.getElem?_toArray, List.getElem?_cons_succ, List.getElem?_cons_zero] at z2 z5
        clear HB4 HK4 HR4 HG4 HZ4 HB5 HZ5 hltG hltK g0 g1 g2 q KA k1
        go_wp2
        go_ret
        exact ⟨rfl, HBW5.out⟩
end Go.Proofs.Ytfdiolfelecccaa
