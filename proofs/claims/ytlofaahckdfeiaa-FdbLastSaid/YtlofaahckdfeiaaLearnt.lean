/- Layer 8: the law's learnt. -/
import Derived.Test.YtlofaahckdfeiaaFix
import Derived.Test.YtlofaahckdfeiaaPush
import Derived.Laws.BitsAllLaws
import Derived.Deep.RegionHeld3
namespace Go.Proofs.Ytlofaahckdfeiaa
open Go.RowKit Go.Shelf
open Go.Sort (grow)
set_option linter.unusedVariables false
set_option linter.unusedSimpArgs false
set_option maxRecDepth 100000

theorem run_eqK (k l : Pl) (w : World) : (Op.equalIn 10000 57 (kV k) (kV l)).run Try.prog w = .ok (decide (k = l)) w := by
  have h0 := run_equalIn_int (P := Try.prog) w 9998 23 .u16 .u16 (k.v.toNat : Int) (l.v.toNat : Int) Try.underlying23
  rw [u16_eqI] at h0
  have h1 := run_eqM9 k.m l.m w
  rw [run_equalIn_struct w 9999 57 _ _ (by rw [Program.fieldsOf, Try.underlying57]) (by kernel_rfl)]
  simp only [Program.fieldsOf, Try.underlying57]
  have hall : decide (k = l) = (decide (k.v = l.v) && (decide (k.m = l.m) && true)) := by rw [pl_eq, Bool.and_true]
  rw [hall]
  refine eqs_step (by decide) (by kernel_rfl) (by kernel_rfl) h0 ?_
  refine eqs_step (by decide) (by kernel_rfl) (by kernel_rfl) h1 ?_
  exact eqs_nil
theorem pbit_run0 (s p : UInt8) : (bits BinOp.and IntKind.u8 ((s.toNat : Int) / 2 ^ min p.toNat 8) 1 == 0) = !pbit s p := by
  have h := pbit_run s p
  have hs : s.toNat < 256 := s.toNat_lt
  have e : ((s.toNat : Int) / 2 ^ min p.toNat 8) = ((s.toNat / 2 ^ min p.toNat 8 : Nat) : Int) := by simp
  have hlt : s.toNat / 2 ^ min p.toNat 8 < 256 := Nat.lt_of_le_of_lt (Nat.div_le_self _ _) hs
  rw [← h, e]
  have := u8_and_nat (s.toNat / 2 ^ min p.toNat 8) 1 hlt (by decide)
  rw [show ((1 : Nat) : Int) = 1 from rfl] at this
  rw [this, nat_mask1]
  rcases Nat.mod_two_eq_zero_or_one (s.toNat / 2 ^ min p.toNat 8) with h0 | h0 <;> rw [h0] <;> rfl
/-- the acts and the place that is asked for -/
structure LeS (W : World) (A : Option Addr) (l : List Ac) (gk : Nat) (k : Pl) (w : World) : Prop where
  el : Els 10 encA w A l
  kb : Blk w gk 57 #[.int .u16 k.v.toNat, .int .u8 k.m.a.toNat, .int .u8 k.m.b.toNat, .int .u8 k.m.c.toNat, .int .u8 k.m.d.toNat, .int .u8 k.m.e.toNat, .int .u8 k.m.f.toNat]
  bl : Below W.heap.size W w
/-- .. and the act that is looked at -/
structure LeA (W : World) (A : Option Addr) (l : List Ac) (gk : Nat) (k : Pl) (ga gb : Nat) (a : Ac) (w : World) : Prop where
  st : LeS W A l gk k w
  ac : Blk w ga 34 ([.int .u8 a.d.toNat, .int .u16 a.k.v.toNat, .int .u8 a.k.m.a.toNat, .int .u8 a.k.m.b.toNat, .int .u8 a.k.m.c.toNat, .int .u8 a.k.m.d.toNat, .int .u8 a.k.m.e.toNat, .int .u8 a.k.m.f.toNat, .int .u8 a.p.toNat, .int .u8 a.s.toNat] : List Value).toArray
  ka : Blk w gb 57 #[.int .u16 a.k.v.toNat, .int .u8 a.k.m.a.toNat, .int .u8 a.k.m.b.toNat, .int .u8 a.k.m.c.toNat, .int .u8 a.k.m.d.toNat, .int .u8 a.k.m.e.toNat, .int .u8 a.k.m.f.toNat]
section
variable {W w w' : World} {A : Option Addr} {l : List Ac} {gk ga gb : Nat} {k : Pl} {a : Ac}
theorem LeS.calm (h : LeS W A l gk k w) (hb : Below w.heap.size w w') : LeS W A l gk k w' := ⟨h.el.next hb, h.kb.below hb h.kb.lt, h.bl.trans (hb.mono h.bl.size)⟩
theorem LeA.calm (h : LeA W A l gk k ga gb a w) (hb : Below w.heap.size w w') : LeA W A l gk k ga gb a w' := ⟨h.st.calm hb, h.ac.below hb h.ac.lt, h.ka.below hb h.ka.lt⟩
theorem LeA.el (h : LeA W A l gk k ga gb a w) : Els 10 encA w A l := h.st.el
theorem LeA.kb (h : LeA W A l gk k ga gb a w) : Blk w gk 57 #[.int .u16 k.v.toNat, .int .u8 k.m.a.toNat, .int .u8 k.m.b.toNat, .int .u8 k.m.c.toNat, .int .u8 k.m.d.toNat, .int .u8 k.m.e.toNat, .int .u8 k.m.f.toNat] := h.st.kb
theorem LeA.bl (h : LeA W A l gk k ga gb a w) : Below W.heap.size W w := h.st.bl
theorem LeA.acells (h : LeA W A l gk k ga gb a w) : w.cell? ⟨ga, 0, none⟩ = some (.int .u8 a.d.toNat) ∧ w.cell? ⟨ga, 1, none⟩ = some (.int .u16 a.k.v.toNat) ∧ w.cell? ⟨ga, 2, none⟩ = some (.int .u8 a.k.m.a.toNat) ∧ w.cell? ⟨ga, 3, none⟩ = some (.int .u8 a.k.m.b.toNat) ∧ w.cell? ⟨ga, 4, none⟩ = some (.int .u8 a.k.m.c.toNat) ∧ w.cell? ⟨ga, 5, none⟩ = some (.int .u8 a.k.m.d.toNat) ∧ w.cell? ⟨ga, 6, none⟩ = some (.int .u8 a.k.m.e.toNat) ∧ w.cell? ⟨ga, 7, none⟩ = some (.int .u8 a.k.m.f.toNat) ∧ w.cell? ⟨ga, 8, none⟩ = some (.int .u8 a.p.toNat) ∧ w.cell? ⟨ga, 9, none⟩ = some (.int .u8 a.s.toNat) :=
  ⟨h.ac.cell 0, h.ac.cell 1, h.ac.cell 2, h.ac.cell 3, h.ac.cell 4, h.ac.cell 5, h.ac.cell 6, h.ac.cell 7, h.ac.cell 8, h.ac.cell 9⟩
end
theorem lscan_at {l : List Ac} {k : Pl} {i t : Nat} {f : UInt8} {a : Ac} (ha : l[i]? = some a) : lscan l k (i + 1) t f = (if a.d = 0 then lscan l k i (t + 1) f else if a.d = 1 then lscan l k i t (f ||| a.s) else if a.d = 2 ∧ a.k = k ∧ shas (runA (l.take (i + 1))).2 k = true then (0, false)
      else if mayB a = true ∧ shas (runA (l.take i)).2 a.k = false ∧ a.k = k then (a.p, decide (t < 40) && !pbit f a.p && !pushedB (l.drop (i + 1)) (l.take (i + 1))) else lscan l k i t f) := by
  rw [lscan, ha]
set_option maxHeartbeats 16000000 in
theorem learnt_any (w : World) (A : Option Addr) (c : Nat) (l : List Ac) (hE : Els 10 encA w A l) (hl : l.length ≤ 300) (hc : l.length ≤ c) (hna : 0 < l.length → ∀ a, A = some a → a.block < w.heap.size) (k : Pl) :
    Calls Try.prog 23 #[.slice A l.length c, kV k] w fun e w' => e = .returned (.tuple #[.int .u8 (lscan l k l.length 0 0).1.toNat, .bool (lscan l k l.length 0 0).2]) ∧ Below w.heap.size w w' := by
  obtain ⟨R, hR⟩ : ∃ R, lscan l k l.length 0 0 = R := ⟨_, rfl⟩
  rw [hR]
  obtain ⟨n, hn⟩ : ∃ n, l.length = n := ⟨_, rfl⟩
  have HN := Lib.hid hn
  have HNA := Lib.hid hna
  rw [hn] at hl hc hR ⊢
  have HR0 := Lib.hid hR
  obtain ⟨V, hV⟩ : ∃ V, Ending.returned (.tuple #[.int .u8 R.1.toNat, .bool R.2]) = V := ⟨_, rfl⟩
  have HR : Hid (Ending.returned (.tuple #[.int .u8 R.1.toNat, .bool R.2]) = V) := Lib.hid hV
  rw [hV]
  obtain ⟨w1, hw1⟩ : ∃ w1, w.alloc (.cells #[.int .u16 k.v.toNat, .int .u8 k.m.a.toNat, .int .u8 k.m.b.toNat, .int .u8 k.m.c.toNat, .int .u8 k.m.d.toNat, .int .u8 k.m.e.toNat, .int .u8 k.m.f.toNat] 57) = w1 := ⟨_, rfl⟩
  obtain ⟨gk, hgk⟩ : ∃ g, w.heap.size = g := ⟨_, rfl⟩
  have hG1 : Gro w w1 := by rw [← hw1]; exact (Gro.refl w).alloc _
  have HS0 : Hid (LeS w A l gk k w1) := Lib.hid ⟨hE.gro hG1, by rw [← hw1, ← hgk]; exact Blk.new w _ _, hG1.below⟩
  clear hn hE hna hR hG1 hV
  go_enter Try.func23, Try.ntmps23
  go_upto_region 1 with fail
  clear hw1 hgk
  go_wp2_with fail
  go_loopw [6, 7, 8] (fun tk fl i wr => ∃ (j t : Nat) (f : UInt8), j ≤ n ∧ t + j ≤ n ∧ i = .int .i64 ((j : Int) - 1) ∧ tk = .int .i64 t ∧ fl = .int .u8 f.toNat ∧ Hid (lscan l k j t f = R) ∧ Hid (LeS w A l gk k wr)) (fun _ _ i _ => (intOf i + 1).toNat)
  case atStart => exact ⟨n, 0, 0, Nat.le_refl _, by omega, by go_num, rfl, rfl, HR0, HS0⟩
  case round =>
    clear HS0 HR0
    obtain ⟨j, t, f, hj, htj, rfl, rfl, rfl, HSC, HK⟩ := hrel
    cases j with
    | zero =>
      have HX : Hid (R = (0, false)) := Lib.hid HSC.out.symm
      have hm : ¬ (0 : Int) ≤ ((0 : Nat) : Int) - 1 := by omega
      go_wp2_with fail
      refine bodyPost_ret (v := .tuple #[.int .u8 0, .bool false]) ?_ rfl ⟨?_, HK.out.bl⟩
      · simp [results, Try.results23, go_sem]
      · rw [← HR.out, HX.out]; rfl
    | succ q =>
      have hi : ((q + 1 : Nat) : Int) - 1 = (q : Int) := by omega
      rw [hi]
      clear hi
      obtain ⟨a, ha⟩ : ∃ a, l[q]? = some a := ⟨_, List.getElem?_eq_getElem (by rw [HN.out]; omega)⟩
      obtain ⟨ba, off, rfl, hcl⟩ := els_act HK.out.el ha
      have HLD := Lib.hid hcl
      have HX0 := Lib.hid (lscan_at (k := k) (t := t) (f := f) ha)
      have hq0 : (0 : Int) ≤ (q : Int) := by omega
      have hqn : (q : Int) < n := by omega
      obtain ⟨ga, hga⟩ : ∃ g, wr.heap.size = g := ⟨_, rfl⟩
      obtain ⟨w2, hw2⟩ : ∃ w2, wr.alloc (.cells ([.int .u8 a.d.toNat, .int .u16 a.k.v.toNat, .int .u8 a.k.m.a.toNat, .int .u8 a.k.m.b.toNat, .int .u8 a.k.m.c.toNat, .int .u8 a.k.m.d.toNat, .int .u8 a.k.m.e.toNat, .int .u8 a.k.m.f.toNat, .int .u8 a.p.toNat, .int .u8 a.s.toNat] : List Value).toArray 34) = w2 := ⟨_, rfl⟩
      obtain ⟨gb, hgb⟩ : ∃ g, w2.heap.size = g := ⟨_, rfl⟩
      obtain ⟨w3, hw3⟩ : ∃ w3, w2.alloc (.cells #[.int .u16 a.k.v.toNat, .int .u8 a.k.m.a.toNat, .int .u8 a.k.m.b.toNat, .int .u8 a.k.m.c.toNat, .int .u8 a.k.m.d.toNat, .int .u8 a.k.m.e.toNat, .int .u8 a.k.m.f.toNat] 57) = w3 := ⟨_, rfl⟩
      have hg2 : Gro wr w2 := by rw [← hw2]; exact (Gro.refl _).alloc _
      have hg3 : Gro w2 w3 := by rw [← hw3]; exact (Gro.refl _).alloc _
      have hB2 : Blk w2 ga 34 ([.int .u8 a.d.toNat, .int .u16 a.k.v.toNat, .int .u8 a.k.m.a.toNat, .int .u8 a.k.m.b.toNat, .int .u8 a.k.m.c.toNat, .int .u8 a.k.m.d.toNat, .int .u8 a.k.m.e.toNat, .int .u8 a.k.m.f.toNat, .int .u8 a.p.toNat, .int .u8 a.s.toNat] : List Value).toArray := by rw [← hw2, ← hga]; exact Blk.new wr _ _
      have HA : Hid (LeA w (some ⟨ba, off, none⟩) l gk k ga gb a w3) := Lib.hid ⟨HK.out.calm (hg2.trans hg3).below, hg3.blk hB2, by rw [← hw3, ← hgb]; exact Blk.new w2 _ _⟩
      have HB2 := Lib.hid hB2
      clear ha hcl hg2 hg3 hB2
      go_upto_region 7 with (refine wpList_load_at 34 20 rfl (by kernel_rfl) ba (off + q * 10) [.int .u8 a.d.toNat, .int .u16 a.k.v.toNat, .int .u8 a.k.m.a.toNat, .int .u8 a.k.m.b.toNat, .int .u8 a.k.m.c.toNat, .int .u8 a.k.m.d.toNat, .int .u8 a.k.m.e.toNat, .int .u8 a.k.m.f.toNat, .int .u8 a.p.toNat, .int .u8 a.s.toNat] rfl HLD.out isAggA sizeA ?_)
      clear hw2 hga HLD HK
      obtain ⟨a0, a1, a2, a3, a4, a5, a6, a7, a8, a9⟩ := accells HB2.out
      go_upto_region 8 with fail
      clear hw3 hgb a0 a1 a2 a3 a4 a5 a6 a7 a8 a9 HB2
      obtain ⟨y, hy⟩ : ∃ y, a.d.toNat = y := ⟨_, rfl⟩
      have HY := Lib.hid hy
      obtain ⟨a0, a1, a2, a3, a4, a5, a6, a7, a8, a9⟩ := HA.out.acells
      rw [hy] at a0
      clear hy
      by_cases h0 : y = 0
      · have HX : Hid (lscan l k (q + 1) t f = lscan l k q (t + 1) f) := Lib.hid (by rw [HX0.out, if_pos (d_is HY.out (by rw [h0]; rfl))])
        subst h0
        have htI : (t : Int) + 1 < 1000 := by omega
        all_goals (
          go_wp2_with fail
          go_roundw
          case rel => exact ⟨q, t + 1, f, by omega, by omega, by go_num, by go_num, rfl, Lib.hid (by rw [← HX.out]; exact HSC.out), Lib.hid HA.out.st⟩
          case measure => (simp [intOf]; try omega))
      have n0 := d_not (a := a) (y := 0) (by rw [HY.out]; exact h0) rfl
      by_cases h1 : y = 1
      · have HX : Hid (lscan l k (q + 1) t f = lscan l k q t (f ||| a.s)) := Lib.hid (by rw [HX0.out, if_neg n0, if_pos (d_is HY.out (by rw [h1]; rfl))])
        subst h1
        have hor : bits BinOp.or IntKind.u8 (f.toNat : Int) (a.s.toNat : Int) = ((f ||| a.s).toNat : Int) := by rw [u8_or_nat _ _ f.toNat_lt a.s.toNat_lt, UInt8.toNat_or]
        all_goals (
          go_wp2_with fail
          go_roundw
          case rel => exact ⟨q, t, f ||| a.s, by omega, by omega, by go_num, by go_num, rfl, Lib.hid (by rw [← HX.out]; exact HSC.out), Lib.hid HA.out.st⟩
          case measure => (simp [intOf]; try omega))
      have n1 := d_not (a := a) (y := 1) (by rw [HY.out]; exact h1) rfl
      have HX1 : Hid (lscan l k (q + 1) t f = (if a.d = 2 ∧ a.k = k ∧ shas (runA (l.take (q + 1))).2 k = true then (0, false) else if mayB a = true ∧ shas (runA (l.take q)).2 a.k = false ∧ a.k = k then (a.p, decide (t < 40) && !pbit f a.p && !pushedB (l.drop (q + 1)) (l.take (q + 1))) else lscan l k q t f)) := Lib.hid (by rw [HX0.out, if_neg n0, if_neg n1])
      have b0 : ((y : Int) == 0) = false := beq_eq_false_iff_ne.2 (by omega)
      have b1 : ((y : Int) == 1) = false := beq_eq_false_iff_ne.2 (by omega)
      have hiw : IntKind.i64.wrap ((q : Int) + 1) = (q : Int) + 1 := IntWalk.i64_in _ (by omega)
      have hqc : q + 1 ≤ c := by omega
      have hqc0 : q ≤ c := by omega
      have hI1 : (0 : Int) ≤ (q : Int) + 1 := by omega
      have hI2 : (q : Int) + 1 ≤ (n : Int) := by omega
      have hI3 : (q : Int) + 1 ≤ (c : Int) := by omega
      have hI4 : (q : Int) ≤ (c : Int) := by omega
      clear h0 h1 n0 n1 HX0
      go_upto_region 12 with fail
      clear b0 b1 a0 a1 a2 a3 a4 a5 a6 a7 a8 a9
      obtain ⟨wx, rfl⟩ : ∃ wx, wx = w3 := ⟨_, rfl⟩
      by_cases h2 : y = 2
      · have hd2 := d_is (a := a) (y := 2) HY.out (by rw [h2]; rfl)
        have HMA : Hid (mayB a = false) := Lib.hid (by
          cases h : mayB a with
          | false => rfl
          | true => exact absurd hd2 (may_d h).2.2.1)
        subst h2
        by_cases hk : a.k = k
        · cases hfx : shas (runA (l.take (q + 1))).2 k with
          | true =>
            have HX : Hid (lscan l k (q + 1) t f = (0, false)) := Lib.hid (by rw [HX1.out, if_pos ⟨hd2, hk, hfx⟩])
            have qK := fun w => run_eqK a.k k w
            rw [decide_eq_true hk] at qK
            clear hd2 hk
            have kF : ∀ n os, Calls Try.prog 37 #[.slice (some ⟨ba, off, none⟩) (q + 1) c, kV k] (grow (wx.drewN n) os) fun e w' => e = .returned (.bool true) ∧ ∃ q os', w' = grow ((grow (wx.drewN n) os).drewN q) os' := fun n os => by
              have hlen : (l.take (q + 1)).length = (q + 1) := by rw [List.length_take, HN.out]; omega
              have := fixed_any (grow (wx.drewN n) os) (some ⟨ba, off, none⟩) c (l.take (q + 1)) (els_take ((HA.out.calm (Gro.of_grow n os).below).el) _) (by rw [hlen]; omega) (fun h0 a' e' => by cases e'; exact Nat.lt_of_lt_of_le (HNA.out (by rw [HN.out]; omega) _ rfl) (Nat.le_trans HA.out.bl.size (Gro.of_grow n os).below.size)) k
              rw [hlen, hfx] at this
              exact this.mono fun _ _ h => ⟨h.1, h.2.out⟩
            clear hfx
            have mixed : Try.prog.follows .mixedOrders = true := by kernel_rfl
            obtain ⟨a0, a1, a2, a3, a4, a5, a6, a7, a8, a9⟩ := HA.out.acells
            obtain ⟨p0, p1, p2, p3, p4, p5, p6⟩ := kcellsQ HA.out.kb
            obtain ⟨r0, r1, r2, r3, r4, r5, r6⟩ := kcellsQ HA.out.ka
            rw [HY.out] at a0
            have g0 := fun n os => cell_grA a0 n os
            have g1 := fun n os => cell_grA a1 n os
            have g2 := fun n os => cell_grA a2 n os
            have g3 := fun n os => cell_grA a3 n os
            have g4 := fun n os => cell_grA a4 n os
            have g5 := fun n os => cell_grA a5 n os
            have g6 := fun n os => cell_grA a6 n os
            have g7 := fun n os => cell_grA a7 n os
            have g8 := fun n os => cell_grA a8 n os
            have g9 := fun n os => cell_grA a9 n os
            have h0_ := fun n os => cell_grA p0 n os
            have h1_ := fun n os => cell_grA p1 n os
            have h2_ := fun n os => cell_grA p2 n os
            have h3_ := fun n os => cell_grA p3 n os
            have h4_ := fun n os => cell_grA p4 n os
            have h5_ := fun n os => cell_grA p5 n os
            have h6_ := fun n os => cell_grA p6 n os
            have i0_ := fun n os => cell_grA r0 n os
            have i1_ := fun n os => cell_grA r1 n os
            have i2_ := fun n os => cell_grA r2 n os
            have i3_ := fun n os => cell_grA r3 n os
            have i4_ := fun n os => cell_grA r4 n os
            have i5_ := fun n os => cell_grA r5 n os
            have i6_ := fun n os => cell_grA r6 n os
            clear a0 a1 a2 a3 a4 a5 a6 a7 a8 a9 p0 p1 p2 p3 p4 p5 p6 r0 r1 r2 r3 r4 r5 r6
            go_wp2_with fail
            refine wp_region_quiet_grown mixed (by kernel_rfl) ?_
            repeat (first | go_big_quiet_step (((go_at_call 37; exact Calls.grown_of (kF _ _)))) | quiet_step (((go_at_call 37; exact Calls.grown_of (kF _ _)))))
            refine wpQuiet_nil ?_
            intro _ hw'
            obtain ⟨⟨nq, osq⟩, hw''⟩ := hw'
            subst hw''
            have HGW := Lib.hid (Gro.of_grow (w := wx) nq osq)
            have HA2 := Lib.hid (HA.out.calm HGW.out.below)
            clear HA HGW
            clear g0 g1 g2 g3 g4 g5 g6 g7 g8 g9 h0_ i0_ h1_ i1_ h2_ i2_ h3_ i3_ h4_ i4_ h5_ i5_ h6_ i6_ mixed
            have HA := HA2
            clear HA2
            obtain ⟨wy, hwy⟩ : ∃ wy, grow (wx.drewN nq) osq = wy := ⟨_, rfl⟩
            rw [hwy] at HA
            try rw [hwy]
            clear hwy
            all_goals (
              go_wp2_with fail
              refine bodyPost_ret (v := .tuple #[.int .u8 0, .bool false]) ?_ rfl ⟨?_, HA.out.bl⟩
              · simp [results, Try.results23, go_sem]
              · rw [← HR.out, ← HSC.out, HX.out]; rfl)
          | false =>
            have HX : Hid (lscan l k (q + 1) t f = lscan l k q t f) := Lib.hid (by rw [HX1.out, if_neg (fun h => by rw [hfx] at h; exact absurd h.2.2 (by decide)), if_neg (fun h => by rw [HMA.out] at h; exact absurd h.1 (by decide))])
            have qK := fun w => run_eqK a.k k w
            rw [decide_eq_true hk] at qK
            clear hd2 hk
            have kF : ∀ n os, Calls Try.prog 37 #[.slice (some ⟨ba, off, none⟩) (q + 1) c, kV k] (grow (wx.drewN n) os) fun e w' => e = .returned (.bool false) ∧ ∃ q os', w' = grow ((grow (wx.drewN n) os).drewN q) os' := fun n os => by
              have hlen : (l.take (q + 1)).length = (q + 1) := by rw [List.length_take, HN.out]; omega
              have := fixed_any (grow (wx.drewN n) os) (some ⟨ba, off, none⟩) c (l.take (q + 1)) (els_take ((HA.out.calm (Gro.of_grow n os).below).el) _) (by rw [hlen]; omega) (fun h0 a' e' => by cases e'; exact Nat.lt_of_lt_of_le (HNA.out (by rw [HN.out]; omega) _ rfl) (Nat.le_trans HA.out.bl.size (Gro.of_grow n os).below.size)) k
              rw [hlen, hfx] at this
              exact this.mono fun _ _ h => ⟨h.1, h.2.out⟩
            clear hfx
            have mixed : Try.prog.follows .mixedOrders = true := by kernel_rfl
            obtain ⟨a0, a1, a2, a3, a4, a5, a6, a7, a8, a9⟩ := HA.out.acells
            obtain ⟨p0, p1, p2, p3, p4, p5, p6⟩ := kcellsQ HA.out.kb
            obtain ⟨r0, r1, r2, r3, r4, r5, r6⟩ := kcellsQ HA.out.ka
            rw [HY.out] at a0
            have g0 := fun n os => cell_grA a0 n os
            have g1 := fun n os => cell_grA a1 n os
            have g2 := fun n os => cell_grA a2 n os
            have g3 := fun n os => cell_grA a3 n os
            have g4 := fun n os => cell_grA a4 n os
            have g5 := fun n os => cell_grA a5 n os
            have g6 := fun n os => cell_grA a6 n os
            have g7 := fun n os => cell_grA a7 n os
            have g8 := fun n os => cell_grA a8 n os
            have g9 := fun n os => cell_grA a9 n os
            have h0_ := fun n os => cell_grA p0 n os
            have h1_ := fun n os => cell_grA p1 n os
            have h2_ := fun n os => cell_grA p2 n os
            have h3_ := fun n os => cell_grA p3 n os
            have h4_ := fun n os => cell_grA p4 n os
            have h5_ := fun n os => cell_grA p5 n os
            have h6_ := fun n os => cell_grA p6 n os
            have i0_ := fun n os => cell_grA r0 n os
            have i1_ := fun n os => cell_grA r1 n os
            have i2_ := fun n os => cell_grA r2 n os
            have i3_ := fun n os => cell_grA r3 n os
            have i4_ := fun n os => cell_grA r4 n os
            have i5_ := fun n os => cell_grA r5 n os
            have i6_ := fun n os => cell_grA r6 n os
            clear a0 a1 a2 a3 a4 a5 a6 a7 a8 a9 p0 p1 p2 p3 p4 p5 p6 r0 r1 r2 r3 r4 r5 r6
            go_wp2_with fail
            refine wp_region_quiet_grown mixed (by kernel_rfl) ?_
            repeat (first | go_big_quiet_step (((go_at_call 37; exact Calls.grown_of (kF _ _)))) | quiet_step (((go_at_call 37; exact Calls.grown_of (kF _ _)))))
            refine wpQuiet_nil ?_
            intro _ hw'
            obtain ⟨⟨nq, osq⟩, hw''⟩ := hw'
            subst hw''
            have HGW := Lib.hid (Gro.of_grow (w := wx) nq osq)
            have HA2 := Lib.hid (HA.out.calm HGW.out.below)
            clear HA HGW
            clear g0 g1 g2 g3 g4 g5 g6 g7 g8 g9 h0_ i0_ h1_ i1_ h2_ i2_ h3_ i3_ h4_ i4_ h5_ i5_ h6_ i6_ mixed
            have HA := HA2
            clear HA2
            obtain ⟨wy, hwy⟩ : ∃ wy, grow (wx.drewN nq) osq = wy := ⟨_, rfl⟩
            rw [hwy] at HA
            try rw [hwy]
            clear hwy
            clear qK kF
            obtain ⟨wx, rfl⟩ : ∃ wx, wx = wy := ⟨_, rfl⟩
            have mixed : Try.prog.follows .mixedOrders = true := by kernel_rfl
            obtain ⟨a0, a1, a2, a3, a4, a5, a6, a7, a8, a9⟩ := HA.out.acells
            obtain ⟨p0, p1, p2, p3, p4, p5, p6⟩ := kcellsQ HA.out.kb
            obtain ⟨r0, r1, r2, r3, r4, r5, r6⟩ := kcellsQ HA.out.ka
            have g0 := fun n os => cell_grA a0 n os
            have g1 := fun n os => cell_grA a1 n os
            have g2 := fun n os => cell_grA a2 n os
            have g3 := fun n os => cell_grA a3 n os
            have g4 := fun n os => cell_grA a4 n os
            have g5 := fun n os => cell_grA a5 n os
            have g6 := fun n os => cell_grA a6 n os
            have g7 := fun n os => cell_grA a7 n os
            have g8 := fun n os => cell_grA a8 n os
            have g9 := fun n os => cell_grA a9 n os
            have h0_ := fun n os => cell_grA p0 n os
            have h1_ := fun n os => cell_grA p1 n os
            have h2_ := fun n os => cell_grA p2 n os
            have h3_ := fun n os => cell_grA p3 n os
            have h4_ := fun n os => cell_grA p4 n os
            have h5_ := fun n os => cell_grA p5 n os
            have h6_ := fun n os => cell_grA p6 n os
            have i0_ := fun n os => cell_grA r0 n os
            have i1_ := fun n os => cell_grA r1 n os
            have i2_ := fun n os => cell_grA r2 n os
            have i3_ := fun n os => cell_grA r3 n os
            have i4_ := fun n os => cell_grA r4 n os
            have i5_ := fun n os => cell_grA r5 n os
            have i6_ := fun n os => cell_grA r6 n os
            clear a0 a1 a2 a3 a4 a5 a6 a7 a8 a9 p0 p1 p2 p3 p4 p5 p6 r0 r1 r2 r3 r4 r5 r6
            have kM : ∀ n os, Calls Try.prog 38 #[aV a] (grow (wx.drewN n) os) fun e w' => e = .returned (.bool false) ∧ ∃ q os', w' = grow ((grow (wx.drewN n) os).drewN q) os' := fun n os => by
              have := may_any (grow (wx.drewN n) os) a
              rw [HMA.out] at this
              exact this.mono fun _ _ h => ⟨h.1, h.2.out⟩
            go_wp2_with fail
            refine wp_region_quiet_grown mixed (by kernel_rfl) ?_
            repeat (first | go_big_quiet_step (((go_at_call 38; exact Calls.grown_of (kM _ _)))) | quiet_step (((go_at_call 38; exact Calls.grown_of (kM _ _)))))
            refine wpQuiet_nil ?_
            intro _ hw'
            obtain ⟨⟨nq, osq⟩, hw''⟩ := hw'
            subst hw''
            have HGW := Lib.hid (Gro.of_grow (w := wx) nq osq)
            have HA2 := Lib.hid (HA.out.calm HGW.out.below)
            clear HA HGW
            clear g0 g1 g2 g3 g4 g5 g6 g7 g8 g9 h0_ i0_ h1_ i1_ h2_ i2_ h3_ i3_ h4_ i4_ h5_ i5_ h6_ i6_ mixed
            have HA := HA2
            clear HA2
            obtain ⟨wy, hwy⟩ : ∃ wy, grow (wx.drewN nq) osq = wy := ⟨_, rfl⟩
            rw [hwy] at HA
            try rw [hwy]
            clear hwy
            all_goals (
              go_wp2_with fail
              go_roundw
              case rel => exact ⟨q, t, f, by omega, by omega, by go_num, by go_num, rfl, Lib.hid (by rw [← HX.out]; exact HSC.out), Lib.hid HA.out.st⟩
              case measure => (simp [intOf]; try omega))
        · have HX : Hid (lscan l k (q + 1) t f = lscan l k q t f) := Lib.hid (by rw [HX1.out, if_neg (fun h => hk h.2.1), if_neg (fun h => by rw [HMA.out] at h; exact absurd h.1 (by decide))])
          have qK := fun w => run_eqK a.k k w
          rw [decide_eq_false hk] at qK
          clear hd2 hk
          have mixed : Try.prog.follows .mixedOrders = true := by kernel_rfl
          obtain ⟨a0, a1, a2, a3, a4, a5, a6, a7, a8, a9⟩ := HA.out.acells
          obtain ⟨p0, p1, p2, p3, p4, p5, p6⟩ := kcellsQ HA.out.kb
          obtain ⟨r0, r1, r2, r3, r4, r5, r6⟩ := kcellsQ HA.out.ka
          rw [HY.out] at a0
          have g0 := fun n os => cell_grA a0 n os
          have g1 := fun n os => cell_grA a1 n os
          have g2 := fun n os => cell_grA a2 n os
          have g3 := fun n os => cell_grA a3 n os
          have g4 := fun n os => cell_grA a4 n os
          have g5 := fun n os => cell_grA a5 n os
          have g6 := fun n os => cell_grA a6 n os
          have g7 := fun n os => cell_grA a7 n os
          have g8 := fun n os => cell_grA a8 n os
          have g9 := fun n os => cell_grA a9 n os
          have h0_ := fun n os => cell_grA p0 n os
          have h1_ := fun n os => cell_grA p1 n os
          have h2_ := fun n os => cell_grA p2 n os
          have h3_ := fun n os => cell_grA p3 n os
          have h4_ := fun n os => cell_grA p4 n os
          have h5_ := fun n os => cell_grA p5 n os
          have h6_ := fun n os => cell_grA p6 n os
          have i0_ := fun n os => cell_grA r0 n os
          have i1_ := fun n os => cell_grA r1 n os
          have i2_ := fun n os => cell_grA r2 n os
          have i3_ := fun n os => cell_grA r3 n os
          have i4_ := fun n os => cell_grA r4 n os
          have i5_ := fun n os => cell_grA r5 n os
          have i6_ := fun n os => cell_grA r6 n os
          clear a0 a1 a2 a3 a4 a5 a6 a7 a8 a9 p0 p1 p2 p3 p4 p5 p6 r0 r1 r2 r3 r4 r5 r6
          go_wp2_with fail
          refine wp_region_quiet_grown mixed (by kernel_rfl) ?_
          repeat (first | go_big_quiet_step ((fail)) | quiet_step ((fail)))
          refine wpQuiet_nil ?_
          intro _ hw'
          obtain ⟨⟨nq, osq⟩, hw''⟩ := hw'
          subst hw''
          have HGW := Lib.hid (Gro.of_grow (w := wx) nq osq)
          have HA2 := Lib.hid (HA.out.calm HGW.out.below)
          clear HA HGW
          clear g0 g1 g2 g3 g4 g5 g6 g7 g8 g9 h0_ i0_ h1_ i1_ h2_ i2_ h3_ i3_ h4_ i4_ h5_ i5_ h6_ i6_ mixed
          have HA := HA2
          clear HA2
          obtain ⟨wy, hwy⟩ : ∃ wy, grow (wx.drewN nq) osq = wy := ⟨_, rfl⟩
          rw [hwy] at HA
          try rw [hwy]
          clear hwy
          clear qK
          obtain ⟨wx, rfl⟩ : ∃ wx, wx = wy := ⟨_, rfl⟩
          have mixed : Try.prog.follows .mixedOrders = true := by kernel_rfl
          obtain ⟨a0, a1, a2, a3, a4, a5, a6, a7, a8, a9⟩ := HA.out.acells
          obtain ⟨p0, p1, p2, p3, p4, p5, p6⟩ := kcellsQ HA.out.kb
          obtain ⟨r0, r1, r2, r3, r4, r5, r6⟩ := kcellsQ HA.out.ka
          have g0 := fun n os => cell_grA a0 n os
          have g1 := fun n os => cell_grA a1 n os
          have g2 := fun n os => cell_grA a2 n os
          have g3 := fun n os => cell_grA a3 n os
          have g4 := fun n os => cell_grA a4 n os
          have g5 := fun n os => cell_grA a5 n os
          have g6 := fun n os => cell_grA a6 n os
          have g7 := fun n os => cell_grA a7 n os
          have g8 := fun n os => cell_grA a8 n os
          have g9 := fun n os => cell_grA a9 n os
          have h0_ := fun n os => cell_grA p0 n os
          have h1_ := fun n os => cell_grA p1 n os
          have h2_ := fun n os => cell_grA p2 n os
          have h3_ := fun n os => cell_grA p3 n os
          have h4_ := fun n os => cell_grA p4 n os
          have h5_ := fun n os => cell_grA p5 n os
          have h6_ := fun n os => cell_grA p6 n os
          have i0_ := fun n os => cell_grA r0 n os
          have i1_ := fun n os => cell_grA r1 n os
          have i2_ := fun n os => cell_grA r2 n os
          have i3_ := fun n os => cell_grA r3 n os
          have i4_ := fun n os => cell_grA r4 n os
          have i5_ := fun n os => cell_grA r5 n os
          have i6_ := fun n os => cell_grA r6 n os
          clear a0 a1 a2 a3 a4 a5 a6 a7 a8 a9 p0 p1 p2 p3 p4 p5 p6 r0 r1 r2 r3 r4 r5 r6
          have kM : ∀ n os, Calls Try.prog 38 #[aV a] (grow (wx.drewN n) os) fun e w' => e = .returned (.bool false) ∧ ∃ q os', w' = grow ((grow (wx.drewN n) os).drewN q) os' := fun n os => by
            have := may_any (grow (wx.drewN n) os) a
            rw [HMA.out] at this
            exact this.mono fun _ _ h => ⟨h.1, h.2.out⟩
          go_wp2_with fail
          refine wp_region_quiet_grown mixed (by kernel_rfl) ?_
          repeat (first | go_big_quiet_step (((go_at_call 38; exact Calls.grown_of (kM _ _)))) | quiet_step (((go_at_call 38; exact Calls.grown_of (kM _ _)))))
          refine wpQuiet_nil ?_
          intro _ hw'
          obtain ⟨⟨nq, osq⟩, hw''⟩ := hw'
          subst hw''
          have HGW := Lib.hid (Gro.of_grow (w := wx) nq osq)
          have HA2 := Lib.hid (HA.out.calm HGW.out.below)
          clear HA HGW
          clear g0 g1 g2 g3 g4 g5 g6 g7 g8 g9 h0_ i0_ h1_ i1_ h2_ i2_ h3_ i3_ h4_ i4_ h5_ i5_ h6_ i6_ mixed
          have HA := HA2
          clear HA2
          obtain ⟨wy, hwy⟩ : ∃ wy, grow (wx.drewN nq) osq = wy := ⟨_, rfl⟩
          rw [hwy] at HA
          try rw [hwy]
          clear hwy
          all_goals (
            go_wp2_with fail
            go_roundw
            case rel => exact ⟨q, t, f, by omega, by omega, by go_num, by go_num, rfl, Lib.hid (by rw [← HX.out]; exact HSC.out), Lib.hid HA.out.st⟩
            case measure => (simp [intOf]; try omega))
      have b2 : ((y : Int) == 2) = false := beq_eq_false_iff_ne.2 (by omega)
      have n2 := d_not (a := a) (y := 2) (by rw [HY.out]; exact h2) rfl
      have HX2 : Hid (lscan l k (q + 1) t f = (if mayB a = true ∧ shas (runA (l.take q)).2 a.k = false ∧ a.k = k then (a.p, decide (t < 40) && !pbit f a.p && !pushedB (l.drop (q + 1)) (l.take (q + 1))) else lscan l k q t f)) := Lib.hid (by rw [HX1.out, if_neg (fun h => n2 h.1)])
      clear h2 n2
      have mixed : Try.prog.follows .mixedOrders = true := by kernel_rfl
      obtain ⟨a0, a1, a2, a3, a4, a5, a6, a7, a8, a9⟩ := HA.out.acells
      obtain ⟨p0, p1, p2, p3, p4, p5, p6⟩ := kcellsQ HA.out.kb
      obtain ⟨r0, r1, r2, r3, r4, r5, r6⟩ := kcellsQ HA.out.ka
      rw [HY.out] at a0
      have g0 := fun n os => cell_grA a0 n os
      have g1 := fun n os => cell_grA a1 n os
      have g2 := fun n os => cell_grA a2 n os
      have g3 := fun n os => cell_grA a3 n os
      have g4 := fun n os => cell_grA a4 n os
      have g5 := fun n os => cell_grA a5 n os
      have g6 := fun n os => cell_grA a6 n os
      have g7 := fun n os => cell_grA a7 n os
      have g8 := fun n os => cell_grA a8 n os
      have g9 := fun n os => cell_grA a9 n os
      have h0_ := fun n os => cell_grA p0 n os
      have h1_ := fun n os => cell_grA p1 n os
      have h2_ := fun n os => cell_grA p2 n os
      have h3_ := fun n os => cell_grA p3 n os
      have h4_ := fun n os => cell_grA p4 n os
      have h5_ := fun n os => cell_grA p5 n os
      have h6_ := fun n os => cell_grA p6 n os
      have i0_ := fun n os => cell_grA r0 n os
      have i1_ := fun n os => cell_grA r1 n os
      have i2_ := fun n os => cell_grA r2 n os
      have i3_ := fun n os => cell_grA r3 n os
      have i4_ := fun n os => cell_grA r4 n os
      have i5_ := fun n os => cell_grA r5 n os
      have i6_ := fun n os => cell_grA r6 n os
      clear a0 a1 a2 a3 a4 a5 a6 a7 a8 a9 p0 p1 p2 p3 p4 p5 p6 r0 r1 r2 r3 r4 r5 r6
      go_wp2_with fail
      refine wp_region_quiet_grown mixed (by kernel_rfl) ?_
      repeat (first | go_big_quiet_step ((fail)) | quiet_step ((fail)))
      refine wpQuiet_nil ?_
      intro _ hw'
      obtain ⟨⟨nq, osq⟩, hw''⟩ := hw'
      subst hw''
      have HGW := Lib.hid (Gro.of_grow (w := wx) nq osq)
      have HA2 := Lib.hid (HA.out.calm HGW.out.below)
      clear HA HGW
      clear g0 g1 g2 g3 g4 g5 g6 g7 g8 g9 h0_ i0_ h1_ i1_ h2_ i2_ h3_ i3_ h4_ i4_ h5_ i5_ h6_ i6_ mixed
      have HA := HA2
      clear HA2
      obtain ⟨wy, hwy⟩ : ∃ wy, grow (wx.drewN nq) osq = wy := ⟨_, rfl⟩
      rw [hwy] at HA
      try rw [hwy]
      clear hwy
      clear b2
      obtain ⟨wx, rfl⟩ : ∃ wx, wx = wy := ⟨_, rfl⟩
      cases hma : mayB a with
      | false =>
        have HMA := Lib.hid hma
        have HX : Hid (lscan l k (q + 1) t f = lscan l k q t f) := Lib.hid (by rw [HX2.out, if_neg (fun h => by rw [hma] at h; exact absurd h.1 (by decide))])
        clear hma
        have mixed : Try.prog.follows .mixedOrders = true := by kernel_rfl
        obtain ⟨a0, a1, a2, a3, a4, a5, a6, a7, a8, a9⟩ := HA.out.acells
        obtain ⟨p0, p1, p2, p3, p4, p5, p6⟩ := kcellsQ HA.out.kb
        obtain ⟨r0, r1, r2, r3, r4, r5, r6⟩ := kcellsQ HA.out.ka
        have g0 := fun n os => cell_grA a0 n os
        have g1 := fun n os => cell_grA a1 n os
        have g2 := fun n os => cell_grA a2 n os
        have g3 := fun n os => cell_grA a3 n os
        have g4 := fun n os => cell_grA a4 n os
        have g5 := fun n os => cell_grA a5 n os
        have g6 := fun n os => cell_grA a6 n os
        have g7 := fun n os => cell_grA a7 n os
        have g8 := fun n os => cell_grA a8 n os
        have g9 := fun n os => cell_grA a9 n os
        have h0_ := fun n os => cell_grA p0 n os
        have h1_ := fun n os => cell_grA p1 n os
        have h2_ := fun n os => cell_grA p2 n os
        have h3_ := fun n os => cell_grA p3 n os
        have h4_ := fun n os => cell_grA p4 n os
        have h5_ := fun n os => cell_grA p5 n os
        have h6_ := fun n os => cell_grA p6 n os
        have i0_ := fun n os => cell_grA r0 n os
        have i1_ := fun n os => cell_grA r1 n os
        have i2_ := fun n os => cell_grA r2 n os
        have i3_ := fun n os => cell_grA r3 n os
        have i4_ := fun n os => cell_grA r4 n os
        have i5_ := fun n os => cell_grA r5 n os
        have i6_ := fun n os => cell_grA r6 n os
        clear a0 a1 a2 a3 a4 a5 a6 a7 a8 a9 p0 p1 p2 p3 p4 p5 p6 r0 r1 r2 r3 r4 r5 r6
        have kM : ∀ n os, Calls Try.prog 38 #[aV a] (grow (wx.drewN n) os) fun e w' => e = .returned (.bool false) ∧ ∃ q os', w' = grow ((grow (wx.drewN n) os).drewN q) os' := fun n os => by
          have := may_any (grow (wx.drewN n) os) a
          rw [HMA.out] at this
          exact this.mono fun _ _ h => ⟨h.1, h.2.out⟩
        go_wp2_with fail
        refine wp_region_quiet_grown mixed (by kernel_rfl) ?_
        repeat (first | go_big_quiet_step (((go_at_call 38; exact Calls.grown_of (kM _ _)))) | quiet_step (((go_at_call 38; exact Calls.grown_of (kM _ _)))))
        refine wpQuiet_nil ?_
        intro _ hw'
        obtain ⟨⟨nq, osq⟩, hw''⟩ := hw'
        subst hw''
        have HGW := Lib.hid (Gro.of_grow (w := wx) nq osq)
        have HA2 := Lib.hid (HA.out.calm HGW.out.below)
        clear HA HGW
        clear g0 g1 g2 g3 g4 g5 g6 g7 g8 g9 h0_ i0_ h1_ i1_ h2_ i2_ h3_ i3_ h4_ i4_ h5_ i5_ h6_ i6_ mixed
        have HA := HA2
        clear HA2
        obtain ⟨wy, hwy⟩ : ∃ wy, grow (wx.drewN nq) osq = wy := ⟨_, rfl⟩
        rw [hwy] at HA
        try rw [hwy]
        clear hwy
        all_goals (
          go_wp2_with fail
          go_roundw
          case rel => exact ⟨q, t, f, by omega, by omega, by go_num, by go_num, rfl, Lib.hid (by rw [← HX.out]; exact HSC.out), Lib.hid HA.out.st⟩
          case measure => (simp [intOf]; try omega))
      | true =>
        have HMA := Lib.hid hma
        cases hfx : shas (runA (l.take q)).2 a.k with
        | true =>
          have HX : Hid (lscan l k (q + 1) t f = lscan l k q t f) := Lib.hid (by rw [HX2.out, if_neg (fun h => by rw [hfx] at h; exact absurd h.2.1 (by decide))])
          have kM : ∀ n os, Calls Try.prog 38 #[aV a] (grow (wx.drewN n) os) fun e w' => e = .returned (.bool true) ∧ ∃ q os', w' = grow ((grow (wx.drewN n) os).drewN q) os' := fun n os => by
            have := may_any (grow (wx.drewN n) os) a
            rw [HMA.out] at this
            exact this.mono fun _ _ h => ⟨h.1, h.2.out⟩
          have kF : ∀ n os, Calls Try.prog 37 #[.slice (some ⟨ba, off, none⟩) (q) c, kV a.k] (grow (wx.drewN n) os) fun e w' => e = .returned (.bool true) ∧ ∃ q os', w' = grow ((grow (wx.drewN n) os).drewN q) os' := fun n os => by
            have hlen : (l.take (q)).length = (q) := by rw [List.length_take, HN.out]; omega
            have := fixed_any (grow (wx.drewN n) os) (some ⟨ba, off, none⟩) c (l.take (q)) (els_take ((HA.out.calm (Gro.of_grow n os).below).el) _) (by rw [hlen]; omega) (fun h0 a' e' => by cases e'; exact Nat.lt_of_lt_of_le (HNA.out (by rw [HN.out]; omega) _ rfl) (Nat.le_trans HA.out.bl.size (Gro.of_grow n os).below.size)) a.k
            rw [hlen, hfx] at this
            exact this.mono fun _ _ h => ⟨h.1, h.2.out⟩
          clear hfx hma
          have mixed : Try.prog.follows .mixedOrders = true := by kernel_rfl
          obtain ⟨a0, a1, a2, a3, a4, a5, a6, a7, a8, a9⟩ := HA.out.acells
          obtain ⟨p0, p1, p2, p3, p4, p5, p6⟩ := kcellsQ HA.out.kb
          obtain ⟨r0, r1, r2, r3, r4, r5, r6⟩ := kcellsQ HA.out.ka
          have g0 := fun n os => cell_grA a0 n os
          have g1 := fun n os => cell_grA a1 n os
          have g2 := fun n os => cell_grA a2 n os
          have g3 := fun n os => cell_grA a3 n os
          have g4 := fun n os => cell_grA a4 n os
          have g5 := fun n os => cell_grA a5 n os
          have g6 := fun n os => cell_grA a6 n os
          have g7 := fun n os => cell_grA a7 n os
          have g8 := fun n os => cell_grA a8 n os
          have g9 := fun n os => cell_grA a9 n os
          have h0_ := fun n os => cell_grA p0 n os
          have h1_ := fun n os => cell_grA p1 n os
          have h2_ := fun n os => cell_grA p2 n os
          have h3_ := fun n os => cell_grA p3 n os
          have h4_ := fun n os => cell_grA p4 n os
          have h5_ := fun n os => cell_grA p5 n os
          have h6_ := fun n os => cell_grA p6 n os
          have i0_ := fun n os => cell_grA r0 n os
          have i1_ := fun n os => cell_grA r1 n os
          have i2_ := fun n os => cell_grA r2 n os
          have i3_ := fun n os => cell_grA r3 n os
          have i4_ := fun n os => cell_grA r4 n os
          have i5_ := fun n os => cell_grA r5 n os
          have i6_ := fun n os => cell_grA r6 n os
          clear a0 a1 a2 a3 a4 a5 a6 a7 a8 a9 p0 p1 p2 p3 p4 p5 p6 r0 r1 r2 r3 r4 r5 r6
          go_wp2_with fail
          refine wp_region_quiet_grown mixed (by kernel_rfl) ?_
          repeat (first | go_big_quiet_step ((first | (go_at_call 38; exact Calls.grown_of (kM _ _)) | (go_at_call 37; exact Calls.grown_of (kF _ _)))) | quiet_step ((first | (go_at_call 38; exact Calls.grown_of (kM _ _)) | (go_at_call 37; exact Calls.grown_of (kF _ _)))))
          refine wpQuiet_nil ?_
          intro _ hw'
          obtain ⟨⟨nq, osq⟩, hw''⟩ := hw'
          subst hw''
          have HGW := Lib.hid (Gro.of_grow (w := wx) nq osq)
          have HA2 := Lib.hid (HA.out.calm HGW.out.below)
          clear HA HGW
          clear g0 g1 g2 g3 g4 g5 g6 g7 g8 g9 h0_ i0_ h1_ i1_ h2_ i2_ h3_ i3_ h4_ i4_ h5_ i5_ h6_ i6_ mixed
          have HA := HA2
          clear HA2
          obtain ⟨wy, hwy⟩ : ∃ wy, grow (wx.drewN nq) osq = wy := ⟨_, rfl⟩
          rw [hwy] at HA
          try rw [hwy]
          clear hwy
          all_goals (
            go_wp2_with fail
            go_roundw
            case rel => exact ⟨q, t, f, by omega, by omega, by go_num, by go_num, rfl, Lib.hid (by rw [← HX.out]; exact HSC.out), Lib.hid HA.out.st⟩
            case measure => (simp [intOf]; try omega))
        | false =>
          have HFX := Lib.hid hfx
          have kM : ∀ n os, Calls Try.prog 38 #[aV a] (grow (wx.drewN n) os) fun e w' => e = .returned (.bool true) ∧ ∃ q os', w' = grow ((grow (wx.drewN n) os).drewN q) os' := fun n os => by
            have := may_any (grow (wx.drewN n) os) a
            rw [HMA.out] at this
            exact this.mono fun _ _ h => ⟨h.1, h.2.out⟩
          have kF : ∀ n os, Calls Try.prog 37 #[.slice (some ⟨ba, off, none⟩) (q) c, kV a.k] (grow (wx.drewN n) os) fun e w' => e = .returned (.bool false) ∧ ∃ q os', w' = grow ((grow (wx.drewN n) os).drewN q) os' := fun n os => by
            have hlen : (l.take (q)).length = (q) := by rw [List.length_take, HN.out]; omega
            have := fixed_any (grow (wx.drewN n) os) (some ⟨ba, off, none⟩) c (l.take (q)) (els_take ((HA.out.calm (Gro.of_grow n os).below).el) _) (by rw [hlen]; omega) (fun h0 a' e' => by cases e'; exact Nat.lt_of_lt_of_le (HNA.out (by rw [HN.out]; omega) _ rfl) (Nat.le_trans HA.out.bl.size (Gro.of_grow n os).below.size)) a.k
            rw [hlen, hfx] at this
            exact this.mono fun _ _ h => ⟨h.1, h.2.out⟩
          clear hfx hma
          have mixed : Try.prog.follows .mixedOrders = true := by kernel_rfl
          obtain ⟨a0, a1, a2, a3, a4, a5, a6, a7, a8, a9⟩ := HA.out.acells
          obtain ⟨p0, p1, p2, p3, p4, p5, p6⟩ := kcellsQ HA.out.kb
          obtain ⟨r0, r1, r2, r3, r4, r5, r6⟩ := kcellsQ HA.out.ka
          have g0 := fun n os => cell_grA a0 n os
          have g1 := fun n os => cell_grA a1 n os
          have g2 := fun n os => cell_grA a2 n os
          have g3 := fun n os => cell_grA a3 n os
          have g4 := fun n os => cell_grA a4 n os
          have g5 := fun n os => cell_grA a5 n os
          have g6 := fun n os => cell_grA a6 n os
          have g7 := fun n os => cell_grA a7 n os
          have g8 := fun n os => cell_grA a8 n os
          have g9 := fun n os => cell_grA a9 n os
          have h0_ := fun n os => cell_grA p0 n os
          have h1_ := fun n os => cell_grA p1 n os
          have h2_ := fun n os => cell_grA p2 n os
          have h3_ := fun n os => cell_grA p3 n os
          have h4_ := fun n os => cell_grA p4 n os
          have h5_ := fun n os => cell_grA p5 n os
          have h6_ := fun n os => cell_grA p6 n os
          have i0_ := fun n os => cell_grA r0 n os
          have i1_ := fun n os => cell_grA r1 n os
          have i2_ := fun n os => cell_grA r2 n os
          have i3_ := fun n os => cell_grA r3 n os
          have i4_ := fun n os => cell_grA r4 n os
          have i5_ := fun n os => cell_grA r5 n os
          have i6_ := fun n os => cell_grA r6 n os
          clear a0 a1 a2 a3 a4 a5 a6 a7 a8 a9 p0 p1 p2 p3 p4 p5 p6 r0 r1 r2 r3 r4 r5 r6
          go_wp2_with fail
          refine wp_region_quiet_grown mixed (by kernel_rfl) ?_
          repeat (first | go_big_quiet_step ((first | (go_at_call 38; exact Calls.grown_of (kM _ _)) | (go_at_call 37; exact Calls.grown_of (kF _ _)))) | quiet_step ((first | (go_at_call 38; exact Calls.grown_of (kM _ _)) | (go_at_call 37; exact Calls.grown_of (kF _ _)))))
          refine wpQuiet_nil ?_
          intro _ hw'
          obtain ⟨⟨nq, osq⟩, hw''⟩ := hw'
          subst hw''
          have HGW := Lib.hid (Gro.of_grow (w := wx) nq osq)
          have HA2 := Lib.hid (HA.out.calm HGW.out.below)
          clear HA HGW
          clear g0 g1 g2 g3 g4 g5 g6 g7 g8 g9 h0_ i0_ h1_ i1_ h2_ i2_ h3_ i3_ h4_ i4_ h5_ i5_ h6_ i6_ mixed
          have HA := HA2
          clear HA2
          obtain ⟨wy, hwy⟩ : ∃ wy, grow (wx.drewN nq) osq = wy := ⟨_, rfl⟩
          rw [hwy] at HA
          try rw [hwy]
          clear hwy
          clear kM kF
          obtain ⟨p0, p1, p2, p3, p4, p5, p6⟩ := kcellsQ HA.out.kb
          obtain ⟨r0, r1, r2, r3, r4, r5, r6⟩ := kcellsQ HA.out.ka
          by_cases hk : a.k = k
          · have HXR : Hid (lscan l k (q + 1) t f = (a.p, decide (t < 40) && !pbit f a.p && !pushedB (l.drop (q + 1)) (l.take (q + 1)))) := Lib.hid (by rw [HX2.out, if_pos ⟨HMA.out, HFX.out, hk⟩])
            have qK := fun w => run_eqK a.k k w
            rw [decide_eq_true hk] at qK
            clear hk
            go_upto_region 16 with fail
            clear qK p0 p1 p2 p3 p4 p5 p6 r0 r1 r2 r3 r4 r5 r6
            obtain ⟨wx, rfl⟩ : ∃ wx, wx = wy := ⟨_, rfl⟩
            by_cases ht40 : t < 40
            · have htI : (t : Int) < 40 := by omega
              have qb := pbit_run0 f a.p
              cases hpb : pbit f a.p with
              | true =>
                have HX : Hid (lscan l k (q + 1) t f = (a.p, false)) := Lib.hid (by rw [HXR.out, hpb]; simp)
                rw [hpb] at qb
                clear hpb ht40
                have mixed : Try.prog.follows .mixedOrders = true := by kernel_rfl
                obtain ⟨a0, a1, a2, a3, a4, a5, a6, a7, a8, a9⟩ := HA.out.acells
                obtain ⟨p0, p1, p2, p3, p4, p5, p6⟩ := kcellsQ HA.out.kb
                obtain ⟨r0, r1, r2, r3, r4, r5, r6⟩ := kcellsQ HA.out.ka
                have g0 := fun n os => cell_grA a0 n os
                have g1 := fun n os => cell_grA a1 n os
                have g2 := fun n os => cell_grA a2 n os
                have g3 := fun n os => cell_grA a3 n os
                have g4 := fun n os => cell_grA a4 n os
                have g5 := fun n os => cell_grA a5 n os
                have g6 := fun n os => cell_grA a6 n os
                have g7 := fun n os => cell_grA a7 n os
                have g8 := fun n os => cell_grA a8 n os
                have g9 := fun n os => cell_grA a9 n os
                have h0_ := fun n os => cell_grA p0 n os
                have h1_ := fun n os => cell_grA p1 n os
                have h2_ := fun n os => cell_grA p2 n os
                have h3_ := fun n os => cell_grA p3 n os
                have h4_ := fun n os => cell_grA p4 n os
                have h5_ := fun n os => cell_grA p5 n os
                have h6_ := fun n os => cell_grA p6 n os
                have i0_ := fun n os => cell_grA r0 n os
                have i1_ := fun n os => cell_grA r1 n os
                have i2_ := fun n os => cell_grA r2 n os
                have i3_ := fun n os => cell_grA r3 n os
                have i4_ := fun n os => cell_grA r4 n os
                have i5_ := fun n os => cell_grA r5 n os
                have i6_ := fun n os => cell_grA r6 n os
                clear a0 a1 a2 a3 a4 a5 a6 a7 a8 a9 p0 p1 p2 p3 p4 p5 p6 r0 r1 r2 r3 r4 r5 r6
                go_wp2_with fail
                refine wp_region_quiet_grown mixed (by kernel_rfl) ?_
                repeat (first | go_big_quiet_step ((fail)) | quiet_step ((fail)))
                refine wpQuiet_nil ?_
                intro _ hw'
                obtain ⟨⟨nq, osq⟩, hw''⟩ := hw'
                subst hw''
                have HGW := Lib.hid (Gro.of_grow (w := wx) nq osq)
                have HA2 := Lib.hid (HA.out.calm HGW.out.below)
                clear HA HGW
                clear g0 g1 g2 g3 g4 g5 g6 g7 g8 g9 h0_ i0_ h1_ i1_ h2_ i2_ h3_ i3_ h4_ i4_ h5_ i5_ h6_ i6_ mixed
                have HA := HA2
                clear HA2
                obtain ⟨wy, hwy⟩ : ∃ wy, grow (wx.drewN nq) osq = wy := ⟨_, rfl⟩
                rw [hwy] at HA
                try rw [hwy]
                clear hwy
                all_goals (
                  go_wp2_with fail
                  refine bodyPost_ret (v := .tuple #[.int .u8 a.p.toNat, .bool false]) ?_ rfl ⟨?_, HA.out.bl⟩
                  · simp [results, Try.results23, go_sem]
                  · rw [← HR.out, ← HSC.out, HX.out])
              | false =>
                obtain ⟨r, hr⟩ : ∃ r, pushedB (l.drop (q + 1)) (l.take (q + 1)) = r := ⟨_, rfl⟩
                have HX : Hid (lscan l k (q + 1) t f = (a.p, !r)) := Lib.hid (by rw [HXR.out, hpb, hr, decide_eq_true ht40]; rfl)
                rw [hpb] at qb
                obtain ⟨n2, hn2⟩ : ∃ n2, n - (q + 1) = n2 := ⟨_, rfl⟩
                obtain ⟨d2, hd2⟩ : ∃ d2, c - (q + 1) = d2 := ⟨_, rfl⟩
                have HAd := Lib.hid (HA.out.calm (w' := wx.drew) ((Below.refl _ _).drew))
                have hbaw : ba < w.heap.size := HNA.out (by rw [HN.out]; omega) _ rfl
                have hwsz := HA.out.bl.size
                have hPU : ∀ (w_ : World) (A1 : Option Addr), LeA w (some ⟨ba, off, none⟩) l gk k ga gb a w_ → Els 10 encA w_ A1 (l.drop (q + 1)) → (∀ a, A1 = some a → a.block = ba) → Calls Try.prog 39 #[.slice A1 n2 d2, .slice (some ⟨ba, off, none⟩) (q + 1) c] w_ fun e w' => e = .returned (.bool r) ∧ Below w_.heap.size w_ w' := fun w_ A1 hw hA1 hA2 => by
                  have l1 : (l.drop (q + 1)).length = n2 := by rw [List.length_drop, HN.out, hn2]
                  have l2 : (l.take (q + 1)).length = (q + 1) := by rw [List.length_take, HN.out]; omega
                  have hws := hw.bl.size
                  have := pushed_any w_ A1 (some ⟨ba, off, none⟩) d2 c (l.drop (q + 1)) (l.take (q + 1)) hA1 (els_take hw.el _) (by rw [l1]; omega) (by rw [l2]; omega) (fun _ a' e' => by rw [hA2 a' e']; exact Nat.lt_of_lt_of_le hbaw hws) (fun _ a' e' => by cases e'; exact Nat.lt_of_lt_of_le hbaw hws)
                  rw [l1, l2, hr] at this
                  exact this
                have HPUA := Lib.hid hPU
                have HAX : ∀ (w_ w' : World), Hid (LeA w (some ⟨ba, off, none⟩) l gk k ga gb a w_) → Below w_.heap.size w_ w' → LeA w (some ⟨ba, off, none⟩) l gk k ga gb a w' := fun _ _ h hb => h.out.calm hb
                have HAZ : ∀ (w_ : World), Hid (LeA w (some ⟨ba, off, none⟩) l gk k ga gb a w_) → Below w.heap.size w w_ := fun _ h => h.out.bl
                clear hpb ht40 hr hPU hbaw hwsz
                by_cases hdi : c = q + 1
                · have HPU := Lib.hid (fun w_ hw => HPUA.out w_ (some ⟨ba, off, none⟩) hw (fun h0 => absurd h0 (by rw [List.length_drop, HN.out]; omega)) (fun a' e' => by cases e'; rfl))
                  obtain rfl : n = q + 1 := by omega
                  obtain rfl : n2 = 0 := by omega
                  obtain rfl : d2 = 0 := by omega
                  subst hdi
                  have hI5 : (q : Int) ≤ (q : Int) + 1 := by omega
                  have d8 := HAd.out.acells.2.2.2.2.2.2.2.2.1
                  go_wp2_with fail
                  go_region_held3 (fun w_ => w_.cell? ⟨ga, 8, none⟩ = some (.int .u8 a.p.toNat) ∧ Hid (LeA w (some ⟨ba, off, none⟩) l gk k ga gb a w_)) (go_keep)
                    (first
                      | (go_at_call 39; refine (HPU.out _ (Hid.out (by assumption))).mono ?_; rintro r_ w_ ⟨rfl, hb_⟩; have k1 : Hid (LeA w (some ⟨ba, off, none⟩) l gk k ga gb a w_) := Lib.hid ((HAX _ _ (by assumption) hb_)); have k0 := k1.out.acells.2.2.2.2.2.2.2.2.1; clear hb_)
                      | fail "no")
                  all_goals (
                    go_wp2_with fail
                    refine bodyPost_ret (v := .tuple #[.int .u8 a.p.toNat, .bool (!r)]) ?_ rfl ⟨?_, by exact (HAZ _ (by assumption))⟩
                    · simp [results, Try.results23, go_sem]
                    · rw [← HR.out, ← HSC.out, HX.out])
                · have HPU := Lib.hid (fun w_ hw => HPUA.out w_ (some ⟨ba, off + (q + 1) * 10, none⟩) hw (els_dropN hw.el (q + 1)) (fun a' e' => by cases e'; rfl))
                  have d8 := HAd.out.acells.2.2.2.2.2.2.2.2.1
                  go_wp2_with fail
                  go_region_held3 (fun w_ => w_.cell? ⟨ga, 8, none⟩ = some (.int .u8 a.p.toNat) ∧ Hid (LeA w (some ⟨ba, off, none⟩) l gk k ga gb a w_)) (go_keep)
                    (first
                      | (go_at_call 39; refine (HPU.out _ (Hid.out (by assumption))).mono ?_; rintro r_ w_ ⟨rfl, hb_⟩; have k1 : Hid (LeA w (some ⟨ba, off, none⟩) l gk k ga gb a w_) := Lib.hid ((HAX _ _ (by assumption) hb_)); have k0 := k1.out.acells.2.2.2.2.2.2.2.2.1; clear hb_)
                      | fail "no")
                  all_goals (
                    go_wp2_with fail
                    refine bodyPost_ret (v := .tuple #[.int .u8 a.p.toNat, .bool (!r)]) ?_ rfl ⟨?_, by exact (HAZ _ (by assumption))⟩
                    · simp [results, Try.results23, go_sem]
                    · rw [← HR.out, ← HSC.out, HX.out])
            · have htI : ¬ (t : Int) < 40 := by omega
              have HX : Hid (lscan l k (q + 1) t f = (a.p, false)) := Lib.hid (by rw [HXR.out, decide_eq_false ht40]; rfl)
              have htD : decide ((t : Int) < 40) = false := decide_eq_false htI
              clear ht40
              have mixed : Try.prog.follows .mixedOrders = true := by kernel_rfl
              obtain ⟨a0, a1, a2, a3, a4, a5, a6, a7, a8, a9⟩ := HA.out.acells
              obtain ⟨p0, p1, p2, p3, p4, p5, p6⟩ := kcellsQ HA.out.kb
              obtain ⟨r0, r1, r2, r3, r4, r5, r6⟩ := kcellsQ HA.out.ka
              have g0 := fun n os => cell_grA a0 n os
              have g1 := fun n os => cell_grA a1 n os
              have g2 := fun n os => cell_grA a2 n os
              have g3 := fun n os => cell_grA a3 n os
              have g4 := fun n os => cell_grA a4 n os
              have g5 := fun n os => cell_grA a5 n os
              have g6 := fun n os => cell_grA a6 n os
              have g7 := fun n os => cell_grA a7 n os
              have g8 := fun n os => cell_grA a8 n os
              have g9 := fun n os => cell_grA a9 n os
              have h0_ := fun n os => cell_grA p0 n os
              have h1_ := fun n os => cell_grA p1 n os
              have h2_ := fun n os => cell_grA p2 n os
              have h3_ := fun n os => cell_grA p3 n os
              have h4_ := fun n os => cell_grA p4 n os
              have h5_ := fun n os => cell_grA p5 n os
              have h6_ := fun n os => cell_grA p6 n os
              have i0_ := fun n os => cell_grA r0 n os
              have i1_ := fun n os => cell_grA r1 n os
              have i2_ := fun n os => cell_grA r2 n os
              have i3_ := fun n os => cell_grA r3 n os
              have i4_ := fun n os => cell_grA r4 n os
              have i5_ := fun n os => cell_grA r5 n os
              have i6_ := fun n os => cell_grA r6 n os
              clear a0 a1 a2 a3 a4 a5 a6 a7 a8 a9 p0 p1 p2 p3 p4 p5 p6 r0 r1 r2 r3 r4 r5 r6
              go_wp2_with fail
              refine wp_region_quiet_grown mixed (by kernel_rfl) ?_
              repeat (first | go_big_quiet_step ((fail)) | quiet_step ((fail)))
              refine wpQuiet_nil ?_
              intro _ hw'
              obtain ⟨⟨nq, osq⟩, hw''⟩ := hw'
              subst hw''
              have HGW := Lib.hid (Gro.of_grow (w := wx) nq osq)
              have HA2 := Lib.hid (HA.out.calm HGW.out.below)
              clear HA HGW
              clear g0 g1 g2 g3 g4 g5 g6 g7 g8 g9 h0_ i0_ h1_ i1_ h2_ i2_ h3_ i3_ h4_ i4_ h5_ i5_ h6_ i6_ mixed
              have HA := HA2
              clear HA2
              obtain ⟨wy, hwy⟩ : ∃ wy, grow (wx.drewN nq) osq = wy := ⟨_, rfl⟩
              rw [hwy] at HA
              try rw [hwy]
              clear hwy
              all_goals (
                go_wp2_with fail
                refine bodyPost_ret (v := .tuple #[.int .u8 a.p.toNat, .bool false]) ?_ rfl ⟨?_, HA.out.bl⟩
                · simp [results, Try.results23, go_sem]
                · rw [← HR.out, ← HSC.out, HX.out])
          · have HX : Hid (lscan l k (q + 1) t f = lscan l k q t f) := Lib.hid (by rw [HX2.out, if_neg (fun h => hk h.2.2)])
            have qK := fun w => run_eqK a.k k w
            rw [decide_eq_false hk] at qK
            clear hk
            all_goals (
              go_wp2_with fail
              go_roundw
              case rel => exact ⟨q, t, f, by omega, by omega, by go_num, by go_num, rfl, Lib.hid (by rw [← HX.out]; exact HSC.out), Lib.hid HA.out.st⟩
              case measure => (simp [intOf]; try omega))

end Go.Proofs.Ytlofaahckdfeiaa
