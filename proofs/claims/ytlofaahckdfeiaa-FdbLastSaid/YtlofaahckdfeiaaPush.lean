/- Layer 8: the law's pushed. -/
import Derived.Test.YtlofaahckdfeiaaDoes
import Derived.Test.YtlofaahckdfeiaaKit8
import Derived.Shelf.SlSortCmp.QuietGrown
import Derived.BigQuiet
import Derived.Deep.QuietTactic
namespace Go.Proofs.Ytlofaahckdfeiaa
open Go.RowKit Go.Shelf
open Go.Sort (grow)
set_option linter.unusedVariables false
set_option linter.unusedSimpArgs false
set_option maxRecDepth 100000

/-- a table of the law's own, and two rows of acts -/
structure PuS (W : World) (t : Nat) (X : Nat → Prop) (A1 : Option Addr) (l1 : List Ac) (A2 : Option Addr) (l2 : List Ac) (z : Zt) (w : World) : Prop where
  db : Db w t X z.1 z.2
  e1 : Els 10 encA w A1 l1
  e2 : Els 10 encA w A2 l2
  bl : Below W.heap.size W w
  up : ∀ k, X k → W.heap.size ≤ k
  n1 : 0 < l1.length → ∀ a, A1 = some a → a.block < W.heap.size
  n2 : 0 < l2.length → ∀ a, A2 = some a → a.block < W.heap.size
section
variable {W w w' : World} {t : Nat} {X : Nat → Prop} {A1 A2 : Option Addr} {l1 l2 : List Ac} {z z' : Zt}
theorem PuS.calm (h : PuS W t X A1 l1 A2 l2 z w) (hb : Below w.heap.size w w') : PuS W t X A1 l1 A2 l2 z w' :=
  ⟨h.db.next hb, h.e1.next hb, h.e2.next hb, h.bl.trans (hb.mono h.bl.size), h.up, h.n1, h.n2⟩
theorem PuS.to (h : PuS W t X A1 l1 A2 l2 z w) (d : DbTo w w' t X z'.1 z'.2) : ∃ X', PuS W t X' A1 l1 A2 l2 z' w' ∧ Chg X w w' ∧ ∀ k, X' k → X k ∨ w.heap.size ≤ k := by
  obtain ⟨X', h', hc, hk⟩ := d
  exact ⟨X', ⟨h', els_chg' h.e1 hc (fun h0 a e hx => by have := h.n1 h0 a e; have := h.up _ hx; omega), els_chg' h.e2 hc (fun h0 a e hx => by have := h.n2 h0 a e; have := h.up _ hx; omega), h.bl.trans (hc.below h.bl.size (fun k hk e => by have := h.up k e; omega)), fun k e => (hk k e).elim (h.up k) (fun e => Nat.le_trans h.bl.size e), h.n1, h.n2⟩, hc, hk⟩
end
theorem pshAny_cons (k : Pl) (z : Zt) (a : Ac) (r : List Ac) : pshAny k z (a :: r) = (pshB z a k || pshAny k (stp z a) r) := rfl
set_option maxHeartbeats 16000000 in
theorem pushed_any (w : World) (A1 A2 : Option Addr) (c1 c2 : Nat) (l1 l2 : List Ac) (hE1 : Els 10 encA w A1 l1) (hE2 : Els 10 encA w A2 l2) (h1 : l1.length ≤ 300) (h2 : l2.length ≤ 300)
    (hn1 : 0 < l1.length → ∀ a, A1 = some a → a.block < w.heap.size) (hn2 : 0 < l2.length → ∀ a, A2 = some a → a.block < w.heap.size) :
    Calls Try.prog 39 #[.slice A1 l1.length c1, .slice A2 l2.length c2] w fun e w' => e = .returned (.bool (pushedB l1 l2)) ∧ Below w.heap.size w w' := by
  obtain ⟨m1, hm1⟩ : ∃ n, l1.length = n := ⟨_, rfl⟩
  obtain ⟨m2, hm2⟩ : ∃ n, l2.length = n := ⟨_, rfl⟩
  have HM := Lib.hid (And.intro hm1 hm2)
  have HE := Lib.hid (And.intro hE1 (And.intro hE2 (And.intro hn1 hn2)))
  obtain ⟨r, hr⟩ : ∃ r, pushedB l1 l2 = r := ⟨_, rfl⟩
  have HR := Lib.hid hr
  rw [hm1] at h1 ⊢
  rw [hm2] at h2 ⊢
  rw [hr]
  clear hm1 hm2 hE1 hE2 hn1 hn2 hr
  go_enter Try.func39, Try.ntmps39
  go_wp2_with fail
  refine (new_db _).mono ?_
  rintro e w1 ⟨t, X, rfl, hD, hup, hG⟩
  have HS0 : Hid (PuS w t X A1 l1 A2 l2 (runA (l2.take 0)) w1) := Lib.hid ⟨hD, HE.out.1.gro hG, HE.out.2.1.gro hG, hG.below, hup, HE.out.2.2.1, HE.out.2.2.2⟩
  clear hD hup hG HE
  go_wp2_with fail
  go_loopw [6] (fun i wr => ∃ (j : Nat) (X : Nat → Prop), j ≤ m2 ∧ i = .int .i64 j ∧ Hid (PuS w t X A1 l1 A2 l2 (runA (l2.take j)) wr)) (fun i _ => m2 - (intOf i).toNat)
  case atStart => exact ⟨0, X, Nat.zero_le _, rfl, HS0⟩
  case round =>
    clear HS0
    obtain ⟨j, X, hj, rfl, HK⟩ := hrel
    by_cases hlt : j < m2
    · obtain ⟨a, ha⟩ : ∃ a, l2[j]? = some a := ⟨_, List.getElem?_eq_getElem (by rw [HM.out.2]; exact hlt)⟩
      obtain ⟨ba, off, rfl, hcl⟩ := els_act HK.out.e2 ha
      have HLD := Lib.hid hcl
      have HRT := Lib.hid (run_take ha)
      have hji : (j : Int) < m2 := by omega
      clear ha hcl
      go_wp2_with (refine wpList_load_at 34 23 rfl (by kernel_rfl) ba (off + j * 10) [.int .u8 a.d.toNat, .int .u16 a.k.v.toNat, .int .u8 a.k.m.a.toNat, .int .u8 a.k.m.b.toNat, .int .u8 a.k.m.c.toNat, .int .u8 a.k.m.d.toNat, .int .u8 a.k.m.e.toNat, .int .u8 a.k.m.f.toNat, .int .u8 a.p.toNat, .int .u8 a.s.toNat] rfl HLD.out isAggA sizeA ?_)
      refine (does_any HK.out.db a).mono ?_
      rintro e w2 ⟨rfl, hd⟩
      obtain ⟨X2, hs2, _, _⟩ := HK.out.to hd
      have HK2 : Hid (PuS w t X2 A1 l1 (some ⟨ba, off, none⟩) l2 (runA (l2.take (j + 1))) w2) := Lib.hid (by rw [HRT.out]; exact hs2)
      clear hd hs2 HK HLD
      go_wp2_with fail
      go_roundw
      case rel => exact ⟨j + 1, X2, by omega, by go_num, HK2⟩
      case measure => simp [intOf]; omega
    · obtain rfl : j = m2 := by omega
      have HT : Hid (l2.take j = l2) := Lib.hid (List.take_of_length_le (by rw [HM.out.2]; exact Nat.le_refl _))
      rw [HT.out] at HK
      obtain ⟨z0, hz0⟩ : ∃ z, runA l2 = z := ⟨_, rfl⟩
      have HZ0 := Lib.hid hz0
      rw [hz0] at HK
      obtain ⟨n0, hn0⟩ : ∃ n, z0.1.length = n := ⟨_, rfl⟩
      have HN0 := Lib.hid hn0
      clear hz0 hlt
      have hn32 : n0 ≤ 32 := by rw [← hn0]; exact HK.out.db.l32
      go_wp2_with fail
      refine (list_dbf HK.out.db).mono ?_
      rintro e w2 ⟨A7, c7, rfl, hE7, hfr, hb⟩
      rw [hn0]
      have HK2 := Lib.hid (HK.out.calm hb)
      have HE7 := Lib.hid hE7
      clear hE7 hfr hb HK hn0
      by_cases h0 : n0 = 0
      · have HF : Hid (r = true) := Lib.hid (by
          rw [← HR.out]
          unfold pushedB
          rw [HZ0.out, List.eq_nil_of_length_eq_zero (HN0.out.trans h0)]
          rfl)
        subst h0
        go_wp2_with fail
        go_ret
        exact ⟨ret_ (congrArg Value.bool (by rw [HF.out])), HK2.out.bl⟩
      · obtain ⟨n9, rfl⟩ : ∃ n, n0 = n + 1 := ⟨n0 - 1, by omega⟩
        obtain ⟨e, he⟩ : ∃ e, z0.1[n9]? = some e := ⟨_, List.getElem?_eq_getElem (by rw [HN0.out]; omega)⟩
        have HPA0 : Hid (pshAny e.k z0 (l1.drop 0) = r) := Lib.hid (by
          rw [← HR.out]
          unfold pushedB
          rw [HZ0.out, List.getLast?_eq_getElem?, HN0.out, Nat.add_sub_cancel, he]
          rfl)
        obtain ⟨b7, off7, rfl, hb7, _⟩ := en_at HE7.out he
        have HLD := Lib.hid (els_load HE7.out he)
        have hw0 : ((n9 + 1 : Nat) : Int) - 1 = (n9 : Int) := by omega
        have hni : (n9 : Int) < ((n9 + 1 : Nat) : Int) := by omega
        obtain ⟨gm, hgm⟩ : ∃ g, w2.heap.size = g := ⟨_, rfl⟩
        obtain ⟨w3, hw3⟩ : ∃ w3, w2.alloc (.cells ([.int .u16 e.k.v.toNat, .int .u8 e.k.m.a.toNat, .int .u8 e.k.m.b.toNat, .int .u8 e.k.m.c.toNat, .int .u8 e.k.m.d.toNat, .int .u8 e.k.m.e.toNat, .int .u8 e.k.m.f.toNat, .int .u8 e.p.toNat, .int .i64 (e.a : Nat)] : List Value).toArray 64) = w3 := ⟨_, rfl⟩
        have hg3 : Gro w2 w3 := by rw [← hw3]; exact (Gro.refl _).alloc _
        have HMB := Lib.hid (show Blk w3 gm 64 ([.int .u16 e.k.v.toNat, .int .u8 e.k.m.a.toNat, .int .u8 e.k.m.b.toNat, .int .u8 e.k.m.c.toNat, .int .u8 e.k.m.d.toNat, .int .u8 e.k.m.e.toNat, .int .u8 e.k.m.f.toNat, .int .u8 e.p.toNat, .int .i64 (e.a : Nat)] : List Value).toArray by rw [← hw3, ← hgm]; exact Blk.new w2 _ _)
        have HK3 := Lib.hid (HK2.out.calm hg3.below)
        have HNX0 : Hid (¬ X gm) := Lib.hid (fun ex => by have := HK2.out.db.lt gm ex; omega)
        clear he hb7 h0 hg3
        go_upto_region 10 with (refine wpList_load_at 64 35 rfl (by kernel_rfl) b7 (off7 + n9 * 9) [.int .u16 e.k.v.toNat, .int .u8 e.k.m.a.toNat, .int .u8 e.k.m.b.toNat, .int .u8 e.k.m.c.toNat, .int .u8 e.k.m.d.toNat, .int .u8 e.k.m.e.toNat, .int .u8 e.k.m.f.toNat, .int .u8 e.p.toNat, .int .i64 (e.a : Nat)] rfl HLD.out isAggE sizeE ?_)
        clear hgm hw3 HK2 HLD HE7 hw0 hni
        go_wp2_with fail
        go_loopw [9] (fun i wr => ∃ (j : Nat) (X : Nat → Prop) (z : Zt), j ≤ m1 ∧ i = .int .i64 j ∧ Hid (PuS w t X A1 l1 A2 l2 z wr) ∧ Hid (Blk wr gm 64 ([.int .u16 e.k.v.toNat, .int .u8 e.k.m.a.toNat, .int .u8 e.k.m.b.toNat, .int .u8 e.k.m.c.toNat, .int .u8 e.k.m.d.toNat, .int .u8 e.k.m.e.toNat, .int .u8 e.k.m.f.toNat, .int .u8 e.p.toNat, .int .i64 (e.a : Nat)] : List Value).toArray) ∧ Hid (¬ X gm) ∧ Hid (pshAny e.k z (l1.drop j) = r)) (fun i _ => m1 - (intOf i).toNat)
        case atStart => exact ⟨0, X, z0, Nat.zero_le _, rfl, HK3, HMB, HNX0, HPA0⟩
        case round =>
          clear HK3 HMB HNX0 HPA0 HZ0 HN0 HT
          obtain ⟨j, X, z, hj, rfl, HK, HMB, HNX, HPA⟩ := hrel
          by_cases hlt : j < m1
          · obtain ⟨a, ha⟩ : ∃ a, l1[j]? = some a := ⟨_, List.getElem?_eq_getElem (by rw [HM.out.1]; exact hlt)⟩
            rw [drop_at ha, pshAny_cons] at HPA
            have HA := Lib.hid ha
            have hji : (j : Int) < m1 := by omega
            have HXW := Lib.hid HK.out.db.lt
            clear ha
            go_wp2_with fail
            refine (list_dbf HK.out.db).mono ?_
            rintro e2 w2 ⟨A10, c10, rfl, hE, hfr, hb⟩
            have HK2 := Lib.hid (HK.out.calm hb)
            have HMB2 := Lib.hid (HMB.out.below hb HMB.out.lt)
            have HE10 := Lib.hid hE
            have HFR := Lib.hid hfr
            clear hE hfr hb HK HMB
            obtain ⟨ba, off, rfl, hcl⟩ := els_act HK2.out.e1 HA.out
            have HLD := Lib.hid hcl
            clear hcl
            go_wp2_with (refine wpList_load_at 34 48 rfl (by kernel_rfl) ba (off + j * 10) [.int .u8 a.d.toNat, .int .u16 a.k.v.toNat, .int .u8 a.k.m.a.toNat, .int .u8 a.k.m.b.toNat, .int .u8 a.k.m.c.toNat, .int .u8 a.k.m.d.toNat, .int .u8 a.k.m.e.toNat, .int .u8 a.k.m.f.toNat, .int .u8 a.p.toNat, .int .u8 a.s.toNat] rfl HLD.out isAggA sizeA ?_)
            refine (does_any HK2.out.db a).mono ?_
            rintro e2 w4 ⟨rfl, hd⟩
            obtain ⟨X4, hs4, hc4, hk4⟩ := HK2.out.to hd
            have HK4 : Hid (PuS w t X4 (some ⟨ba, off, none⟩) l1 A2 l2 (stp z a) w4) := Lib.hid hs4
            have HMB4 := Lib.hid (HMB2.out.chg hc4 HNX.out)
            have HNX4 : Hid (¬ X4 gm) := Lib.hid (fun ex => (hk4 gm ex).elim HNX.out (fun e => by have := HMB2.out.lt; omega))
            have HE4 := Lib.hid (els_chg' HE10.out hc4 (fun h0 a ea hx => by have := HFR.out a ea; have := HXW.out _ hx; omega))
            clear hd hs4 hc4 hk4 HK2 HMB2 HE10 HFR HXW HLD HNX
            have HNX := HNX4
            clear HNX4
            have c0 := HMB4.out.cell 0
            have c1' := HMB4.out.cell 1
            have c2' := HMB4.out.cell 2
            have c3 := HMB4.out.cell 3
            have c4 := HMB4.out.cell 4
            have c5 := HMB4.out.cell 5
            have c6 := HMB4.out.cell 6
            simp only [List.getElem?_toArray, List.getElem?_cons_succ, List.getElem?_cons_zero] at c0 c1' c2' c3 c4 c5 c6
            go_wp2_with fail
            refine (look_db HK4.out.db e.k.v e.k.m).mono ?_
            rintro e2 w5 ⟨rfl, hg⟩
            have HK5 := Lib.hid (HK4.out.calm hg.below)
            have HMB5 := Lib.hid (hg.blk HMB4.out)
            have HE5 := Lib.hid (HE4.out.gro hg)
            clear hg HK4 HMB4 HE4 c0 c1' c2' c3 c4 c5 c6
            obtain ⟨P, hP⟩ : ∃ P, lookP (stp z a).1 (stp z a).2 e.k = P := ⟨_, rfl⟩
            obtain ⟨B, hB⟩ : ∃ B, lookB (stp z a).1 (stp z a).2 e.k = B := ⟨_, rfl⟩
            have HPD : Hid (pshB z a e.k = (mayB a && decide (z.1.length = 32) && (match z.1 with | [] => false | x :: _ => decide (x.k = e.k)) && (!B || decide (P = 0)))) := Lib.hid (by unfold pshB; rw [hP, hB]; rfl)
            have hP' : lookP (stp z a).1 (stp z a).2 ⟨e.k.v, e.k.m⟩ = P := hP
            have hB' : lookB (stp z a).1 (stp z a).2 ⟨e.k.v, e.k.m⟩ = B := hB
            rw [hP', hB']
            clear hP hB hP' hB'
            obtain ⟨ba', off', ea, hcl⟩ := els_act HK5.out.e1 HA.out
            cases ea
            have g0 := fun n os => cell_grA (hcl 0 _ rfl) n os
            have g1 := fun n os => cell_grA (hcl 1 _ rfl) n os
            have g2 := fun n os => cell_grA (hcl 2 _ rfl) n os
            have g3 := fun n os => cell_grA (hcl 3 _ rfl) n os
            have g4 := fun n os => cell_grA (hcl 4 _ rfl) n os
            have g5 := fun n os => cell_grA (hcl 5 _ rfl) n os
            have g6 := fun n os => cell_grA (hcl 6 _ rfl) n os
            have g7 := fun n os => cell_grA (hcl 7 _ rfl) n os
            have g8 := fun n os => cell_grA (hcl 8 _ rfl) n os
            have g9 := fun n os => cell_grA (hcl 9 _ rfl) n os
            simp only [Nat.add_zero] at g0
            have mixed : Try.prog.follows .mixedOrders = true := by kernel_rfl
            clear hcl HA
            cases hma : mayB a with
            | false =>
              have HPB : Hid (pshB z a e.k = false) := Lib.hid (by rw [HPD.out, hma]; rfl)
              have kM : ∀ n os, Calls Try.prog 38 #[aV a] (grow (w5.drewN n) os) fun e w' => e = .returned (.bool false) ∧ ∃ q os', w' = grow ((grow (w5.drewN n) os).drewN q) os' := fun n os => by
                have := may_any (grow (w5.drewN n) os) a
                rw [hma] at this
                exact this.mono fun _ _ h => ⟨h.1, h.2.out⟩
              clear hma
              go_wp2_with fail
              refine wp_region_quiet_grown mixed (by kernel_rfl) ?_
              repeat (first | go_big_quiet_step ((go_at_call 38; exact Calls.grown_of (kM _ _))) | quiet_step ((go_at_call 38; exact Calls.grown_of (kM _ _))))
              refine wpQuiet_nil ?_
              intro _ hw'
              obtain ⟨⟨nq, osq⟩, hw''⟩ := hw'
              subst hw''
              have HGW := Lib.hid (Gro.of_grow (w := w5) nq osq)
              have HK6 := Lib.hid (HK5.out.calm HGW.out.below)
              have HMB6 := Lib.hid (HGW.out.blk HMB5.out)
              clear HGW
              all_goals (
                go_wp2_with fail
                go_roundw
                case rel => exact ⟨j + 1, X4, stp z a, by omega, by go_num, HK6, HMB6, HNX, Lib.hid (by have := HPA.out; rw [HPB.out, Bool.false_or] at this; exact this)⟩
                case measure => simp [intOf]; omega)
            | true =>
              have kM : ∀ n os, Calls Try.prog 38 #[aV a] (grow (w5.drewN n) os) fun e w' => e = .returned (.bool true) ∧ ∃ q os', w' = grow ((grow (w5.drewN n) os).drewN q) os' := fun n os => by
                have := may_any (grow (w5.drewN n) os) a
                rw [hma] at this
                exact this.mono fun _ _ h => ⟨h.1, h.2.out⟩
              rw [hma] at HPD
              clear hma
              by_cases h32 : z.1.length = 32
              · obtain ⟨x, L', hL⟩ : ∃ x L', z.1 = x :: L' := by
                  cases hz : z.1 with
                  | nil => rw [hz] at h32; cases h32
                  | cons x L' => exact ⟨x, L', rfl⟩
                have HPE : Hid (pshB z a e.k = (decide (x.k = e.k) && (!B || decide (P = 0)))) := Lib.hid (by rw [HPD.out, decide_eq_true h32, hL]; rfl)
                obtain ⟨b10, off10, rfl, _, d0, d1, d2, d3, d4, d5, d6, _⟩ := en_at (x := x) (k := 0) HE5.out (by rw [hL]; rfl)
                simp only [Nat.zero_mul, Nat.add_zero] at d0 d1 d2 d3 d4 d5 d6
                have k0 := fun n os => cell_grA d0 n os
                have k1 := fun n os => cell_grA d1 n os
                have k2 := fun n os => cell_grA d2 n os
                have k3 := fun n os => cell_grA d3 n os
                have k4 := fun n os => cell_grA d4 n os
                have k5 := fun n os => cell_grA d5 n os
                have k6 := fun n os => cell_grA d6 n os
                clear d0 d1 d2 d3 d4 d5 d6 hL
                rw [h32]
                clear h32
                have c0 := HMB5.out.cell 0
                have c1' := HMB5.out.cell 1
                have c2' := HMB5.out.cell 2
                have c3 := HMB5.out.cell 3
                have c4 := HMB5.out.cell 4
                have c5 := HMB5.out.cell 5
                have c6 := HMB5.out.cell 6
                simp only [List.getElem?_toArray, List.getElem?_cons_succ, List.getElem?_cons_zero] at c0 c1' c2' c3 c4 c5 c6
                have i0 := fun n os => cell_grA c0 n os
                have i1 := fun n os => cell_grA c1' n os
                have i2 := fun n os => cell_grA c2' n os
                have i3 := fun n os => cell_grA c3 n os
                have i4 := fun n os => cell_grA c4 n os
                have i5 := fun n os => cell_grA c5 n os
                have i6 := fun n os => cell_grA c6 n os
                clear c0 c1' c2' c3 c4 c5 c6
                by_cases he : x.k.v = e.k.v
                · by_cases hm : x.k.m = e.k.m
                  · have hke : x.k = e.k := by
                      cases hx : x.k; cases hy : e.k
                      rw [hx, hy] at he hm
                      cases he; cases hm; rfl
                    rw [decide_eq_true hke, Bool.true_and] at HPE
                    simp only [he, hm] at k0 k1 k2 k3 k4 k5 k6
                    have q := fun w => run_eqM e.k.m e.k.m w
                    clear hke he hm
                    cases B with
                    | false =>
                      have HPB : Hid (pshB z a e.k = true) := Lib.hid (by rw [HPE.out]; rfl)
                      go_wp2_with fail
                      refine wp_region_quiet_grown mixed (by kernel_rfl) ?_
                      repeat (first | go_big_quiet_step ((go_at_call 38; exact Calls.grown_of (kM _ _))) | quiet_step ((go_at_call 38; exact Calls.grown_of (kM _ _))))
                      refine wpQuiet_nil ?_
                      intro _ hw'
                      obtain ⟨⟨nq, osq⟩, hw''⟩ := hw'
                      subst hw''
                      have HGW := Lib.hid (Gro.of_grow (w := w5) nq osq)
                      have HK6 := Lib.hid (HK5.out.calm HGW.out.below)
                      have HMB6 := Lib.hid (HGW.out.blk HMB5.out)
                      clear HGW
                      all_goals (
                        go_wp2_with fail
                        go_ret
                        exact ⟨ret_ (congrArg Value.bool (by have := HPA.out; rw [HPB.out, Bool.true_or] at this; exact this)), HK6.out.bl⟩)
                    | true =>
                      by_cases hp0 : P = 0
                      · have HPB : Hid (pshB z a e.k = true) := Lib.hid (by rw [HPE.out, hp0]; rfl)
                        subst hp0
                        go_wp2_with fail
                        refine wp_region_quiet_grown mixed (by kernel_rfl) ?_
                        repeat (first | go_big_quiet_step ((go_at_call 38; exact Calls.grown_of (kM _ _))) | quiet_step ((go_at_call 38; exact Calls.grown_of (kM _ _))))
                        refine wpQuiet_nil ?_
                        intro _ hw'
                        obtain ⟨⟨nq, osq⟩, hw''⟩ := hw'
                        subst hw''
                        have HGW := Lib.hid (Gro.of_grow (w := w5) nq osq)
                        have HK6 := Lib.hid (HK5.out.calm HGW.out.below)
                        have HMB6 := Lib.hid (HGW.out.blk HMB5.out)
                        clear HGW
                        all_goals (
                          go_wp2_with fail
                          go_ret
                          exact ⟨ret_ (congrArg Value.bool (by have := HPA.out; rw [HPB.out, Bool.true_or] at this; exact this)), HK6.out.bl⟩)
                      · have HPB : Hid (pshB z a e.k = false) := Lib.hid (by rw [HPE.out, decide_eq_false hp0]; rfl)
                        have hpz : ((P.toNat : Int) == 0) = false := beq_eq_false_iff_ne.2 (fun e => hp0 (UInt8.toNat_inj.1 (by simpa using e)))
                        clear hp0
                        go_wp2_with fail
                        refine wp_region_quiet_grown mixed (by kernel_rfl) ?_
                        repeat (first | go_big_quiet_step ((go_at_call 38; exact Calls.grown_of (kM _ _))) | quiet_step ((go_at_call 38; exact Calls.grown_of (kM _ _))))
                        refine wpQuiet_nil ?_
                        intro _ hw'
                        obtain ⟨⟨nq, osq⟩, hw''⟩ := hw'
                        subst hw''
                        have HGW := Lib.hid (Gro.of_grow (w := w5) nq osq)
                        have HK6 := Lib.hid (HK5.out.calm HGW.out.below)
                        have HMB6 := Lib.hid (HGW.out.blk HMB5.out)
                        clear HGW
                        all_goals (
                          go_wp2_with fail
                          go_roundw
                          case rel => exact ⟨j + 1, X4, stp z a, by omega, by go_num, HK6, HMB6, HNX, Lib.hid (by have := HPA.out; rw [HPB.out, Bool.false_or] at this; exact this)⟩
                          case measure => simp [intOf]; omega)
                  · have HPB : Hid (pshB z a e.k = false) := Lib.hid (by rw [HPE.out, decide_eq_false (fun e2 => hm (by rw [e2]))]; rfl)
                    have q := fun w => run_eqM x.k.m e.k.m w
                    have hd : decide (x.k.m = e.k.m) = false := by simpa using hm
                    simp only [hd] at q
                    simp only [he] at k0
                    clear he hm hd
                    go_wp2_with fail
                    refine wp_region_quiet_grown mixed (by kernel_rfl) ?_
                    repeat (first | go_big_quiet_step ((go_at_call 38; exact Calls.grown_of (kM _ _))) | quiet_step ((go_at_call 38; exact Calls.grown_of (kM _ _))))
                    refine wpQuiet_nil ?_
                    intro _ hw'
                    obtain ⟨⟨nq, osq⟩, hw''⟩ := hw'
                    subst hw''
                    have HGW := Lib.hid (Gro.of_grow (w := w5) nq osq)
                    have HK6 := Lib.hid (HK5.out.calm HGW.out.below)
                    have HMB6 := Lib.hid (HGW.out.blk HMB5.out)
                    clear HGW
                    all_goals (
                      go_wp2_with fail
                      go_roundw
                      case rel => exact ⟨j + 1, X4, stp z a, by omega, by go_num, HK6, HMB6, HNX, Lib.hid (by have := HPA.out; rw [HPB.out, Bool.false_or] at this; exact this)⟩
                      case measure => simp [intOf]; omega)
                · have HPB : Hid (pshB z a e.k = false) := Lib.hid (by rw [HPE.out, decide_eq_false (fun e2 => he (by rw [e2]))]; rfl)
                  have he2 : ((x.k.v.toNat : Int) == (e.k.v.toNat : Int)) = false := by rw [u16_eqI]; simpa using he
                  clear he
                  go_wp2_with fail
                  refine wp_region_quiet_grown mixed (by kernel_rfl) ?_
                  repeat (first | go_big_quiet_step ((go_at_call 38; exact Calls.grown_of (kM _ _))) | quiet_step ((go_at_call 38; exact Calls.grown_of (kM _ _))))
                  refine wpQuiet_nil ?_
                  intro _ hw'
                  obtain ⟨⟨nq, osq⟩, hw''⟩ := hw'
                  subst hw''
                  have HGW := Lib.hid (Gro.of_grow (w := w5) nq osq)
                  have HK6 := Lib.hid (HK5.out.calm HGW.out.below)
                  have HMB6 := Lib.hid (HGW.out.blk HMB5.out)
                  clear HGW
                  all_goals (
                    go_wp2_with fail
                    go_roundw
                    case rel => exact ⟨j + 1, X4, stp z a, by omega, by go_num, HK6, HMB6, HNX, Lib.hid (by have := HPA.out; rw [HPB.out, Bool.false_or] at this; exact this)⟩
                    case measure => simp [intOf]; omega)
              · have HPB : Hid (pshB z a e.k = false) := Lib.hid (by rw [HPD.out, decide_eq_false h32]; rfl)
                obtain ⟨nz, hnz⟩ : ∃ n, z.1.length = n := ⟨_, rfl⟩
                rw [hnz] at h32 ⊢
                have hnzq : ((nz : Int) == 32) = false := beq_eq_false_iff_ne.2 (by omega)
                clear hnz h32
                go_wp2_with fail
                refine wp_region_quiet_grown mixed (by kernel_rfl) ?_
                repeat (first | go_big_quiet_step ((go_at_call 38; exact Calls.grown_of (kM _ _))) | quiet_step ((go_at_call 38; exact Calls.grown_of (kM _ _))))
                refine wpQuiet_nil ?_
                intro _ hw'
                obtain ⟨⟨nq, osq⟩, hw''⟩ := hw'
                subst hw''
                have HGW := Lib.hid (Gro.of_grow (w := w5) nq osq)
                have HK6 := Lib.hid (HK5.out.calm HGW.out.below)
                have HMB6 := Lib.hid (HGW.out.blk HMB5.out)
                clear HGW
                all_goals (
                  go_wp2_with fail
                  go_roundw
                  case rel => exact ⟨j + 1, X4, stp z a, by omega, by go_num, HK6, HMB6, HNX, Lib.hid (by have := HPA.out; rw [HPB.out, Bool.false_or] at this; exact this)⟩
                  case measure => simp [intOf]; omega)
          · obtain rfl : j = m1 := by omega
            have HF : Hid (r = false) := Lib.hid (by
              have h := HPA.out
              rw [List.drop_of_length_le (by rw [HM.out.1]; exact Nat.le_refl _)] at h
              exact h.symm)
            go_wp2_with fail
            go_ret
            exact ⟨ret_ (congrArg Value.bool (by rw [HF.out])), HK.out.bl⟩
end Go.Proofs.Ytlofaahckdfeiaa
