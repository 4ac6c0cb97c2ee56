/- Layer 16: ConfigStands's walk, over the bundle. -/
import Derived.Test.YtfdiolfelecccaaZzWk16
import Derived.Test.YtfdiolfelecccaaZzSt16
import Derived.Test.YtfdiolfelecccaaZzCr16
import Derived.Test.YtfdiolfelecccaaZzOpenAc
import Derived.BigQuiet
import Derived.Deep.QuietTactic
import Derived.Deep.DeepCutAuto
namespace Go.Proofs.Ytfdiolfelecccaa
open Go.RowKit
set_option linter.unusedVariables false
set_option linter.unusedSimpArgs false
set_option maxRecDepth 100000

theorem step_below {B : Nat} {S S' : Nat → Prop} {w0 w w' : World} (h : Below B w0 w) (hs : StepT S S' w w') (hB : B ≤ w0.heap.size) (hS : ∀ k, S k → B ≤ k) : Below B w0 w' :=
  h.trans (hs.chg.below (Nat.le_trans hB h.size) (fun k hk hk' => by have := hS k hk'; omega))
theorem grt_no {L : List AcX} (h : grt L = false) : L.length ≤ 60 ∧ ∀ y ∈ L, y.x.a.m.length ≤ 20 ∧ y.x.a.d.length ≤ 100 ∧ y.x.a.n.length ≤ 100 := by
  unfold grt at h
  rw [Bool.or_eq_false_iff] at h
  obtain ⟨h1, h2⟩ := h
  refine ⟨by simpa using h1, fun y hy => ?_⟩
  rw [List.any_eq_false] at h2
  have := h2 y hy
  unfold grA at this
  simp only [Bool.or_eq_true, decide_eq_true_eq, not_or] at this
  omega
theorem count_self {E : List Mp} {m : Mp} (h : E.countP (fun e => decide (e = m)) = 0) : (E ++ [m]).countP (fun e => decide (e = m)) = 1 := by
  rw [List.countP_append, h]
  simp
theorem act_good {T : Tb} (hi : TbInv T) (x : Ac) : ActGood x.k (T.act x).2.2 (T.act x).1.E.length T.E.length ((T.act x).1.E.countP (fun e => decide (e = x.e))) := by
  have hc := count_E (act_inv hi x) x.e
  by_cases h0 : x.k = 0
  · have e : T.act x = ((T.addE x.e).1, 0, (T.addE x.e).2) := by unfold Tb.act; rw [if_pos h0]
    rw [e] at hc ⊢
    refine ⟨fun hf => (by show (T.addE x.e).1.E.length = _; rw [addE_no hf]), hc, fun _ hf => ?_, fun h1 _ => absurd (h0.symm.trans h1) (by decide), fun h _ => absurd h0 h⟩
    obtain ⟨h1, h2⟩ := addE_ok (show (T.addE x.e).2 = 0 from hf)
    show (T.addE x.e).1.E.countP _ = 1 ∧ (T.addE x.e).1.E.length = _
    rw [h1]
    exact ⟨count_self h2, by simp⟩
  · by_cases h1 : x.k = 1
    · have e : T.act x = ((T.dropE x.e.a x.e.m).1, 0, (T.dropE x.e.a x.e.m).2) := by unfold Tb.act; rw [if_neg h0, if_pos h1]
      rw [e] at hc ⊢
      exact ⟨fun hf => (by show (T.dropE x.e.a x.e.m).1.E.length = _; rw [dropE_no hf]), hc, fun h _ => absurd h h0, fun _ hf => dropE_ok hi (show (T.dropE x.e.a x.e.m).2 = 0 from hf), fun _ h => absurd h1 h⟩
    · have hE : (T.act x).1.E = T.E := by
        unfold Tb.act
        rw [if_neg h0, if_neg h1]
        split
        · exact (addM_len T x.m).2.2
        · split
          · exact (dropM_len T x.m.p x.m.v).2.2
          · exact (addA_len T x.a).2.1
      have hl : (T.act x).1.E.length = T.E.length := by rw [hE]
      exact ⟨fun _ => hl, hc, fun h _ => absurd h h0, fun h _ => absurd h h1, fun _ _ => hl⟩
set_option maxRecDepth 100000 in
set_option maxHeartbeats 16000000 in
theorem configstands_walk {R : (Nat → Prop) → World → Nat → Tb → Prop} (HH : CgI R) (w : World) (A : Option Addr) (c : Nat) (L : List AcX) (hl : L.length ≤ maxLen) (hq : ∀ y ∈ L, AcQ w y) (hE : Els 14 acE w A L) :
    Calls Try.prog 5 #[.slice A L.length c] w fun e w' => e = .returned (.bool true) ∧ Below w.heap.size w w' := by
  have H := Lib.hid HH
  have KW := Lib.hid (fun w => wakes16 HH w)
  have KN := Lib.hid (fun w => HH.new 8 w (by decide) (by decide))
  have KG := Lib.hid (great16_any A c L w hE)
  have HQ := Lib.hid hq
  have HE := Lib.hid hE
  obtain ⟨n, hn⟩ : ∃ n, L.length = n := ⟨_, rfl⟩
  obtain ⟨gb, hgb⟩ : ∃ gb, grt L = gb := ⟨_, rfl⟩
  rw [hn, hgb] at KG
  have HN := Lib.hid hn
  rw [hn]
  have HGB := Lib.hid hgb
  clear HH hl hq hE hn hgb
  go_enter Try.func5, Try.ntmps5
  go_wp2_with fail
  refine KG.out.mono ?_
  rintro e_ w1 ⟨rfl, hb1⟩
  have HB1 := Lib.hid hb1
  clear hb1 KG
  cases gb
  case true =>
    go_wp2_with fail
    refine (KW.out _).mono ?_
    rintro e_ w2 ⟨rfl, hb2⟩
    have HB2 : Hid (Below w.heap.size w w2) := Lib.hid (HB1.out.trans (hb2.mono HB1.out.size))
    clear hb2 HB1
    go_wp2
    go_ret
    exact ⟨rfl, HB2.out⟩
  have HGN := Lib.hid (grt_no HGB.out)
  have hn60 : (n : Int) ≤ 60 := by have := HGN.out.1; have := HN.out; omega
  go_wp2_with fail
  refine (KN.out _).mono ?_
  rintro e_ w2 ⟨S0, b, rfl, hR2, hS2, hb2⟩
  have HB2 : Hid (Below w.heap.size w w2) := Lib.hid (HB1.out.trans (hb2.mono HB1.out.size))
  have HR2 := Lib.hid hR2
  have HS2 : Hid (∀ j, S0 j → w.heap.size ≤ j) := Lib.hid (fun j hj => Nat.le_trans HB1.out.size (hS2 j hj))
  clear hb2 hR2 hS2 HB1 KN
  go_wp2
  go_loopw [5] (fun i wr => ∃ (k : Nat) (T : Tb) (S : Nat → Prop), k ≤ n ∧ i = .int .i64 k ∧ Hid (R S wr b T) ∧ Hid (Sm T k) ∧ Hid (∀ j, S j → w.heap.size ≤ j) ∧ Hid (Below w.heap.size w wr)) (fun i _ => n - (intOf i).toNat)
  case atStart => exact ⟨0, _, S0, Nat.zero_le _, rfl, HR2, Lib.hid ⟨Nat.le_refl _, Nat.le_refl _, Nat.le_refl _⟩, HS2, HB2⟩
  case round =>
    obtain ⟨k, T, S, hk, rfl, HR, HSM, HSW, HB⟩ := hrel
    by_cases hlt : k < n
    · have hki : (k : Int) < (n : Int) := by omega
      obtain ⟨y, hy⟩ : ∃ y, L[k]? = some y := ⟨_, List.getElem?_eq_getElem (by rw [HN.out]; exact hlt)⟩
      have HY := Lib.hid hy
      have HYG := Lib.hid (HGN.out.2 y (List.mem_of_getElem? hy))
      have HYQ := Lib.hid (HQ.out y (List.mem_of_getElem? hy))
      have HLT := Lib.hid hlt
      have HK60 : Hid (k < 60) := Lib.hid (by have := HGN.out.1; have := HN.out; omega)
      have HS1000 : Hid (Sm T 1000) := Lib.hid ⟨by have := HSM.out.1; have := HK60.out; omega, by have := HSM.out.2.1; have := HK60.out; omega, by have := HSM.out.2.2; have := HK60.out; omega⟩
      have KM := Lib.hid (H.out.meps S _ b T HR.out HS1000.out)
      obtain ⟨n0, hn0⟩ : ∃ n, T.E.length = n := ⟨_, rfl⟩
      rw [hn0] at KM
      have HN0 := Lib.hid hn0
      clear hlt hy hn0
      go_wp2_with fail
      refine KM.out.mono ?_
      rintro e_ w3 ⟨B3, c3, rfl, _, _, hr3, hb3, _⟩
      have HB3 : Hid (Below w.heap.size w w3) := Lib.hid (HB.out.trans (hb3.mono HB.out.size))
      have HR3 := Lib.hid hr3
      clear hb3 hr3 KM HR HB
      obtain ⟨bA, oA, rfl, hltA, a0, a1, a2, a3, a4, a5, a6, a7, a8, a9, a10, a11, a12, a13⟩ := ac_at (HE.out.next HB3.out) HY.out
      have KD := Lib.hid (does16_any H.out S w3 b T y.x y.B y.c HR3.out HS1000.out (HYQ.out.next HB3.out).1 HYQ.out.2.2 (by have := HYG.out; omega) (by have := HYG.out; omega) (by have := HYG.out; omega))
      clear hltA
      go_wp2_with fail
      refine KD.out.mono ?_
      rintro e_ w4 ⟨S4, rfl, hr4, hs4⟩
      have HB4 : Hid (Below w.heap.size w w4) := Lib.hid (step_below HB3.out hs4 (Nat.le_refl _) HSW.out)
      have HSW4 : Hid (∀ j, S4 j → w.heap.size ≤ j) := Lib.hid (fun j hj => by
        rcases hs4.own j hj with h | h
        · exact HSW.out j h
        · exact Nat.le_trans HB3.out.size h)
      have HR4 := Lib.hid hr4
      have HSM4 := Lib.hid (act_len T y.x k HSM.out)
      have HAG := Lib.hid (act_good (H.out.inv _ _ _ _ HR3.out) y.x)
      obtain ⟨Tn, hTn⟩ : ∃ Tn, (T.act y.x).1 = Tn := ⟨_, rfl⟩
      obtain ⟨an, han⟩ : ∃ an, (T.act y.x).2.1 = an := ⟨_, rfl⟩
      obtain ⟨fn, hfn⟩ : ∃ fn, (T.act y.x).2.2 = fn := ⟨_, rfl⟩
      rw [hTn] at HR4 HSM4
      rw [hTn, hfn] at HAG
      rw [han, hfn]
      clear hr4 hs4 KD HR3 HB3 HSM HSW hTn han hfn a0 a1 a2 a3 a4 a5 a6 a7 a8 a9 a10 a11 a12 a13
      have HS1001 : Hid (Sm Tn 1000) := Lib.hid ⟨by have := HSM4.out.1; have := HK60.out; omega, by have := HSM4.out.2.1; have := HK60.out; omega, by have := HSM4.out.2.2; have := HK60.out; omega⟩
      have KM := Lib.hid (H.out.meps S4 _ b Tn HR4.out HS1001.out)
      obtain ⟨n1, hn1⟩ : ∃ n, Tn.E.length = n := ⟨_, rfl⟩
      rw [hn1] at KM
      have HN1 := Lib.hid hn1
      clear hn1
      go_wp2_with fail
      refine KM.out.mono ?_
      rintro e_ w5 ⟨B5, c5, rfl, hE5, _, hr5, hb5, _⟩
      have HB5 : Hid (Below w.heap.size w w5) := Lib.hid (HB4.out.trans (hb5.mono HB4.out.size))
      have HR5 := Lib.hid hr5
      have HE5 := Lib.hid hE5
      clear hb5 hr5 hE5 KM HR4 HB4
      obtain ⟨_, _, hAA, hltA, a0, a1, a2, a3, a4, a5, a6, a7, a8, a9, a10, a11, a12, a13⟩ := ac_at (HE.out.next HB5.out) HY.out
      cases hAA
      go_wp2_with fail
      refine (mep16_any y.x.e _).mono ?_
      rintro e_ w6 ⟨rfl, hb6⟩
      have HB7 : Hid (Below w.heap.size w (w6.alloc (.cells #[.int .i64 y.x.e.a, .int .u16 y.x.e.m.toNat, .int .u8 y.x.e.p.toNat, .bool y.x.e.u] 59))) := Lib.hid ((HB5.out.trans (hb6.mono HB5.out.size)).alloc (by have := HB5.out.size; have := hb6.size; omega) _)
      have HQ7 : Hid (Below w5.heap.size w5 (w6.alloc (.cells #[.int .i64 y.x.e.a, .int .u16 y.x.e.m.toNat, .int .u8 y.x.e.p.toNat, .bool y.x.e.u] 59))) := Lib.hid (hb6.alloc hb6.size _)
      have HX7 := Lib.hid (Blk.new w6 59 #[.int .i64 y.x.e.a, .int .u16 y.x.e.m.toNat, .int .u8 y.x.e.p.toNat, .bool y.x.e.u])
      have HR7 := Lib.hid (H.out.next HR5.out HQ7.out)
      have HE7 := Lib.hid (HE5.out.next HQ7.out)
      obtain ⟨g, hg⟩ : ∃ g, w6.heap.size = g := ⟨_, rfl⟩
      rw [hg] at HX7
      clear hb6 HB5 HR5 HE5 HQ7 a0 a1 a2 a3 a4 a5 a6 a7 a8 a9 a10 a11 a12 a13 hltA
      go_upto_region 14 with (fail)
      obtain ⟨w7, hw7⟩ : ∃ w7, w6.alloc (.cells #[.int .i64 y.x.e.a, .int .u16 y.x.e.m.toNat, .int .u8 y.x.e.p.toNat, .bool y.x.e.u] 59) = w7 := ⟨_, rfl⟩
      rw [hw7] at HB7 HX7 HR7 HE7 ⊢
      clear hw7 hg
      have hn1z : (n1 : Int) ≤ 1000 := by have := HS1001.out.2.1; have := HN1.out; omega
      obtain ⟨wo, hwo⟩ : ∃ wo, wo = wr := ⟨_, rfl⟩
      subst hwo
      go_wp2
      go_loopw [11, 12] (fun cn jn wi => ∃ j : Nat, j ≤ n1 ∧ jn = .int .i64 j ∧ cn = .int .i64 ((Tn.E.take j).countP (fun e => decide (e = y.x.e)) : Nat) ∧ Hid (Below w7.heap.size w7 wi)) (fun _ jn _ => n1 - (intOf jn).toNat)
      case atStart => exact ⟨0, Nat.zero_le _, rfl, rfl, Lib.hid (Below.refl _ _)⟩
      case round =>
        obtain ⟨j, hj, rfl, rfl, HBi⟩ := hrel
        by_cases hlj : j < n1
        · have hji : (j : Int) < (n1 : Int) := by omega
          obtain ⟨x, hx⟩ : ∃ x, Tn.E[j]? = some x := ⟨_, List.getElem?_eq_getElem (by rw [HN1.out]; exact hlj)⟩
          obtain ⟨b5, o5, rfl, hlt5, e0, e1, e2, e3⟩ := mp_at (HE7.out.next HBi.out) hx
          have HXX := Lib.hid hx
          have HLJ := Lib.hid hlj
          have HXi := Lib.hid (HX7.out.below HBi.out HX7.out.lt)
          have qe := fun w => run_eqMp x y.x.e w
          obtain ⟨q, hq⟩ : ∃ q, decide (x = y.x.e) = q := ⟨_, rfl⟩
          rw [hq] at qe
          have HCN : Hid ((Tn.E.take (j + 1)).countP (fun e => decide (e = y.x.e)) = (Tn.E.take j).countP (fun e => decide (e = y.x.e)) + (if q then 1 else 0)) := Lib.hid (by
            obtain ⟨hk', he⟩ := List.getElem?_eq_some_iff.1 hx
            rw [List.take_succ_eq_append_getElem hk', he, List.countP_append]
            simp [hq])
          have hcl : (Tn.E.take j).countP (fun e => decide (e = y.x.e)) ≤ j := Nat.le_trans List.countP_le_length (by rw [List.length_take]; exact Nat.min_le_left _ _)
          obtain ⟨cj, hcj⟩ : ∃ cj, (Tn.E.take j).countP (fun e => decide (e = y.x.e)) = cj := ⟨_, rfl⟩
          rw [hcj] at HCN hcl ⊢
          have hclz : (cj : Int) ≤ 1000 := by omega
          have x0 := HXi.out.cell 0
          have x1 := HXi.out.cell 1
          have x2 := HXi.out.cell 2
          have x3 := HXi.out.cell 3
          simp only [List.getElem?_toArray, List.getElem?_cons_succ, List.getElem?_cons_zero] at x0 x1 x2 x3
          clear hx hlj hlt5 hq hcj
          cases q
          · go_wp2_with fail
            go_quiet (fail)
            go_wp2
            go_roundw
            case rel => exact ⟨j + 1, by have := HLJ.out; omega, by go_num, by rw [HCN.out]; rfl, Lib.hid (below_drewN16 HBi.out _)⟩
            case measure => have := HLJ.out; simp [intOf]; omega
          · go_wp2_with fail
            go_quiet (fail)
            go_wp2
            go_roundw
            case rel => exact ⟨j + 1, by have := HLJ.out; omega, by go_num, by rw [HCN.out]; rfl, Lib.hid (below_drewN16 HBi.out _)⟩
            case measure => have := HLJ.out; simp [intOf]; omega
        · obtain rfl : j = n1 := by omega
          rw [List.take_of_length_le (by rw [HN1.out]; exact Nat.le_refl _)]
          obtain ⟨cn, hcn⟩ : ∃ cn, Tn.E.countP (fun e => decide (e = y.x.e)) = cn := ⟨_, rfl⟩
          have HG := Lib.hid HAG.out
          rw [hcn, HN1.out, HN0.out] at HG
          rw [hcn]
          have HBj : Hid (Below w.heap.size w wr) := Lib.hid (HB7.out.trans (HBi.out.mono HB7.out.size))
          have HRj := Lib.hid (H.out.next HR7.out HBi.out)
          have HEj := Lib.hid (HE7.out.next HBi.out)
          clear hj hlj HBi HR7 HE7 HX7 HAG hcn
          go_upto_region 19 with (fail)
          obtain ⟨_, _, hAA, hltA, a0, a1, a2, a3, a4, a5, a6, a7, a8, a9, a10, a11, a12, a13⟩ := ac_at (HE.out.next HBj.out) HY.out
          cases hAA
          clear a1 a2 a3 a4 a5 a6 a7 a8 a9 a10 a11 a12 a13 hltA
          go_cut [136] (fun a wx => a = .bool false ∧ wx = wr)
          case first =>
            refine wp_swap16 (c' := cstands19) (by kernel_rfl) ?_
            by_cases hk0 : y.x.k = 0
            · rw [hk0] at a0
              by_cases hf : fn = 0
              · obtain ⟨rfl, rfl⟩ := HG.out.add hk0 hf
                subst hf
                have hb : (n0 : Int) ≤ 1000 := by omega
                refine cs19_add a0 hki hb _ _ _ _ _ _ _ _ _ _ _ _ _ _ _ _ _ _ _ _ _ _ _ _ _ _ _ _ _ _ _ _ _ _ _ _ _ _ _ _ _ _ _ _ _ _ _ _ _ _ _ _ _ _ _ _ _ _ _ _ _ _ _ _ _ _ _ _ _ _ _ _ _ _ _ _ _ _ _ _ _ _ _ _ _ _ _ _ _ _ _ _ _ _ _ _ _ _ _ _ _ _ _ _ _ _ _ _ _ _ _ _ _ _ _ _ _ _ _ _ _ _ _ _ _ _ _ _ _ _ _ _ _ _ _ _ _ ?_
                intro v65 v66 v67 v68 v69 v70 v71 v72 v73 v74 v75 v76 v77 v78 v79 v80 v81 v82 v83 v84 v85 v86 v87 v88 v89 v90 v91 v92 v93 v94 v95 v96 v97 v98 v99 v100 v101 v102 v103 v104 v105 v106 v107 v108 v109 v110 v111 v112 v113 v114 v115 v116 v117 v118 v119 v120 v121 v122 v123 v124 v125 v126 v127 v128 v129 v130 v131 v132 v133 v134 v135
                go_wp2_with fail
                go_meet
                exact ⟨rfl, rfl⟩
              · have F0 : ((fn : Int) == 0) = false := by rw [beq_eq_false_iff_ne]; omega
                have F1 : ((fn : Int) != 0) = true := by simp; omega
                obtain rfl := HG.out.no hf
                have hc : ¬ (1 : Int) < (cn : Int) := by have := HG.out.one; omega
                refine cs19_no0 a0 hki F0 F1 hc _ _ _ _ _ _ _ _ _ _ _ _ _ _ _ _ _ _ _ _ _ _ _ _ _ _ _ _ _ _ _ _ _ _ _ _ _ _ _ _ _ _ _ _ _ _ _ _ _ _ _ _ _ _ _ _ _ _ _ _ _ _ _ _ _ _ _ _ _ _ _ _ _ _ _ _ _ _ _ _ _ _ _ _ _ _ _ _ _ _ _ _ _ _ _ _ _ _ _ _ _ _ _ _ _ _ _ _ _ _ _ _ _ _ _ _ _ _ _ _ _ _ _ _ _ _ _ _ _ _ _ _ _ _ _ _ _ ?_
                intro v65 v66 v67 v68 v69 v70 v71 v72 v73 v74 v75 v76 v77 v78 v79 v80 v81 v82 v83 v84 v85 v86 v87 v88 v89 v90 v91 v92 v93 v94 v95 v96 v97 v98 v99 v100 v101 v102 v103 v104 v105 v106 v107 v108 v109 v110 v111 v112 v113 v114 v115 v116 v117 v118 v119 v120 v121 v122 v123 v124 v125 v126 v127 v128 v129 v130 v131 v132 v133 v134 v135
                go_wp2_with fail
                go_meet
                exact ⟨rfl, rfl⟩
            · by_cases hk1 : y.x.k = 1
              · rw [hk1] at a0
                have hc : ¬ (1 : Int) < (cn : Int) := by have := HG.out.one; omega
                by_cases hf : fn = 0
                · obtain rfl := HG.out.drop hk1 hf
                  subst hf
                  refine cs19_drop a0 hki hn1z hc _ _ _ _ _ _ _ _ _ _ _ _ _ _ _ _ _ _ _ _ _ _ _ _ _ _ _ _ _ _ _ _ _ _ _ _ _ _ _ _ _ _ _ _ _ _ _ _ _ _ _ _ _ _ _ _ _ _ _ _ _ _ _ _ _ _ _ _ _ _ _ _ _ _ _ _ _ _ _ _ _ _ _ _ _ _ _ _ _ _ _ _ _ _ _ _ _ _ _ _ _ _ _ _ _ _ _ _ _ _ _ _ _ _ _ _ _ _ _ _ _ _ _ _ _ _ _ _ _ _ _ _ _ _ _ _ _ ?_
                  intro v65 v66 v67 v68 v69 v70 v71 v72 v73 v74 v75 v76 v77 v78 v79 v80 v81 v82 v83 v84 v85 v86 v87 v88 v89 v90 v91 v92 v93 v94 v95 v96 v97 v98 v99 v100 v101 v102 v103 v104 v105 v106 v107 v108 v109 v110 v111 v112 v113 v114 v115 v116 v117 v118 v119 v120 v121 v122 v123 v124 v125 v126 v127 v128 v129 v130 v131 v132 v133 v134 v135
                  go_wp2_with fail
                  go_meet
                  exact ⟨rfl, rfl⟩
                · have F0 : ((fn : Int) == 0) = false := by rw [beq_eq_false_iff_ne]; omega
                  have F1 : ((fn : Int) != 0) = true := by simp; omega
                  obtain rfl := HG.out.no hf
                  refine cs19_no1 a0 hki F0 F1 hc _ _ _ _ _ _ _ _ _ _ _ _ _ _ _ _ _ _ _ _ _ _ _ _ _ _ _ _ _ _ _ _ _ _ _ _ _ _ _ _ _ _ _ _ _ _ _ _ _ _ _ _ _ _ _ _ _ _ _ _ _ _ _ _ _ _ _ _ _ _ _ _ _ _ _ _ _ _ _ _ _ _ _ _ _ _ _ _ _ _ _ _ _ _ _ _ _ _ _ _ _ _ _ _ _ _ _ _ _ _ _ _ _ _ _ _ _ _ _ _ _ _ _ _ _ _ _ _ _ _ _ _ _ _ _ _ _ ?_
                  intro v65 v66 v67 v68 v69 v70 v71 v72 v73 v74 v75 v76 v77 v78 v79 v80 v81 v82 v83 v84 v85 v86 v87 v88 v89 v90 v91 v92 v93 v94 v95 v96 v97 v98 v99 v100 v101 v102 v103 v104 v105 v106 v107 v108 v109 v110 v111 v112 v113 v114 v115 v116 v117 v118 v119 v120 v121 v122 v123 v124 v125 v126 v127 v128 v129 v130 v131 v132 v133 v134 v135
                  go_wp2_with fail
                  go_meet
                  exact ⟨rfl, rfl⟩
              · have hc : ¬ (1 : Int) < (cn : Int) := by have := HG.out.one; omega
                have K0 : ((y.x.k.toNat : Int) == 0) = false := u8_ne (b := 0) hk0
                have K1 : ((y.x.k.toNat : Int) == 1) = false := u8_ne (b := 1) hk1
                have KG : decide ((1 : Int) < (y.x.k.toNat : Int)) = true := by
                  have h0 : y.x.k.toNat ≠ 0 := fun h => hk0 (UInt8.toNat_inj.1 h)
                  have h1 : y.x.k.toNat ≠ 1 := fun h => hk1 (UInt8.toNat_inj.1 h)
                  simp; omega
                obtain rfl := HG.out.els hk0 hk1
                by_cases hf : fn = 0
                · subst hf
                  refine cs19_els0 a0 hki K0 K1 KG hc _ _ _ _ _ _ _ _ _ _ _ _ _ _ _ _ _ _ _ _ _ _ _ _ _ _ _ _ _ _ _ _ _ _ _ _ _ _ _ _ _ _ _ _ _ _ _ _ _ _ _ _ _ _ _ _ _ _ _ _ _ _ _ _ _ _ _ _ _ _ _ _ _ _ _ _ _ _ _ _ _ _ _ _ _ _ _ _ _ _ _ _ _ _ _ _ _ _ _ _ _ _ _ _ _ _ _ _ _ _ _ _ _ _ _ _ _ _ _ _ _ _ _ _ _ _ _ _ _ _ _ _ _ _ _ _ _ ?_
                  intro v65 v66 v67 v68 v69 v70 v71 v72 v73 v74 v75 v76 v77 v78 v79 v80 v81 v82 v83 v84 v85 v86 v87 v88 v89 v90 v91 v92 v93 v94 v95 v96 v97 v98 v99 v100 v101 v102 v103 v104 v105 v106 v107 v108 v109 v110 v111 v112 v113 v114 v115 v116 v117 v118 v119 v120 v121 v122 v123 v124 v125 v126 v127 v128 v129 v130 v131 v132 v133 v134 v135
                  go_wp2_with fail
                  go_meet
                  exact ⟨rfl, rfl⟩
                · have F0 : ((fn : Int) == 0) = false := by rw [beq_eq_false_iff_ne]; omega
                  have F1 : ((fn : Int) != 0) = true := by simp; omega
                  refine cs19_els a0 hki K0 K1 KG F0 F1 hc _ _ _ _ _ _ _ _ _ _ _ _ _ _ _ _ _ _ _ _ _ _ _ _ _ _ _ _ _ _ _ _ _ _ _ _ _ _ _ _ _ _ _ _ _ _ _ _ _ _ _ _ _ _ _ _ _ _ _ _ _ _ _ _ _ _ _ _ _ _ _ _ _ _ _ _ _ _ _ _ _ _ _ _ _ _ _ _ _ _ _ _ _ _ _ _ _ _ _ _ _ _ _ _ _ _ _ _ _ _ _ _ _ _ _ _ _ _ _ _ _ _ _ _ _ _ _ _ _ _ _ _ _ _ _ _ _ ?_
                  intro v65 v66 v67 v68 v69 v70 v71 v72 v73 v74 v75 v76 v77 v78 v79 v80 v81 v82 v83 v84 v85 v86 v87 v88 v89 v90 v91 v92 v93 v94 v95 v96 v97 v98 v99 v100 v101 v102 v103 v104 v105 v106 v107 v108 v109 v110 v111 v112 v113 v114 v115 v116 v117 v118 v119 v120 v121 v122 v123 v124 v125 v126 v127 v128 v129 v130 v131 v132 v133 v134 v135
                  go_wp2_with fail
                  go_meet
                  exact ⟨rfl, rfl⟩
          obtain ⟨rfl, hw⟩ := hcut
          rw [hw]
          clear hw a0
          have KS := Lib.hid (stands16_any H.out S4 wr b Tn B5 c5 HRj.out HS1001.out HEj.out)
          rw [HN1.out] at KS
          go_wp2_with fail
          refine KS.out.mono ?_
          rintro e_ w9 ⟨rfl, hb9⟩
          have HB9 : Hid (Below w.heap.size w w9) := Lib.hid (HBj.out.trans (hb9.mono HBj.out.size))
          have HR9 := Lib.hid (H.out.next HRj.out hb9)
          clear hb9 KS HBj HRj HEj
          go_wp2
          go_roundw
          case rel => exact ⟨k + 1, Tn, S4, by have := HLT.out; omega, by go_num, HR9, HSM4, HSW4, HB9⟩
          case measure => have := HLT.out; simp [intOf]; omega
    · obtain rfl : n = k := by omega
      clear hlt hk
      go_wp2_with fail
      refine (KW.out _).mono ?_
      rintro e_ w3 ⟨rfl, hb3⟩
      have HB3 : Hid (Below w.heap.size w w3) := Lib.hid (HB.out.trans (hb3.mono HB.out.size))
      clear hb3 HB
      go_wp2
      go_ret
      exact ⟨rfl, HB3.out⟩
end Go.Proofs.Ytfdiolfelecccaa
