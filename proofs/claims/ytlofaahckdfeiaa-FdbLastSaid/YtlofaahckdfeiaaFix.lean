/- Layer 8: the law's fixed. -/
import Derived.Test.YtlofaahckdfeiaaDoes
import Derived.Test.YtlofaahckdfeiaaKit8
import Derived.BigQuiet
import Derived.Deep.QuietTactic
namespace Go.Proofs.Ytlofaahckdfeiaa
open Go.RowKit
set_option linter.unusedVariables false
set_option linter.unusedSimpArgs false
set_option maxRecDepth 100000

theorem Gro.turn {w w' w'' : World} {b : Nat} (h : Gro w w') (ht : w'.mapTurned w'' b) (hb : w.heap.size ≤ b) : Gro w w'' := by
  refine ⟨(Chg.of_grown (S := fun k => w.heap.size ≤ k) ht.grown (fun k e => .inr (by cases e; exact hb))).below (B := w.heap.size) h.size (fun k hk e => by omega) |> fun h2 => h.below.trans h2, ?_⟩
  obtain ⟨es, cl, es', cl', _, rfl⟩ := ht
  exact h.drawn
theorem kcellsQ {w : World} {g : Nat} {k : Pl} (h : Blk w g 57 #[.int .u16 k.v.toNat, .int .u8 k.m.a.toNat, .int .u8 k.m.b.toNat, .int .u8 k.m.c.toNat, .int .u8 k.m.d.toNat, .int .u8 k.m.e.toNat, .int .u8 k.m.f.toNat]) : w.cell? ⟨g, 0, none⟩ = some (.int .u16 k.v.toNat) ∧ w.cell? ⟨g, 1, none⟩ = some (.int .u8 k.m.a.toNat) ∧ w.cell? ⟨g, 2, none⟩ = some (.int .u8 k.m.b.toNat) ∧ w.cell? ⟨g, 3, none⟩ = some (.int .u8 k.m.c.toNat) ∧ w.cell? ⟨g, 4, none⟩ = some (.int .u8 k.m.d.toNat) ∧ w.cell? ⟨g, 5, none⟩ = some (.int .u8 k.m.e.toNat) ∧ w.cell? ⟨g, 6, none⟩ = some (.int .u8 k.m.f.toNat) :=
  ⟨h.cell 0, h.cell 1, h.cell 2, h.cell 3, h.cell 4, h.cell 5, h.cell 6⟩
def allB (S : List (Pl × UInt8)) : List (Pl × Bool) := S.map fun x => (x.1, true)
theorem allB_has (S : List (Pl × UInt8)) (k : Pl) : shas (allB S) k = shas S k := by
  unfold shas allB
  rw [List.any_map]
  rfl
theorem allB_len (S : List (Pl × UInt8)) : (allB S).length = S.length := by simp [allB]
theorem allB_get (S : List (Pl × UInt8)) (k : Pl) : (sget (allB S) k).getD false = shas S k := by
  unfold sget allB shas
  induction S with
  | nil => rfl
  | cons x S ih =>
    rw [List.map_cons, List.find?_cons, List.any_cons]
    by_cases h : x.1 = k
    · simp [h]
    · simp only [h, decide_false, Bool.false_or]
      exact ih
theorem allB_put (S : List (Pl × UInt8)) (k : Pl) (s : UInt8) : sput (allB S) k true = allB (sput S k s) := by
  unfold sput
  rw [allB_has]
  split
  · unfold allB
    rw [List.map_map, List.map_map]
    apply List.map_congr_left
    intro x _
    simp only [Function.comp]
    split <;> rfl
  · simp [allB]
theorem allB_del (S : List (Pl × UInt8)) (k : Pl) : sdel (allB S) k = allB (sdel S k) := by
  unfold sdel allB
  rw [List.filter_map]
  rfl
theorem allB_nd {S : List (Pl × UInt8)} (h : Nd S) : Nd (allB S) := by
  unfold Nd allB at *
  rw [List.pairwise_map]
  exact h
theorem sdel_none {S : List (Pl × UInt8)} {k : Pl} (h : shas S k = false) : sdel S k = S := by
  unfold sdel
  rw [List.filter_eq_self]
  intro x hx
  unfold shas at h
  have := List.any_eq_false.1 h x hx
  simpa using this
/-- what else holds of the static ones -/
theorem statics_run (l : List Ac) : Nd (runA l).2 ∧ (runA l).2.length ≤ 16 := by
  unfold runA
  have h : ∀ (l : List Ac) (z : Zt), Nd z.2 → z.2.length ≤ 16 → Nd (l.foldl stp z).2 ∧ (l.foldl stp z).2.length ≤ 16 := by
    intro l
    induction l with
    | nil => intro z h1 h2; exact ⟨h1, h2⟩
    | cons a l ih =>
      intro z h1 h2
      have hs : Nd (stp z a).2 ∧ (stp z a).2.length ≤ 16 := by
        by_cases d0 : a.d = 0
        · rw [stp0 d0]; exact ⟨h1, h2⟩
        by_cases d1 : a.d = 1
        · rw [stp1 d1]; exact ⟨h1, h2⟩
        by_cases d2 : a.d = 2
        · rw [stp2 d2]
          show Nd (setS z.2 a.k a.s) ∧ (setS z.2 a.k a.s).length ≤ 16
          unfold setS
          by_cases hs : sete z.2 a.k = 0
          · rw [if_pos hs]
            refine ⟨h1.put _ _, sput_le ?_ h2⟩
            unfold sete at hs
            by_cases h0 : okVid a.k.v = true
            · rw [if_pos h0] at hs
              by_cases h3 : shas z.2 a.k = false ∧ 16 ≤ z.2.length
              · rw [if_pos h3] at hs; cases hs
              · cases h4 : shas z.2 a.k with
                | true => exact .inl rfl
                | false => exact .inr (by have : ¬ 16 ≤ z.2.length := fun h => h3 ⟨h4, h⟩; omega)
            · rw [if_neg h0] at hs; cases hs
          · rw [if_neg hs]; exact ⟨h1, h2⟩
        by_cases d3 : a.d = 3
        · rw [stp3 d3]
          show Nd (dropS z.2 a.k) ∧ (dropS z.2 a.k).length ≤ 16
          unfold dropS
          split
          · exact ⟨h1.del _, Nat.le_trans (List.length_filter_le _ _) h2⟩
          · exact ⟨h1, h2⟩
        rw [stp4 d0 d1 d2 d3]; exact ⟨h1, h2⟩
      exact ih _ hs.1 hs.2
  exact h l ([], []) List.Pairwise.nil (Nat.zero_le _)
/-- the acts, the set of what is fixed, and the place that is asked for -/
structure FxS (w0 : World) (A : Option Addr) (l : List Ac) (b gk : Nat) (k : Pl) (S : List (Pl × UInt8)) (w : World) : Prop where
  el : Els 10 encA w A l
  mp : SmapA w b (allB S)
  kb : Blk w gk 57 #[.int .u16 k.v.toNat, .int .u8 k.m.a.toNat, .int .u8 k.m.b.toNat, .int .u8 k.m.c.toNat, .int .u8 k.m.d.toNat, .int .u8 k.m.e.toNat, .int .u8 k.m.f.toNat]
  gr : Gro w0 w
  lb : w0.heap.size ≤ b
  nb : gk ≠ b
section
variable {w0 w w' : World} {A : Option Addr} {l : List Ac} {b gk : Nat} {k : Pl} {S S' : List (Pl × UInt8)}
theorem FxS.gro (h : FxS w0 A l b gk k S w) (hg : Gro w w') : FxS w0 A l b gk k S w' :=
  ⟨h.el.gro hg, h.mp.chg (Chg.of_below (S := fun _ => False) hg.below) (fun e => e), hg.blk h.kb, h.gr.trans hg, h.lb, h.nb⟩
theorem FxS.turn (h : FxS w0 A l b gk k S w) (hna : 0 < l.length → ∀ a, A = some a → a.block < w0.heap.size) (hm : SmapA w' b (allB S')) (ht : w.mapTurned w' b) : FxS w0 A l b gk k S' w' := by
  have hc : Chg (fun k => k = b) w w' := Chg.of_grown ht.grown (fun k e => .inr (by cases e; rfl))
  exact ⟨els_chg' h.el hc (fun h0 a e e2 => by have := hna h0 a e; have := h.lb; omega), hm, h.kb.chg hc h.nb, h.gr.turn ht h.lb, h.lb, h.nb⟩
end
set_option maxHeartbeats 8000000 in
theorem fixed_any (w : World) (A : Option Addr) (c : Nat) (l : List Ac) (hE : Els 10 encA w A l) (hl : l.length ≤ 300) (hna : 0 < l.length → ∀ a, A = some a → a.block < w.heap.size) (k : Pl) : Calls Try.prog 37 #[.slice A l.length c, kV k] w fun e w' => e = .returned (.bool (shas (runA l).2 k)) ∧ Gro w w' := by
  obtain ⟨w1, hw1⟩ : ∃ w1, w.alloc (.cells #[.int .u16 k.v.toNat, .int .u8 k.m.a.toNat, .int .u8 k.m.b.toNat, .int .u8 k.m.c.toNat, .int .u8 k.m.d.toNat, .int .u8 k.m.e.toNat, .int .u8 k.m.f.toNat] 57) = w1 := ⟨_, rfl⟩
  obtain ⟨gk, hgk⟩ : ∃ g, w.heap.size = g := ⟨_, rfl⟩
  have hG1 : Gro w w1 := by rw [← hw1]; exact (Gro.refl w).alloc _
  have hB1 : Blk w1 gk 57 #[.int .u16 k.v.toNat, .int .u8 k.m.a.toNat, .int .u8 k.m.b.toNat, .int .u8 k.m.c.toNat, .int .u8 k.m.d.toNat, .int .u8 k.m.e.toNat, .int .u8 k.m.f.toNat] := by rw [← hw1, ← hgk]; exact Blk.new w _ _
  obtain ⟨b, hb⟩ : ∃ b, w1.heap.size = b := ⟨_, rfl⟩
  obtain ⟨w2, hw2⟩ : ∃ w2, w1.alloc (.map #[] 0) = w2 := ⟨_, rfl⟩
  have hG2 : Gro w1 w2 := by rw [← hw2]; exact (Gro.refl _).alloc _
  have HS0 : Hid (FxS w A l b gk k (runA (l.take 0)).2 w2) := Lib.hid ⟨(hE.gro hG1).gro hG2, by rw [← hw2, ← hb]; exact SmapA.made w1, hG2.blk hB1, hG1.trans hG2, by rw [← hb]; exact hG1.size, by have := hB1.lt; omega⟩
  have HNA := Lib.hid hna
  obtain ⟨n, hn⟩ : ∃ n, l.length = n := ⟨_, rfl⟩
  have HN := Lib.hid hn
  have hmm := @run_makeMap Try.prog
  rw [hn] at hl ⊢
  clear hn hE hna hG1 hB1 hG2
  go_enter Try.func37, Try.ntmps37
  go_upto_region 2 with fail
  clear hw1 hgk hb hw2 hmm
  go_wp2_with fail
  go_loopw [6] (fun i wr => ∃ j : Nat, j ≤ n ∧ i = .int .i64 j ∧ Hid (FxS w A l b gk k (runA (l.take j)).2 wr)) (fun i _ => n - (intOf i).toNat)
  case atStart => exact ⟨0, Nat.zero_le _, rfl, HS0⟩
  case round =>
    clear HS0
    obtain ⟨j, hj, rfl, HK⟩ := hrel
    by_cases hlt : j < n
    · obtain ⟨a, ha⟩ : ∃ a, l[j]? = some a := ⟨_, List.getElem?_eq_getElem (by rw [HN.out]; exact hlt)⟩
      obtain ⟨ba, off, rfl, hcl⟩ := els_act HK.out.el ha
      have HLD := Lib.hid hcl
      have HRT := Lib.hid (run_take ha)
      have hji : (j : Int) < n := by omega
      have e0 := hcl 0 _ rfl
      have e1 := hcl 1 _ rfl
      have e2 := hcl 2 _ rfl
      have e3 := hcl 3 _ rfl
      have e4 := hcl 4 _ rfl
      have e5 := hcl 5 _ rfl
      have e6 := hcl 6 _ rfl
      have e7 := hcl 7 _ rfl
      simp only [Nat.add_zero] at e0
      clear hcl ha
      have hz := fun (v : Value) (i : Nat) (h : wr.cell? ⟨ba, i, none⟩ = some v) => (Lib.cell?_alloc_some (W := wr) (.cells #[.int .u16 0, .int .u8 0, .int .u8 0, .int .u8 0, .int .u8 0, .int .u8 0, .int .u8 0] 57) h)
      have z1 := hz _ _ e1
      have z2 := hz _ _ e2
      have z3 := hz _ _ e3
      have z4 := hz _ _ e4
      have z5 := hz _ _ e5
      have z6 := hz _ _ e6
      have z7 := hz _ _ e7
      clear hz
      go_upto_region 5 with fail
      go_cut [7] (fun t wx => t = .pointer (some ⟨wr.heap.size, 0, none⟩) ∧ wx = (wr.alloc (.cells #[.int .u16 a.k.v.toNat, .int .u8 a.k.m.a.toNat, .int .u8 a.k.m.b.toNat, .int .u8 a.k.m.c.toNat, .int .u8 a.k.m.d.toNat, .int .u8 a.k.m.e.toNat, .int .u8 a.k.m.f.toNat] 57)).drew)
      case first =>
        go_region_law (fail)
        all_goals (
          go_wp2_with fail
          try go_meet
          exact ⟨rfl, rfl⟩)
      obtain ⟨ht7, hwc⟩ := hcut
      obtain ⟨g7, hg7⟩ : ∃ g, wr.heap.size = g := ⟨_, rfl⟩
      rw [hg7] at ht7
      subst ht7
      have hgw : Gro wr wc := by rw [hwc]; exact ((Gro.refl wr).alloc _).drew
      have HK7 := Lib.hid (HK.out.gro hgw)
      have HB7 := Lib.hid (show Blk wc g7 57 #[.int .u16 a.k.v.toNat, .int .u8 a.k.m.a.toNat, .int .u8 a.k.m.b.toNat, .int .u8 a.k.m.c.toNat, .int .u8 a.k.m.d.toNat, .int .u8 a.k.m.e.toNat, .int .u8 a.k.m.f.toNat] by rw [hwc, ← hg7]; exact Blk.new wr _ _)
      have HNB : Hid (g7 ≠ b) := Lib.hid (by have := HK.out.mp.lt; omega)
      have hb := hgw
      have f0 := (hgw.below.cell (World.block_lt_of_cell? wr _ e0)).trans e0
      have f1 := (hgw.below.cell (World.block_lt_of_cell? wr _ e1)).trans e1
      clear hwc hg7 hgw hb e0 e1 e2 e3 e4 e5 e6 e7 z1 z2 z3 z4 z5 z6 z7 HK HLD
      obtain ⟨y, hy⟩ : ∃ y, a.d.toNat = y := ⟨_, rfl⟩
      have HY := Lib.hid hy
      rw [hy] at f0
      clear hy
      obtain ⟨S, hS⟩ : ∃ S, (runA (l.take j)).2 = S := ⟨_, rfl⟩
      have HSS := Lib.hid hS
      have HST := Lib.hid (statics_run (l.take j))
      rw [hS] at HST HK7
      clear hS
      have HL := Lib.hid (SVA.run (mb := some b) HK7.out.mp a.k false)
      have HLN := Lib.hid (fun ty => SVA.len (mb := some b) HK7.out.mp ty)
      rw [allB_get] at HL
      rw [allB_len] at HLN
      obtain ⟨p0, p1, p2, p3, p4, p5, p6⟩ := kcellsQ HB7.out
      have hn16 := HST.out.2
      by_cases h2 : y = 2
      · have HD2 := Lib.hid (stp2 (z := runA (l.take j)) (d_is HY.out (by rw [h2]; rfl)))
        subst h2
        cases hok : okVid a.k.v with
        | false =>
          have HNX : Hid ((runA (l.take (j + 1))).2 = S) := Lib.hid (by rw [HRT.out, HD2.out]; show setS _ _ _ = S; unfold setS sete; rw [HSS.out, hok]; rfl)
          have hv := okVid_no hok
          clear hok
          by_cases hv1 : a.k.v.toNat < 1
          · have i1 : ¬ (1 : Int) ≤ (a.k.v.toNat : Int) := by omega
            clear hv hv1
            go_wp2_with fail
            go_roundw
            case rel => exact ⟨j + 1, by omega, by go_num, Lib.hid (by rw [HNX.out]; exact HK7.out)⟩
            case measure => simp [intOf]; omega
          · have i1 : (1 : Int) ≤ (a.k.v.toNat : Int) := by omega
            have i2 : ¬ (a.k.v.toNat : Int) ≤ 4094 := by omega
            clear hv hv1
            go_wp2_with fail
            go_roundw
            case rel => exact ⟨j + 1, by omega, by go_num, Lib.hid (by rw [HNX.out]; exact HK7.out)⟩
            case measure => simp [intOf]; omega
        | true =>
          have i1 : (1 : Int) ≤ (a.k.v.toNat : Int) := by have := okVid_yes hok; omega
          have i2 : (a.k.v.toNat : Int) ≤ 4094 := by have := okVid_yes hok; omega
          by_cases hfull : shas S a.k = false ∧ 16 ≤ S.length
          · have HNX : Hid ((runA (l.take (j + 1))).2 = S) := Lib.hid (by rw [HRT.out, HD2.out]; show setS _ _ _ = S; unfold setS sete; rw [HSS.out, if_pos hok, if_pos hfull]; rfl)
            have hlk := HL.out
            rw [hfull.1] at hlk
            simp only [Bool.false_eq_true, if_false] at hlk
            have hln := HLN.out
            have i3 : ¬ ((S.length : Nat) : Int) < 16 := by have := hfull.2; omega
            clear hok hfull
            go_wp2_with fail
            go_roundw
            case rel => exact ⟨j + 1, by omega, by go_num, Lib.hid (by rw [HNX.out]; exact HK7.out)⟩
            case measure => simp [intOf]; omega
          · have HNX : Hid ((runA (l.take (j + 1))).2 = sput S a.k a.s) := Lib.hid (by rw [HRT.out, HD2.out]; show setS _ _ _ = _; unfold setS sete; rw [HSS.out, if_pos hok, if_neg hfull]; rfl)
            have hlk := HL.out
            simp only [Bool.false_eq_true, if_false] at hlk
            have hln := HLN.out
            obtain ⟨w8, hput, hm8, ht8⟩ := SmapA.put HK7.out.mp (by rw [allB_len]; unfold maxLen; omega) a.k true
            rw [allB_put S a.k a.s] at hm8
            have HK8 := Lib.hid (HK7.out.turn HNA.out hm8 ht8)
            have hc8 : Chg (fun k => k = b) wc w8 := Chg.of_grown ht8.grown (fun k e => .inr (by cases e; rfl))
            have hbab : ba ≠ b := by
              have h1 := HNA.out (by rw [HN.out]; omega) _ rfl
              have h2 := HK7.out.lb
              have h3 : ba < w.heap.size := h1
              omega
            have f0' := (World.cell?_of_block (w := wc) (a := ⟨ba, off + j * 10, none⟩) (hc8.block ba (World.block_lt_of_cell? wc _ f0) hbab)).trans f0
            clear hok hm8 ht8 hc8 hbab
            cases hsh : shas S a.k with
            | true =>
              rw [hsh] at hlk
              clear hfull hsh
              go_wp2_with fail
              go_roundw
              case rel => exact ⟨j + 1, by omega, by go_num, Lib.hid (by rw [HNX.out]; exact HK8.out)⟩
              case measure => simp [intOf]; omega
            | false =>
              rw [hsh] at hlk
              have i3 : ((S.length : Nat) : Int) < 16 := by
                have : ¬ 16 ≤ S.length := fun h => hfull ⟨hsh, h⟩
                omega
              clear hfull hsh
              go_wp2_with fail
              go_roundw
              case rel => exact ⟨j + 1, by omega, by go_num, Lib.hid (by rw [HNX.out]; exact HK8.out)⟩
              case measure => simp [intOf]; omega
      by_cases h3 : y = 3
      · have HD3 := Lib.hid (stp3 (z := runA (l.take j)) (d_is HY.out (by rw [h3]; rfl)))
        subst h3
        have HNX : Hid ((runA (l.take (j + 1))).2 = sdel S a.k) := Lib.hid (by
          rw [HRT.out, HD3.out]
          show dropS _ _ = _
          rw [HSS.out]
          unfold dropS
          by_cases h0 : drope S a.k = 0
          · rw [if_pos h0]
          · rw [if_neg h0]
            refine (sdel_none ?_).symm
            cases hsh : shas S a.k with
            | false => rfl
            | true =>
              refine absurd ?_ h0
              have hin : ∃ x ∈ S, x.1 = a.k := by
                unfold shas at hsh
                obtain ⟨x, hx, hk⟩ := List.any_eq_true.1 hsh
                exact ⟨x, hx, by simpa using hk⟩
              obtain ⟨x, hx, hk⟩ := hin
              have hok := (Inv.run (l.take j)).ok x (by rw [HSS.out]; exact hx)
              rw [hk] at hok
              unfold drope
              rw [if_pos hok, if_pos hsh])
        obtain ⟨w8, hdel, hm8, ht8⟩ := SmapA.del HK7.out.mp (allB_nd HST.out.1) a.k 0
        rw [allB_del] at hm8
        have HK8 := Lib.hid (HK7.out.turn HNA.out hm8 ht8)
        clear hm8 ht8
        go_wp2_with fail
        go_roundw
        case rel => exact ⟨j + 1, by omega, by go_num, Lib.hid (by rw [HNX.out]; exact HK8.out)⟩
        case measure => simp [intOf]; omega
      have HNX : Hid ((runA (l.take (j + 1))).2 = S) := Lib.hid (by
        rw [HRT.out]
        by_cases d0 : a.d = 0
        · rw [stp0 d0]; exact HSS.out
        by_cases d1 : a.d = 1
        · rw [stp1 d1]; exact HSS.out
        rw [stp4 d0 d1 (d_not (by rw [HY.out]; exact h2) rfl) (d_not (by rw [HY.out]; exact h3) rfl)]
        exact HSS.out)
      have b2 : ((y : Int) == 2) = false := beq_eq_false_iff_ne.2 (by omega)
      have b3 : ((y : Int) == 3) = false := beq_eq_false_iff_ne.2 (by omega)
      clear h2 h3
      go_wp2_with fail
      go_roundw
      case rel => exact ⟨j + 1, by omega, by go_num, Lib.hid (by rw [HNX.out]; exact HK7.out)⟩
      case measure => simp [intOf]; omega
    · obtain rfl : j = n := by omega
      have HT : Hid (l.take j = l) := Lib.hid (List.take_of_length_le (by rw [HN.out]; exact Nat.le_refl _))
      rw [HT.out] at HK
      have HL := Lib.hid (SVA.run (mb := some b) HK.out.mp k false)
      rw [allB_get] at HL
      obtain ⟨p0, p1, p2, p3, p4, p5, p6⟩ := kcellsQ HK.out.kb
      obtain ⟨r, hr⟩ : ∃ r, shas (runA l).2 k = r := ⟨_, rfl⟩
      have HRR := Lib.hid hr
      have hlk := HL.out
      rw [hr] at hlk
      simp only [Bool.false_eq_true, if_false] at hlk
      clear hr
      go_wp2
      go_ret
      exact ⟨ret_ (congrArg Value.bool (by rw [HRR.out])), HK.out.gr⟩
end Go.Proofs.Ytlofaahckdfeiaa
