/- Layer 9: choose. -/
import Derived.Test.YtlpmilaofcakbaaTw5
namespace Go.Proofs.Ytlpmilaofcakbaa
open Go.RowKit Go.Shelf
open Go.Sort (grow)
set_option linter.unusedVariables false
set_option linter.unusedSimpArgs false
set_option maxRecDepth 100000

theorem mapIdxi_succ {α : Type} (l : List α) (f : Nat → α → α) (k : Nat) (hk : k < l.length) : (l.mapIdx fun i p => if i < k + 1 then f i p else p) = (l.mapIdx fun i p => if i < k then f i p else p).set k (f k l[k]) := by
  apply List.ext_getElem?
  intro j
  rw [List.getElem?_set, List.getElem?_mapIdx, List.getElem?_mapIdx]
  by_cases e : k = j
  · subst e
    simp [hk]
  · rw [if_neg e]
    cases l[j]? with
    | none => rfl
    | some x =>
      simp only [Option.map_some, Option.some.injEq]
      by_cases h : j < k
      · rw [if_pos h, if_pos (by omega)]
      · rw [if_neg h, if_neg (by omega)]
theorem mapIdxi_zero {α : Type} (l : List α) (f : Nat → α → α) : (l.mapIdx fun i p => if i < 0 then f i p else p) = l := by
  apply List.ext_getElem?
  intro j
  rw [List.getElem?_mapIdx]
  cases l[j]? <;> simp
theorem mapIdxi_all {α : Type} (l : List α) (f : Nat → α → α) (k : Nat) (hk : l.length ≤ k) : (l.mapIdx fun i p => if i < k then f i p else p) = l.mapIdx f := by
  apply List.ext_getElem?
  intro j
  rw [List.getElem?_mapIdx, List.getElem?_mapIdx]
  cases h : l[j]? with
  | none => rfl
  | some x =>
    have := (List.getElem?_eq_some_iff.1 h).1
    simp only [Option.map_some, Option.some.injEq]
    rw [if_pos (by omega)]
theorem Chg.trans' {S : Nat → Prop} {w w' w'' : World} (h : Chg S w w') (h' : Chg S w' w'') : Chg S w w'' := h.trans h'
/-- settled, of the first k ports -/
def Mch.settleTo (M : Mch) (k : Nat) : Mch := { M with ps := M.ps.mapIdx fun i p => if i < k then { p with ag := p.ag && (M.roleOf i p == 2) } else p }
theorem Mch.settleTo_zero (M : Mch) : M.settleTo 0 = M := by
  unfold Mch.settleTo
  rw [mapIdxi_zero M.ps fun i p => { p with ag := p.ag && (M.roleOf i p == 2) }]
theorem Mch.settleTo_all (M : Mch) : M.settleTo M.ps.length = M.settle := by
  unfold Mch.settleTo Mch.settle
  rw [mapIdxi_all M.ps (fun i p => { p with ag := p.ag && (M.roleOf i p == 2) }) _ (Nat.le_refl _)]
theorem Mch.settleTo_len (M : Mch) (k : Nat) : (M.settleTo k).ps.length = M.ps.length := by simp [Mch.settleTo]
theorem Mch.settleTo_port (M : Mch) (k : Nat) (hk : k < M.ps.length) : (M.settleTo k).port k = M.port k := by
  simp [Mch.settleTo, Mch.port, List.getD_eq_getElem?_getD, List.getElem?_mapIdx, hk]
theorem Mch.settleTo_succ (M : Mch) (k : Nat) (hk : k < M.ps.length) : M.settleTo (k + 1) = (M.settleTo k).setP k { M.port k with ag := (M.port k).ag && (M.role k == 2) } := by
  have h1 := mapIdxi_succ M.ps (fun i p => { p with ag := p.ag && (M.roleOf i p == 2) }) k hk
  rw [Mch.port_at hk] at h1
  have e : M.role k = M.roleOf k (M.port k) := by unfold Mch.role; rw [if_pos hk]
  rw [e]
  unfold Mch.settleTo Mch.setP
  simp only [h1]
theorem Mch.settleTo_role (M : Mch) (k : Nat) (hk : k < M.ps.length) : (M.settleTo k).role k = M.role k := by
  unfold Mch.role
  rw [Mch.settleTo_len, if_pos hk, if_pos hk, Mch.settleTo_port M k hk]
  rfl
/-- two ways are held against each other -/
theorem run_eqWay (a b c x y z : Int) (w : World) : (Op.equalIn 10000 88 (.agg #[.int .u64 a, .int .u32 b, .int .u8 c]) (.agg #[.int .u64 x, .int .u32 y, .int .u8 z])).run Try.prog w = .ok (decide (a = x ∧ b = y ∧ c = z)) w := by
  have u8 := Try.underlying5
  have u32 := Try.underlying33
  have u64 := Try.underlying22
  have h0 := run_equalIn_int (P := Try.prog) w 9998 22 .u64 .u64 a x u64
  have h1 := run_equalIn_int (P := Try.prog) w 9998 33 .u32 .u32 b y u32
  have h2 := run_equalIn_int (P := Try.prog) w 9998 5 .u8 .u8 c z u8
  have hall : decide (a = x ∧ b = y ∧ c = z) = ((a == x) && ((b == y) && ((c == z) && true))) := by
    rw [Bool.eq_iff_iff]
    simp
  rw [run_equalIn_struct w 9999 88 _ _ (by rw [Program.fieldsOf, Try.underlying88]) (by kernel_rfl)]
  simp only [Program.fieldsOf, Try.underlying88]
  rw [hall]
  refine eqs_step (by decide) (by kernel_rfl) (by kernel_rfl) h0 ?_
  refine eqs_step (by decide) (by kernel_rfl) (by kernel_rfl) h1 ?_
  refine eqs_step (by decide) (by kernel_rfl) (by kernel_rfl) h2 ?_
  exact eqs_nil
theorem Mch.put_fits {M : Mch} (h : M.fits) : M.put.fits := ⟨h.n8, h.vc, h.cost, h.hops, h.la, h.sp, h.fl⟩
set_option maxRecDepth 100000 in
set_option maxHeartbeats 4000000 in
theorem choose_any {w : World} {g : Nat} {M : Mch} (hM : MaP w g M) (hF : M.fits) :
    Calls Try.prog 36 #[.pointer (some ⟨g, 0, none⟩)] w fun e w' => e = .returned (.tuple #[]) ∧ MaP w' g M.choose ∧ Chg (· = g) w w' := by
  obtain ⟨n, hn⟩ : ∃ n, M.ps.length = n := ⟨_, rfl⟩
  have h8 : n ≤ 8 := by rw [← hn]; exact hF.n8
  have HF := Lib.hid hF
  have HM := Lib.hid hM
  have HN := Lib.hid hn
  have H := hM.hd hF.n8
  have c130 := H.c130
  have c131 := H.c131
  have c132 := H.c132
  clear hF hM hn H
  go_enter Try.func36, Try.ntmps36
  go_upto_region 1 with fail
  have HA := Lib.hid ((Below.refl w.heap.size w).alloc (Nat.le_refl _) (.cells #[.int .u64 M.root, .int .u32 M.cost, .int .u8 M.inn] 88))
  have HB := Lib.hid (Blk.new w 88 #[.int .u64 M.root, .int .u32 M.cost, .int .u8 M.inn])
  obtain ⟨b, hb⟩ : ∃ b, w.heap.size = b := ⟨_, rfl⟩
  obtain ⟨wa, hwa⟩ : ∃ wa, w.alloc (.cells #[.int .u64 M.root, .int .u32 M.cost, .int .u8 M.inn] 88) = wa := ⟨_, rfl⟩
  rw [hwa, hb] at HB
  rw [hwa] at HA
  have HW := Lib.hid (And.intro hwa hb)
  clear hb hwa
  rw [HW.out.1, HW.out.2]
  have HMa := Lib.hid (HM.out.next HA.out)
  have HL : Hid (g ≠ b) := Lib.hid (by have := HM.out.lt; have := HW.out.2; omega)
  clear HW c130 c131 c132
  go_wp2_with fail
  refine (best_any HMa.out HF.out).mono ?_
  rintro e w1 ⟨rfl, hbl⟩
  have HM1 := Lib.hid (HMa.out.next hbl)
  have HB1 := Lib.hid (HB.out.below hbl HB.out.lt)
  have HC1 : Hid (Chg (· = g) w w1) := Lib.hid (Chg.of_below (HA.out.trans (hbl.mono HA.out.size)))
  clear hbl HMa HB
  have H := HM1.out.hd HF.out.n8
  have c130 := H.c130
  have c131 := H.c131
  have c132 := H.c132
  have c133 := H.c133
  have f := fun i => HM1.out.fz i
  clear H
  have HM2 := Lib.hid ((((HM1.out.putT HF.out.n8 0 (.int .u64 M.bRoot) { M with root := M.bRoot } rfl rfl rfl).putT HF.out.n8 1 (.int .u32 M.bCost) { M with root := M.bRoot, cost := M.bCost } rfl rfl rfl).putT HF.out.n8 2 (.int .u8 M.bIn) { M with root := M.bRoot, cost := M.bCost, inn := M.bIn } rfl rfl rfl).putT HF.out.n8 3 (.int .u8 M.bHops) M.put rfl rfl rfl)
  have HC2 := Lib.hid ((((HC1.out.setCell (p := ⟨g, 130, none⟩) (.inr rfl) (.int .u64 M.bRoot)).setCell (p := ⟨g, 131, none⟩) (.inr rfl) (.int .u32 M.bCost)).setCell (p := ⟨g, 132, none⟩) (.inr rfl) (.int .u8 M.bIn)).setCell (p := ⟨g, 133, none⟩) (.inr rfl) (.int .u8 M.bHops))
  have HB2 := Lib.hid (Blk.far (Blk.far (Blk.far (Blk.far HB1.out (p := ⟨g, 130, none⟩) (Ne.symm HL.out) (.int .u64 M.bRoot)) (p := ⟨g, 131, none⟩) (Ne.symm HL.out) (.int .u32 M.bCost)) (p := ⟨g, 132, none⟩) (Ne.symm HL.out) (.int .u8 M.bIn)) (p := ⟨g, 133, none⟩) (Ne.symm HL.out) (.int .u8 M.bHops))
  obtain ⟨w2, hw2⟩ : ∃ w2, (((w1.setCell ⟨g, 130, none⟩ (.int .u64 M.bRoot)).setCell ⟨g, 131, none⟩ (.int .u32 M.bCost)).setCell ⟨g, 132, none⟩ (.int .u8 M.bIn)).setCell ⟨g, 133, none⟩ (.int .u8 M.bHops) = w2 := ⟨_, rfl⟩
  have HW2 := Lib.hid hw2
  simp only [Nat.add_zero, Nat.reduceAdd] at HM2
  rw [hw2] at HM2 HC2 HB2
  clear hw2
  go_upto_region 2 with fail
  rw [HW2.out]
  clear HW2 c130 c131 c132 c133 f HM1 HB1 HC1
  have H := HM2.out.hd HF.out.n8
  have c130 := H.c130
  have c131 := H.c131
  have c132 := H.c132
  have b0 := HB2.out.cell 0
  have b1 := HB2.out.cell 1
  have b2 := HB2.out.cell 2
  have e1 : M.put.root = M.bRoot := rfl
  have e2 : M.put.cost = M.bCost := rfl
  have e3 : M.put.inn = M.bIn := rfl
  rw [e1] at c130
  rw [e2] at c131
  rw [e3] at c132
  obtain ⟨q, hq⟩ : ∃ q, M.sameWay = q := ⟨_, rfl⟩
  have heq : ∀ w, (Op.equalIn 10000 88 (.agg #[.int .u64 M.bRoot, .int .u32 M.bCost, .int .u8 M.bIn]) (.agg #[.int .u64 M.root, .int .u32 M.cost, .int .u8 M.inn])).run Try.prog w = .ok q w := fun w => by
    rw [run_eqWay, ← hq]; rfl
  have HQ := Lib.hid hq
  clear hq H e1 e2 e3
  cases q with
  | true =>
    go_wp2_with fail
    go_quiet (fail)
    clear c130 c131 c132 b0 b1 b2 heq
    obtain ⟨N, hN⟩ : ∃ N, M.put = N := ⟨_, rfl⟩
    have HNN : Hid (N.ps.length = n ∧ N.settle = M.choose) := Lib.hid ⟨by rw [← hN]; exact HN.out, by rw [← hN]; unfold Mch.choose; rw [HQ.out]; rfl⟩
    have HN3 : Hid (MaP (w2.drewN nq) g N) := Lib.hid (by rw [← hN]; exact HM2.out)
    have HC3 : Hid (Chg (· = g) w (w2.drewN nq)) := Lib.hid (HC2.out.drewN _)
    clear hN HM2 HC2 HB2
    generalize w2.drewN nq = w3 at *
    have c1 := (HN3.out.hd (by rw [HNN.out.1]; exact h8)).c1
    rw [HNN.out.1] at c1
    go_wp2_with fail
    clear c1
    go_loopw [31] (fun i wr => ∃ k : Nat, k ≤ n ∧ i = .int .u8 k ∧ Hid (MaP wr g (N.settleTo k)) ∧ Hid (Chg (· = g) w wr)) (fun i _ => n - (intOf i).toNat)
    case atStart => exact ⟨0, Nat.zero_le _, rfl, Lib.hid (by rw [Mch.settleTo_zero]; exact HN3.out), HC3⟩
    case round =>
      obtain ⟨k, hk, rfl, hS, hC⟩ := hrel
      by_cases hlt : k < n
      · have hk8 : k < 8 := by omega
        have hk8' : (k : Int) < 8 := by omega
        have hlt' : k < N.ps.length := by rw [HNN.out.1]; exact hlt
        have h8' : (N.settleTo k).ps.length ≤ 8 := by rw [Mch.settleTo_len, HNN.out.1]; exact h8
        have kR := role_any (i := k) hS.out h8'
        rw [Mch.settleTo_role N k hlt'] at kR
        obtain ⟨r, hr⟩ : ∃ r, N.role k = r := ⟨_, rfl⟩
        rw [hr] at kR
        have HS := N.settleTo_succ k hlt'
        rw [hr] at HS
        have HSS := Lib.hid HS
        have hpp := Mch.settleTo_port N k hlt'
        have HPP := Lib.hid (And.intro hpp (And.intro hlt' h8'))
        clear hr HS hpp h8'
        go_wp2_with fail
        refine kR.mono ?_
        rintro e w4 ⟨rfl, hg⟩
        have HM4 := Lib.hid (hS.out.gro hg)
        have HC4 : Hid (Chg (· = g) w w4) := Lib.hid (hC.out.trans' (Chg.of_below hg.below))
        clear hg hS hC kR
        by_cases h2 : r = 2
        · subst h2
          have HM5 : Hid (MaP w4 g (N.settleTo (k + 1))) := Lib.hid (by
            have e : (N.settleTo k).setP k { N.port k with ag := (N.port k).ag && ((2 : Nat) == 2) } = N.settleTo k := by
              have e2 : ({ N.port k with ag := (N.port k).ag && ((2 : Nat) == 2) } : Sd) = (N.settleTo k).port k := by rw [HPP.out.1]; simp
              rw [e2]
              exact Mch.setP_self _ (by rw [Mch.settleTo_len]; exact HPP.out.2.1)
            rw [HSS.out, e]
            exact HM4.out)
          clear hlt'
          go_wp2_with fail
          go_roundw
          case rel => exact ⟨k + 1, by omega, by go_num, HM5, HC4⟩
          case measure => simp [intOf]; omega
        · have d2 : ((r : Int) == 2) = false := by simp; omega
          have d2' : ((r : Int) != 2) = true := by simp; omega
          have s14 := (HM4.out.sd (i := k) HPP.out.2.2 (by rw [Mch.settleTo_len]; exact hlt')).c14
          have f14 := HM4.out.fz (2 + k * 16 + 14)
          have HM5 : Hid (MaP (w4.setCell ⟨g, 2 + k * 16 + 14, none⟩ (.bool false)) g (N.settleTo (k + 1))) := Lib.hid (by
            rw [HSS.out]
            refine HM4.out.put HPP.out.2.2 (by rw [Mch.settleTo_len]; exact hlt') 14 (by omega) (.bool false) _ ?_
            rw [HPP.out.1]
            have e : ((r : Nat) == 2) = false := by simpa using h2
            rw [e, Bool.and_false]
            rfl)
          have HC5 : Hid (Chg (· = g) w (w4.setCell ⟨g, 2 + k * 16 + 14, none⟩ (.bool false))) := Lib.hid (HC4.out.setCell (p := ⟨g, 2 + k * 16 + 14, none⟩) (.inr rfl) _)
          clear h2 hlt'
          go_wp2_with fail
          go_roundw
          case rel => exact ⟨k + 1, by omega, by go_num, HM5, HC5⟩
          case measure => simp [intOf]; omega
      · obtain rfl : k = n := by omega
        have HE : Hid (MaP wr g M.choose) := Lib.hid (by
          have := hS.out
          rw [← HNN.out.1, Mch.settleTo_all, HNN.out.2] at this
          exact this)
        clear hS hlt
        go_wp2
        go_end0
        exact ⟨rfl, HE.out, hC.out⟩
  | false =>
    go_wp2_with fail
    go_quiet (fail)
    clear c130 c131 c132 b0 b1 b2 heq
    go_wp2_with fail
    refine (change_any (w := w2.drewN nq) HM2.out HF.out.n8 HF.out.fl).mono ?_
    rintro e w3 ⟨rfl, hM3, hc3⟩
    obtain ⟨N, hN⟩ : ∃ N, M.put.change = N := ⟨_, rfl⟩
    have HNN : Hid (N.ps.length = n ∧ N.settle = M.choose) := Lib.hid ⟨by rw [← hN]; unfold Mch.change; rw [List.length_map]; exact HN.out, by rw [← hN]; unfold Mch.choose; rw [HQ.out]; rfl⟩
    have HN3 : Hid (MaP w3 g N) := Lib.hid (by rw [← hN]; exact hM3)
    have HC3 : Hid (Chg (· = g) w w3) := Lib.hid ((HC2.out.drewN _).trans hc3)
    clear hN HM2 HC2 HB2 hM3 hc3
    have c1 := (HN3.out.hd (by rw [HNN.out.1]; exact h8)).c1
    rw [HNN.out.1] at c1
    go_wp2_with fail
    clear c1
    go_loopw [31] (fun i wr => ∃ k : Nat, k ≤ n ∧ i = .int .u8 k ∧ Hid (MaP wr g (N.settleTo k)) ∧ Hid (Chg (· = g) w wr)) (fun i _ => n - (intOf i).toNat)
    case atStart => exact ⟨0, Nat.zero_le _, rfl, Lib.hid (by rw [Mch.settleTo_zero]; exact HN3.out), HC3⟩
    case round =>
      obtain ⟨k, hk, rfl, hS, hC⟩ := hrel
      by_cases hlt : k < n
      · have hk8 : k < 8 := by omega
        have hk8' : (k : Int) < 8 := by omega
        have hlt' : k < N.ps.length := by rw [HNN.out.1]; exact hlt
        have h8' : (N.settleTo k).ps.length ≤ 8 := by rw [Mch.settleTo_len, HNN.out.1]; exact h8
        have kR := role_any (i := k) hS.out h8'
        rw [Mch.settleTo_role N k hlt'] at kR
        obtain ⟨r, hr⟩ : ∃ r, N.role k = r := ⟨_, rfl⟩
        rw [hr] at kR
        have HS := N.settleTo_succ k hlt'
        rw [hr] at HS
        have HSS := Lib.hid HS
        have hpp := Mch.settleTo_port N k hlt'
        have HPP := Lib.hid (And.intro hpp (And.intro hlt' h8'))
        clear hr HS hpp h8'
        go_wp2_with fail
        refine kR.mono ?_
        rintro e w4 ⟨rfl, hg⟩
        have HM4 := Lib.hid (hS.out.gro hg)
        have HC4 : Hid (Chg (· = g) w w4) := Lib.hid (hC.out.trans' (Chg.of_below hg.below))
        clear hg hS hC kR
        by_cases h2 : r = 2
        · subst h2
          have HM5 : Hid (MaP w4 g (N.settleTo (k + 1))) := Lib.hid (by
            have e : (N.settleTo k).setP k { N.port k with ag := (N.port k).ag && ((2 : Nat) == 2) } = N.settleTo k := by
              have e2 : ({ N.port k with ag := (N.port k).ag && ((2 : Nat) == 2) } : Sd) = (N.settleTo k).port k := by rw [HPP.out.1]; simp
              rw [e2]
              exact Mch.setP_self _ (by rw [Mch.settleTo_len]; exact HPP.out.2.1)
            rw [HSS.out, e]
            exact HM4.out)
          clear hlt'
          go_wp2_with fail
          go_roundw
          case rel => exact ⟨k + 1, by omega, by go_num, HM5, HC4⟩
          case measure => simp [intOf]; omega
        · have d2 : ((r : Int) == 2) = false := by simp; omega
          have d2' : ((r : Int) != 2) = true := by simp; omega
          have s14 := (HM4.out.sd (i := k) HPP.out.2.2 (by rw [Mch.settleTo_len]; exact hlt')).c14
          have f14 := HM4.out.fz (2 + k * 16 + 14)
          have HM5 : Hid (MaP (w4.setCell ⟨g, 2 + k * 16 + 14, none⟩ (.bool false)) g (N.settleTo (k + 1))) := Lib.hid (by
            rw [HSS.out]
            refine HM4.out.put HPP.out.2.2 (by rw [Mch.settleTo_len]; exact hlt') 14 (by omega) (.bool false) _ ?_
            rw [HPP.out.1]
            have e : ((r : Nat) == 2) = false := by simpa using h2
            rw [e, Bool.and_false]
            rfl)
          have HC5 : Hid (Chg (· = g) w (w4.setCell ⟨g, 2 + k * 16 + 14, none⟩ (.bool false))) := Lib.hid (HC4.out.setCell (p := ⟨g, 2 + k * 16 + 14, none⟩) (.inr rfl) _)
          clear h2 hlt'
          go_wp2_with fail
          go_roundw
          case rel => exact ⟨k + 1, by omega, by go_num, HM5, HC5⟩
          case measure => simp [intOf]; omega
      · obtain rfl : k = n := by omega
        have HE : Hid (MaP wr g M.choose) := Lib.hid (by
          have := hS.out
          rw [← HNN.out.1, Mch.settleTo_all, HNN.out.2] at this
          exact this)
        clear hS hlt
        go_wp2
        go_end0
        exact ⟨rfl, HE.out, hC.out⟩
end Go.Proofs.Ytlpmilaofcakbaa
