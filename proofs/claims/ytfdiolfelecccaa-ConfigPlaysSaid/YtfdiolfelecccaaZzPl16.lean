/- Layer 16, the program: At. -/
import Derived.Test.YtfdiolfelecccaaZzPk16
namespace Go.Proofs.Ytfdiolfelecccaa
open Go.RowKit
open Go.Sort (grow)
set_option linter.unusedVariables false
set_option linter.unusedSimpArgs false
set_option maxRecDepth 100000

section
variable {w : World} {b : Nat} {T : Tb} {X : PX}
set_option maxHeartbeats 2000000 in
theorem attN_any (w : World) (p : UInt8) (v : UInt16) : Calls Try.prog 14 #[.pointer none, .int .u8 p.toNat, .int .u16 v.toNat] w fun e w' => e = .returned (.agg #[.int .u8 0, .int .u8 0, .int .i64 (-1)]) ∧ Below w.heap.size w w' := by
  have HB : Hid (Below w.heap.size w ((w.alloc (.cells #[.int .u8 0, .int .u8 0, .int .i64 0] 56)).alloc (.cells #[.int .u8 0, .int .u8 0, .int .i64 (-1)] 56))) := Lib.hid (((Below.refl _ _).alloc (Nat.le_refl _) _).alloc (by simp) _)
  have HZ : Hid (Blk ((w.alloc (.cells #[.int .u8 0, .int .u8 0, .int .i64 0] 56)).alloc (.cells #[.int .u8 0, .int .u8 0, .int .i64 (-1)] 56)) w.heap.size 56 #[.int .u8 0, .int .u8 0, .int .i64 0]) := Lib.hid ((Blk.new _ _ _).alloc _)
  go_enter Try.func14, Try.ntmps14
  go_wp2_with (refine wpList_store_row rfl 56 (.tmp 6) (.tmp 17) rfl w.heap.size rfl _ rfl 56 _ HZ.out (by kernel_rfl) rfl (by kernel_rfl) ?_)
  refine bodyPost_ret (v := .agg #[.int .u8 0, .int .u8 0, .int .i64 (-1)]) (results_cell_one16 (p := 6) (by kernel_rfl) _ _ w.heap.size 56 _ _ rfl (Blk.row HZ.out _) Try.underlying56 rfl (by kernel_rfl)) rfl ?_
  exact ⟨rfl, below_row HB.out (Nat.le_refl _) _⟩
set_option maxHeartbeats 8000000 in
theorem att_any (h : Pt w b T X) (p : UInt8) (v : UInt16) (hl : T.E.length ≤ 1000) : Calls Try.prog 14 #[.pointer (some ⟨b, 0, none⟩), .int .u8 p.toNat, .int .u16 v.toNat] w fun e w' => e = .returned (.agg #[.int .u8 (T.set p v false).toNat, .int .u8 (T.set p v true).toNat, .int .i64 (T.mid p v)]) ∧ Below w.heap.size w w' := by
  obtain ⟨g, hg⟩ : ∃ g, w.heap.size = g := ⟨_, rfl⟩
  have HGE : Hid (w.heap.size = g) := Lib.hid hg
  obtain ⟨W, hW⟩ : ∃ W, (((w.alloc (.cells #[.int .u8 0, .int .u8 0, .int .i64 0] 56)).alloc (.cells #[.int .u8 0, .int .u8 0, .int .i64 (-1)] 56)).alloc (.cells #[.int .u8 p.toNat, .int .u16 v.toNat] 88)) = W := ⟨_, rfl⟩
  have HB : Hid (Below w.heap.size w W) := Lib.hid (by rw [← hW]; exact (((Below.refl _ _).alloc (Nat.le_refl _) _).alloc (by simp) _).alloc (by simp; omega) _)
  have HR : Hid (Blk W g 56 #[.int .u8 0, .int .u8 0, .int .i64 0]) := Lib.hid (by rw [← hW, ← hg]; exact ((Blk.new _ _ _).alloc _).alloc _)
  have HA : Hid (Blk W (g + 1) 56 #[.int .u8 0, .int .u8 0, .int .i64 (-1)]) := Lib.hid (by
    have := (Blk.new (w.alloc (.cells #[.int .u8 0, .int .u8 0, .int .i64 0] 56)) 56 #[.int .u8 0, .int .u8 0, .int .i64 (-1)]).alloc (.cells #[.int .u8 p.toNat, .int .u16 v.toNat] 88)
    rw [← hW, ← hg]
    simpa using this)
  have HS : Hid (Blk W (g + 1 + 1) 88 #[.int .u8 p.toNat, .int .u16 v.toNat]) := Lib.hid (by
    have := Blk.new ((w.alloc (.cells #[.int .u8 0, .int .u8 0, .int .i64 0] 56)).alloc (.cells #[.int .u8 0, .int .u8 0, .int .i64 (-1)] 56)) 88 #[.int .u8 p.toNat, .int .u16 v.toNat]
    rw [← hW, ← hg]
    simpa using this)
  have HT := Lib.hid (h.next HB.out)
  obtain ⟨nE, hnE⟩ : ∃ n, T.E.length = n := ⟨_, rfl⟩
  have HNE := Lib.hid hnE
  have hle : (nE : Int) ≤ 1000 := by omega
  have c2 := HT.out.c2
  rw [hnE] at c2
  obtain ⟨XE, hXE⟩ : ∃ e, X.E = e := ⟨_, rfl⟩
  rw [hXE] at c2
  have HXE := Lib.hid hXE
  clear hXE
  have HBG : Hid (g ≤ W.heap.size) := Lib.hid (by have := HB.out.size; omega)
  have HPL : Hid (∀ k, pset b X k → k < g) := Lib.hid (fun k hk => by have := h.lt k hk; omega)
  clear h hl hnE
  go_enter Try.func14, Try.ntmps14
  go_upto_region 6 with (fail)
  try rw [hW]
  clear hW hg
  go_wp2_with fail
  go_loopw [10, 11, 26] (fun _ _ i wr => ∃ k : Nat, k ≤ nE ∧ i = .int .i64 k ∧ Hid (Below w.heap.size w wr) ∧ Hid (Blk wr (g + 1) 56 #[.int .u8 (setOf (lvK T k p v false)).toNat, .int .u8 (setOf (lvK T k p v true)).toNat, .int .i64 (-1)]) ∧ Hid (Blk wr (g + 1 + 1) 88 #[.int .u8 p.toNat, .int .u16 v.toNat]) ∧ Hid (Blk wr g 56 #[.int .u8 0, .int .u8 0, .int .i64 0]) ∧ Hid (Pt wr b T X) ∧ Hid (g ≤ wr.heap.size)) (fun _ _ i _ => nE - (intOf i).toNat)
  case atStart => exact ⟨0, Nat.zero_le _, rfl, HB, HA, HS, HR, HT, HBG⟩
  case round =>
    obtain ⟨k, hk, rfl, HBr, HAr, HSr, HRr, HTr, HBGr⟩ := hrel
    by_cases hlt : k < nE
    · have hltz : (k : Int) < (nE : Int) := by omega
      obtain ⟨x, hx⟩ : ∃ x, T.E[k]? = some x := ⟨_, List.getElem?_eq_getElem (by rw [HNE.out]; exact hlt)⟩
      have hof := of_level HTr.out.inv (List.mem_of_getElem? hx)
      obtain ⟨bE, oE, hE', hltE, e0, e1, e2, e3⟩ := mp_at HTr.out.elsE hx
      obtain rfl : XE = some ⟨bE, oE, none⟩ := by rw [← HXE.out]; exact hE'
      have HX := Lib.hid hx
      have HLT := Lib.hid hlt
      have HL8 : Hid ((T.of x).l.toNat < 8) := Lib.hid hof.1
      have KS := Lib.hid (fun W' (hg' : Hid (Pt W' b T X)) => standOf_any hg'.out x hof.2.1 hof.2.2)
      obtain ⟨sp, hsp⟩ : ∃ s, (T.st x).p = s := ⟨_, rfl⟩
      obtain ⟨sv, hsv⟩ : ∃ s, (T.st x).v = s := ⟨_, rfl⟩
      obtain ⟨sl, hsl⟩ : ∃ s, (T.st x).l = s := ⟨_, rfl⟩
      obtain ⟨su, hsu⟩ : ∃ s, (T.st x).u = s := ⟨_, rfl⟩
      rw [hsp, hsv, hsl, hsu] at KS
      have HSX : Hid (sp = x.p ∧ sv = (T.of x).v ∧ sl = (T.of x).l ∧ su = x.u) := Lib.hid ⟨hsp.symm, hsv.symm, hsl.symm, hsu.symm⟩
      clear hx hof hltE hsp hsv hsl hsu hlt
      obtain ⟨W1, hW1⟩ : ∃ W1, wr.alloc (.cells #[.int .i64 x.a, .int .u16 x.m.toNat, .int .u8 x.p.toNat, .bool x.u] 59) = W1 := ⟨_, rfl⟩
      have hB1 : Below wr.heap.size wr W1 := by rw [← hW1]; exact (Below.refl _ _).alloc (Nat.le_refl _) _
      have HM1 : Hid (Blk W1 wr.heap.size 59 #[.int .i64 x.a, .int .u16 x.m.toNat, .int .u8 x.p.toNat, .bool x.u]) := Lib.hid (by rw [← hW1]; exact Blk.new _ _ _)
      have HT1 := Lib.hid (HTr.out.next hB1)
      have HBw := Lib.hid hB1
      have cr := HTr.out.c2
      rw [HNE.out, HXE.out] at cr
      have x0 := HM1.out.cell 0
      have x1 := HM1.out.cell 1
      have x2 := HM1.out.cell 2
      have x3 := HM1.out.cell 3
      simp only [List.getElem?_toArray, List.getElem?_cons_succ, List.getElem?_cons_zero] at x0 x1 x2 x3
      clear hB1 hE'
      go_wp2_with fail
      try rw [hW1]
      clear hW1
      refine (KS.out _ HT1).mono ?_
      rintro e_ w2 ⟨rfl, hg2⟩
      have HBq : Hid (Below wr.heap.size wr (w2.alloc (.cells #[.int .u8 sp.toNat, .int .u16 sv.toNat, .int .u8 sl.toNat, .bool su] 90))) := Lib.hid ((HBw.out.trans (hg2.below.mono HBw.out.size)).alloc (by have := HBw.out.size; have := hg2.size; omega) _)
      have HT3 := Lib.hid (HTr.out.next HBq.out)
      have HN3 := Lib.hid (Blk.new w2 90 #[.int .u8 sp.toNat, .int .u16 sv.toNat, .int .u8 sl.toNat, .bool su])
      have HB3 : Hid (Below w.heap.size w (w2.alloc (.cells #[.int .u8 sp.toNat, .int .u16 sv.toNat, .int .u8 sl.toNat, .bool su] 90))) := Lib.hid (HBr.out.trans (HBq.out.mono HBr.out.size))
      have HA3 := Lib.hid (HAr.out.below HBq.out HAr.out.lt)
      have HS3 := Lib.hid (HSr.out.below HBq.out HSr.out.lt)
      have HR3 := Lib.hid (HRr.out.below HBq.out HRr.out.lt)
      have HLw : Hid (g + 1 + 1 < w2.heap.size) := Lib.hid (by have := HSr.out.lt; have := HBw.out.size; have := hg2.size; omega)
      have qs := fun w => run_eqSp10000 ⟨sp, sv⟩ ⟨p, v⟩ w
      obtain ⟨q, hq⟩ : ∃ q, decide (Sp.mk sp sv = Sp.mk p v) = q := ⟨_, rfl⟩
      rw [hq] at qs
      have HQ := Lib.hid hq
      obtain ⟨D, hD⟩ : ∃ D, setOf (lvK T k p v false) = D := ⟨_, rfl⟩
      obtain ⟨U, hU⟩ : ∃ U, setOf (lvK T k p v true) = U := ⟨_, rfl⟩
      have HDU := Lib.hid (And.intro hD hU)
      rw [hD, hU] at HA3
      have a0 := HA3.out.cell 0
      have a1 := HA3.out.cell 1
      have a2 := HA3.out.cell 2
      simp only [List.getElem?_toArray, List.getElem?_cons_succ, List.getElem?_cons_zero] at a0 a1 a2
      have s0 := HS3.out.cell 0
      have s1 := HS3.out.cell 1
      simp only [List.getElem?_toArray, List.getElem?_cons_succ, List.getElem?_cons_zero] at s0 s1
      have n0 := HN3.out.cell 0
      have n1 := HN3.out.cell 1
      have n2 := HN3.out.cell 2
      have n3 := HN3.out.cell 3
      simp only [List.getElem?_toArray, List.getElem?_cons_succ, List.getElem?_cons_zero] at n0 n1 n2 n3
      have fa0 := HA3.out.frozen 0
      have fa1 := HA3.out.frozen 1
      clear hg2 hq hD hU x0 x1 x2 x3 HM1 HT1 HBw HBr HAr HSr HRr HTr e0 e1 e2 e3 cr
      cases q
      · have HE : Hid (∀ u, lvK T (k + 1) p v u = lvK T k p v u) := Lib.hid (fun u => by
          funext j
          rw [lvK_next HX.out]
          have : (x.p == p && (T.of x).v == v) = false := by
            have := HQ.out
            rw [HSX.out.1, HSX.out.2.1] at this
            rw [← Bool.not_eq_true]
            intro h'
            simp only [Bool.and_eq_true, beq_iff_eq] at h'
            exact of_decide_eq_false this (by rw [h'.1, h'.2])
          rw [← Bool.and_assoc, this]
          simp)
        go_wp2
        go_roundw
        case rel => exact ⟨k + 1, by have := HLT.out; omega, by go_num, HB3, by rw [HE.out, HE.out, HDU.out.1, HDU.out.2]; exact HA3, HS3, HR3, HT3, Lib.hid (by have := HLw.out; show g ≤ (w2.alloc _).heap.size; simp; omega)⟩
        case measure => have := HLT.out; simp [intOf]; omega
      · cases su
        · have HEs : Hid (lvK T (k + 1) p v true = lvK T k p v true) := Lib.hid (by
            funext j
            rw [lvK_next HX.out]
            rw [show x.u = false from HSX.out.2.2.2.symm]
            simp)
          obtain ⟨Z, hZ⟩ : ∃ Z, setOf (lvK T (k + 1) p v false) = Z := ⟨_, rfl⟩
          have hsl8 : sl.toNat < 8 := by rw [HSX.out.2.2.1]; exact HL8.out
          have hor : bits BinOp.or IntKind.u8 (D.toNat : Int) (2 ^ min sl.toNat 8 % 256) = (Z.toNat : Int) := by
            rw [Nat.min_eq_left (by omega), Int.emod_eq_of_lt (Int.pow_nonneg (by decide)) (by
              have : (2 : Int) ^ sl.toNat = ((2 ^ sl.toNat : Nat) : Int) := by simp
              rw [this]
              have := Nat.pow_lt_pow_right (a := 2) (by decide) hsl8
              omega), ← HDU.out.1, ← hZ]
            refine or_setOf _ _ sl.toNat hsl8 (fun j _ => ?_)
            rw [lvK_next HX.out]
            have hsp : Sp.mk sp sv = Sp.mk p v := of_decide_eq_true HQ.out
            injection hsp with h1 h2
            rw [HSX.out.1] at h1
            rw [HSX.out.2.1] at h2
            rw [h1, h2, show x.u = false from HSX.out.2.2.2.symm, ← HSX.out.2.2.1]
            simp
          have HZ := Lib.hid hZ
          have hCq : Chg (fun k => k = g + 1) (w2.alloc (.cells #[.int .u8 sp.toNat, .int .u16 sv.toNat, .int .u8 sl.toNat, .bool false] 90)) ((w2.alloc (.cells #[.int .u8 sp.toNat, .int .u16 sv.toNat, .int .u8 sl.toNat, .bool false] 90)).setCell ⟨g + 1, 0, none⟩ (.int .u8 Z.toNat)) := (Chg.refl (fun k => k = g + 1) _).setCell (p := ⟨g + 1, 0, none⟩) (.inr rfl) _
          have HA4 : Hid (Blk ((w2.alloc (.cells #[.int .u8 sp.toNat, .int .u16 sv.toNat, .int .u8 sl.toNat, .bool false] 90)).setCell ⟨g + 1, 0, none⟩ (.int .u8 Z.toNat)) (g + 1) 56 #[.int .u8 Z.toNat, .int .u8 U.toNat, .int .i64 (-1)]) := Lib.hid (by
            have := HA3.out.put 0 (.int .u8 Z.toNat)
            simpa using this)
          have HS4 := Lib.hid (HS3.out.chg hCq (by omega))
          have HR4 := Lib.hid (HR3.out.chg hCq (by omega))
          have HT4 := Lib.hid (HT3.out.chg hCq (fun k hk e => by have := HPL.out k hk; omega))
          have HB4 : Hid (Below w.heap.size w ((w2.alloc (.cells #[.int .u8 sp.toNat, .int .u16 sv.toNat, .int .u8 sl.toNat, .bool false] 90)).setCell ⟨g + 1, 0, none⟩ (.int .u8 Z.toNat))) := Lib.hid (HB3.out.setCell (p := ⟨g + 1, 0, none⟩) (by have := HGE.out; show w.heap.size ≤ g + 1; omega) _)
          clear hCq hsl8 hZ
          go_wp2
          go_roundw
          case rel => exact ⟨k + 1, by have := HLT.out; omega, by go_num, HB4, by rw [HEs.out, HDU.out.2, HZ.out]; exact HA4, HS4, HR4, HT4, Lib.hid (by have := HLw.out; show g ≤ (((w2.alloc (.cells #[.int .u8 sp.toNat, .int .u16 sv.toNat, .int .u8 sl.toNat, .bool false] 90)).setCell _ _)).heap.size; simp [World.setCell]; omega)⟩
          case measure => have := HLT.out; simp [intOf]; omega
        · have HEs : Hid (lvK T (k + 1) p v false = lvK T k p v false) := Lib.hid (by
            funext j
            rw [lvK_next HX.out]
            rw [show x.u = true from HSX.out.2.2.2.symm]
            simp)
          obtain ⟨Z, hZ⟩ : ∃ Z, setOf (lvK T (k + 1) p v true) = Z := ⟨_, rfl⟩
          have hsl8 : sl.toNat < 8 := by rw [HSX.out.2.2.1]; exact HL8.out
          have hor : bits BinOp.or IntKind.u8 (U.toNat : Int) (2 ^ min sl.toNat 8 % 256) = (Z.toNat : Int) := by
            rw [Nat.min_eq_left (by omega), Int.emod_eq_of_lt (Int.pow_nonneg (by decide)) (by
              have : (2 : Int) ^ sl.toNat = ((2 ^ sl.toNat : Nat) : Int) := by simp
              rw [this]
              have := Nat.pow_lt_pow_right (a := 2) (by decide) hsl8
              omega), ← HDU.out.2, ← hZ]
            refine or_setOf _ _ sl.toNat hsl8 (fun j _ => ?_)
            rw [lvK_next HX.out]
            have hsp : Sp.mk sp sv = Sp.mk p v := of_decide_eq_true HQ.out
            injection hsp with h1 h2
            rw [HSX.out.1] at h1
            rw [HSX.out.2.1] at h2
            rw [h1, h2, show x.u = true from HSX.out.2.2.2.symm, ← HSX.out.2.2.1]
            simp
          have HZ := Lib.hid hZ
          have hCq : Chg (fun k => k = g + 1) (w2.alloc (.cells #[.int .u8 sp.toNat, .int .u16 sv.toNat, .int .u8 sl.toNat, .bool true] 90)) ((w2.alloc (.cells #[.int .u8 sp.toNat, .int .u16 sv.toNat, .int .u8 sl.toNat, .bool true] 90)).setCell ⟨g + 1, 1, none⟩ (.int .u8 Z.toNat)) := (Chg.refl (fun k => k = g + 1) _).setCell (p := ⟨g + 1, 1, none⟩) (.inr rfl) _
          have HA4 : Hid (Blk ((w2.alloc (.cells #[.int .u8 sp.toNat, .int .u16 sv.toNat, .int .u8 sl.toNat, .bool true] 90)).setCell ⟨g + 1, 1, none⟩ (.int .u8 Z.toNat)) (g + 1) 56 #[.int .u8 D.toNat, .int .u8 Z.toNat, .int .i64 (-1)]) := Lib.hid (by
            have := HA3.out.put 1 (.int .u8 Z.toNat)
            simpa using this)
          have HS4 := Lib.hid (HS3.out.chg hCq (by omega))
          have HR4 := Lib.hid (HR3.out.chg hCq (by omega))
          have HT4 := Lib.hid (HT3.out.chg hCq (fun k hk e => by have := HPL.out k hk; omega))
          have HB4 : Hid (Below w.heap.size w ((w2.alloc (.cells #[.int .u8 sp.toNat, .int .u16 sv.toNat, .int .u8 sl.toNat, .bool true] 90)).setCell ⟨g + 1, 1, none⟩ (.int .u8 Z.toNat))) := Lib.hid (HB3.out.setCell (p := ⟨g + 1, 1, none⟩) (by have := HGE.out; show w.heap.size ≤ g + 1; omega) _)
          clear hCq hsl8 hZ
          go_wp2
          go_roundw
          case rel => exact ⟨k + 1, by have := HLT.out; omega, by go_num, HB4, by rw [HEs.out, HDU.out.1, HZ.out]; exact HA4, HS4, HR4, HT4, Lib.hid (by have := HLw.out; show g ≤ (((w2.alloc (.cells #[.int .u8 sp.toNat, .int .u16 sv.toNat, .int .u8 sl.toNat, .bool true] 90)).setCell _ _)).heap.size; simp [World.setCell]; omega)⟩
          case measure => have := HLT.out; simp [intOf]; omega
    · obtain rfl : nE = k := by omega
      have hlook := fun n => SVP.run (mb := some X.mb) (S := T.M.map miK) (w := wr.drewN n) (show SVP _ (some X.mb) _ from (HTr.out.gro ((Gro.refl _).drewN n)).map) ⟨p, v⟩ true
      simp only [if_true] at hlook
      have HMI := Lib.hid (mid_mi T p v)
      obtain ⟨lv, hlv⟩ : ∃ l, (sget (T.M.map miK) ⟨p, v⟩).getD (0 : UInt8) = l := ⟨_, rfl⟩
      obtain ⟨hs, hhs⟩ : ∃ s, shas (T.M.map miK) ⟨p, v⟩ = s := ⟨_, rfl⟩
      rw [hlv, hhs] at HMI hlook
      have HDn : Hid (setOf (lvK T nE p v false) = T.set p v false) := Lib.hid (by rw [← HNE.out, lvK_all]; rfl)
      have HUp : Hid (setOf (lvK T nE p v true) = T.set p v true) := Lib.hid (by rw [← HNE.out, lvK_all]; rfl)
      obtain ⟨D, hD⟩ : ∃ D, T.set p v false = D := ⟨_, rfl⟩
      obtain ⟨U, hU⟩ : ∃ U, T.set p v true = U := ⟨_, rfl⟩
      have HDU := Lib.hid (And.intro hD hU)
      rw [HDn.out, HUp.out, hD, hU] at HAr
      have c3 := HTr.out.c3
      have s0 := HSr.out.cell 0
      have s1 := HSr.out.cell 1
      simp only [List.getElem?_toArray, List.getElem?_cons_succ, List.getElem?_cons_zero] at s0 s1
      have hwv : IntKind.i64.wrap (lv.toNat : Int) = (lv.toNat : Int) := by have := lv.toNat_lt; simp [IntKind.wrap, IntKind.signed, IntKind.bits]; omega
      clear hlv hhs hD hU HDn HUp hlt hk
      go_wp2_with fail
      go_quiet (fail)
      have HA5 : Hid (Blk (wr.drewN nq) (g + 1) 56 #[.int .u8 D.toNat, .int .u8 U.toNat, .int .i64 (-1)]) := Lib.hid (HAr.out.drewN nq)
      have HR5 : Hid (Blk (wr.drewN nq) g 56 #[.int .u8 0, .int .u8 0, .int .i64 0]) := Lib.hid (HRr.out.drewN nq)
      have HB5 : Hid (Below w.heap.size w (wr.drewN nq)) := Lib.hid (below_drewN16 HBr.out nq)
      obtain ⟨w5, hw5⟩ : ∃ w5, wr.drewN nq = w5 := ⟨_, rfl⟩
      rw [hw5] at HA5 HR5 HB5 ⊢
      clear hw5 hlook c3 s0 s1
      cases hs
      · have HM : Hid (T.mid p v = (-1)) := Lib.hid (by rw [HMI.out]; rfl)
        have a0 := HA5.out.cell 0
        have a1 := HA5.out.cell 1
        have a2 := HA5.out.cell 2
        simp only [List.getElem?_toArray, List.getElem?_cons_succ, List.getElem?_cons_zero] at a0 a1 a2
        go_wp2_with (refine wpList_store_row rfl 56 (.tmp 6) (.tmp 67) rfl g rfl _ rfl 56 _ HR5.out (by kernel_rfl) rfl (by kernel_rfl) ?_)
        refine bodyPost_ret (v := .agg #[.int .u8 D.toNat, .int .u8 U.toNat, .int .i64 (-1)]) (results_cell_one16 (p := 6) (by kernel_rfl) _ _ g 56 _ _ rfl (Blk.row HR5.out _) Try.underlying56 rfl (by kernel_rfl)) rfl ?_
        refine ⟨?_, below_row HB5.out (by have := HGE.out; omega) _⟩
        rw [HDU.out.1, HDU.out.2, HM.out]
      · have HM : Hid (T.mid p v = (lv.toNat : Int)) := Lib.hid (by rw [HMI.out]; rfl)
        have HA6 : Hid (Blk (w5.setCell ⟨g + 1, 2, none⟩ (.int .i64 (lv.toNat : Int))) (g + 1) 56 #[.int .u8 D.toNat, .int .u8 U.toNat, .int .i64 (lv.toNat : Int)]) := Lib.hid (by
          have := HA5.out.put 2 (.int .i64 (lv.toNat : Int))
          simpa using this)
        have HR6 : Hid (Blk (w5.setCell ⟨g + 1, 2, none⟩ (.int .i64 (lv.toNat : Int))) g 56 #[.int .u8 0, .int .u8 0, .int .i64 0]) := Lib.hid (HR5.out.far (p := ⟨g + 1, 2, none⟩) (by show g ≠ g + 1; omega) _)
        have HB6 : Hid (Below w.heap.size w (w5.setCell ⟨g + 1, 2, none⟩ (.int .i64 (lv.toNat : Int)))) := Lib.hid (HB5.out.setCell (p := ⟨g + 1, 2, none⟩) (by have := HGE.out; show w.heap.size ≤ g + 1; omega) _)
        have fa2 := HA5.out.frozen 2
        have a2 := HA5.out.cell 2
        simp only [List.getElem?_toArray, List.getElem?_cons_succ, List.getElem?_cons_zero] at a2
        go_upto_region 17 with (fail)
        obtain ⟨w6, hw6⟩ : ∃ w6, w5.setCell ⟨g + 1, 2, none⟩ (.int .i64 (lv.toNat : Int)) = w6 := ⟨_, rfl⟩
        rw [hw6] at HA6 HR6 HB6 ⊢
        clear hw6 fa2 a2
        have a0 := HA6.out.cell 0
        have a1 := HA6.out.cell 1
        have a2 := HA6.out.cell 2
        simp only [List.getElem?_toArray, List.getElem?_cons_succ, List.getElem?_cons_zero] at a0 a1 a2
        go_wp2_with (refine wpList_store_row rfl 56 (.tmp 6) (.tmp 67) rfl g rfl _ rfl 56 _ HR6.out (by kernel_rfl) rfl (by kernel_rfl) ?_)
        refine bodyPost_ret (v := .agg #[.int .u8 D.toNat, .int .u8 U.toNat, .int .i64 (lv.toNat : Int)]) (results_cell_one16 (p := 6) (by kernel_rfl) _ _ g 56 _ _ rfl (Blk.row HR6.out _) Try.underlying56 rfl (by kernel_rfl)) rfl ?_
        refine ⟨?_, below_row HB6.out (by have := HGE.out; omega) _⟩
        rw [HDU.out.1, HDU.out.2, HM.out]
end
end Go.Proofs.Ytfdiolfelecccaa
