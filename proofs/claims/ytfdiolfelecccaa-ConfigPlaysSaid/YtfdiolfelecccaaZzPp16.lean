/- Layer 16, the program: AddMip, DropMip. -/
import Derived.Test.YtfdiolfelecccaaZzPo16
namespace Go.Proofs.Ytfdiolfelecccaa
open Go.RowKit
open Go.Sort (grow)
set_option linter.unusedVariables false
set_option linter.unusedSimpArgs false
set_option maxRecDepth 100000

section
variable {w : World} {b : Nat} {T : Tb} {X : PX}
set_option maxHeartbeats 1000000 in
theorem addMN_any (w : World) (m : Mi) : Calls Try.prog 19 #[.pointer none, .agg #[.int .u8 m.p.toNat, .int .u16 m.v.toNat, .int .u8 m.l.toNat]] w fun e w' => e = .returned (.int .i64 1) ∧ Below w.heap.size w w' := by
  go_enter Try.func19, Try.ntmps19
  go_wp2
  go_ret
  exact ⟨rfl, ((Below.refl _ _).alloc (Nat.le_refl _) _).alloc (by simp) _⟩
set_option maxHeartbeats 1000000 in
theorem dropMN_any (w : World) (p : UInt8) (v : UInt16) : Calls Try.prog 22 #[.pointer none, .int .u8 p.toNat, .int .u16 v.toNat] w fun e w' => e = .returned (.int .i64 1) ∧ Below w.heap.size w w' := by
  go_enter Try.func22, Try.ntmps22
  go_wp2
  go_ret
  exact ⟨rfl, Below.refl _ _⟩
theorem any_under (T : Tb) (m : Mi) : T.E.any (fun x => decide (Sp.mk x.p (T.of x).v = ⟨m.p, m.v⟩) && decide (m.l.toNat ≤ (T.of x).l.toNat)) = T.E.any (fun e => T.under e m) := by
  congr 1
  funext x
  unfold Tb.under
  rw [← Bool.and_assoc]
  congr 1
  rw [Bool.eq_iff_iff]
  simp only [Sp.mk.injEq, decide_eq_true_eq, Bool.and_eq_true, beq_iff_eq]
  exact ⟨fun h => ⟨h.1.symm, h.2.symm⟩, fun h => ⟨h.1.symm, h.2.symm⟩⟩
set_option maxHeartbeats 8000000 in
theorem addM_any (h : Pt w b T X) (m : Mi) (hl : T.E.length ≤ 1000) (hm : T.M.length ≤ 1000) : Calls Try.prog 19 #[.pointer (some ⟨b, 0, none⟩), .agg #[.int .u8 m.p.toNat, .int .u16 m.v.toNat, .int .u8 m.l.toNat]] w fun e w' => e = .returned (.int .i64 ((T.addM m).2 : Nat)) ∧ PtTo w b X (T.addM m).1 w' := by
  have HTW := Lib.hid h
  have HLE := Lib.hid (And.intro hl hm)
  obtain ⟨g, hg⟩ : ∃ g, w.heap.size = g := ⟨_, rfl⟩
  have HGE : Hid (w.heap.size = g) := Lib.hid hg
  obtain ⟨W, hW⟩ : ∃ W, ((w.alloc (.cells #[.pointer (some ⟨b, 0, none⟩)] 26)).alloc (.cells #[.int .u8 m.p.toNat, .int .u16 m.v.toNat, .int .u8 m.l.toNat] 65)) = W := ⟨_, rfl⟩
  have HB0 : Hid (Gro w W) := Lib.hid (by rw [← hW]; exact ((Gro.refl _).alloc _).alloc _)
  have HP0 : Hid (Blk W g 26 #[.pointer (some ⟨b, 0, none⟩)]) := Lib.hid (by rw [← hW, ← hg]; exact (Blk.new _ _ _).alloc _)
  have HM0 : Hid (Blk W (g + 1) 65 #[.int .u8 m.p.toNat, .int .u16 m.v.toNat, .int .u8 m.l.toNat]) := Lib.hid (by
    have := Blk.new (w.alloc (.cells #[.pointer (some ⟨b, 0, none⟩)] 26)) 65 #[.int .u8 m.p.toNat, .int .u16 m.v.toNat, .int .u8 m.l.toNat]
    rw [← hW, ← hg]
    simpa using this)
  have HT0 := Lib.hid (h.gro HB0.out)
  have hmf : ∀ w ls, (Instr.makeFunc (.func 45) #[] ls).run Try.prog w = .ok (.func (.func 45) #[] ls) w := fun w ls => rfl
  have K1 := Lib.hid (isPort_any HT0.out m.p)
  have HH : Hid (T.hasM m = (decide (m.p.toNat < T.n) && (okV16 m.v && decide (m.l.toNat < 8)))) := Lib.hid rfl
  obtain ⟨q0, hq0⟩ : ∃ q, decide (m.p.toNat < T.n) = q := ⟨_, rfl⟩
  obtain ⟨qv, hqv⟩ : ∃ q, okV16 m.v = q := ⟨_, rfl⟩
  rw [hq0] at K1 HH
  rw [hqv] at HH
  have HQV := Lib.hid hqv
  clear h hl hm hq0 hqv
  have m0 := HM0.out.cell 0
  have m1 := HM0.out.cell 1
  have m2 := HM0.out.cell 2
  simp only [List.getElem?_toArray, List.getElem?_cons_succ, List.getElem?_cons_zero] at m0 m1 m2
  have p0 := HP0.out.cell 0
  simp only [List.getElem?_toArray, List.getElem?_cons_succ, List.getElem?_cons_zero] at p0
  go_enter Try.func19, Try.ntmps19
  go_wp2_with fail
  try rw [hW]
  clear hW hg
  refine K1.out.mono ?_
  rintro e w1 ⟨rfl, hg1⟩
  have HB1 : Hid (Gro w w1) := Lib.hid (HB0.out.trans hg1)
  have HP1 := Lib.hid (hg1.blk HP0.out)
  have HM1 := Lib.hid (hg1.blk HM0.out)
  have HT1 := Lib.hid (HT0.out.gro hg1)
  clear hg1 HB0 HP0 HM0 HT0 m0 m1 m2 p0 K1
  have m0 := HM1.out.cell 0
  have m1 := HM1.out.cell 1
  have m2 := HM1.out.cell 2
  simp only [List.getElem?_toArray, List.getElem?_cons_succ, List.getElem?_cons_zero] at m0 m1 m2
  have p0 := HP1.out.cell 0
  simp only [List.getElem?_toArray, List.getElem?_cons_succ, List.getElem?_cons_zero] at p0
  cases q0
  · have HD : Hid (T.addM m = (T, 2)) := Lib.hid (by unfold Tb.addM; rw [if_pos (by rw [HH.out]; rfl)])
    go_wp2
    go_ret
    rw [HD.out]
    exact ⟨rfl, PtTo.same HTW.out HB1.out.below⟩
  go_wp2_with fail
  refine (isVlan_any m.v w1).mono ?_
  rw [HQV.out]
  rintro e w2 ⟨rfl, hg2⟩
  have HB2 : Hid (Gro w w2) := Lib.hid (HB1.out.trans hg2)
  have HP2 := Lib.hid (hg2.blk HP1.out)
  have HM2 := Lib.hid (hg2.blk HM1.out)
  have HT2 := Lib.hid (HT1.out.gro hg2)
  clear hg2 HB1 HP1 HM1 HT1 m0 m1 m2 p0
  have m0 := HM2.out.cell 0
  have m1 := HM2.out.cell 1
  have m2 := HM2.out.cell 2
  simp only [List.getElem?_toArray, List.getElem?_cons_succ, List.getElem?_cons_zero] at m0 m1 m2
  have p0 := HP2.out.cell 0
  simp only [List.getElem?_toArray, List.getElem?_cons_succ, List.getElem?_cons_zero] at p0
  cases qv
  · have HD : Hid (T.addM m = (T, 2)) := Lib.hid (by unfold Tb.addM; rw [if_pos (by rw [HH.out]; rfl)])
    go_wp2
    go_ret
    rw [HD.out]
    exact ⟨rfl, PtTo.same HTW.out HB2.out.below⟩
  by_cases h7 : 7 < m.l.toNat
  · have HD : Hid (T.addM m = (T, 2)) := Lib.hid (by unfold Tb.addM; rw [if_pos (by rw [HH.out, decide_eq_false (show ¬ m.l.toNat < 8 by omega)]; rfl)])
    have h7z : (7 : Int) < (m.l.toNat : Int) := by omega
    clear h7
    go_wp2
    go_ret
    rw [HD.out]
    exact ⟨rfl, PtTo.same HTW.out HB2.out.below⟩
  have HHT : Hid (T.hasM m = true) := Lib.hid (by rw [HH.out, decide_eq_true (show m.l.toNat < 8 by omega)]; rfl)
  have h7z : ¬ (7 : Int) < (m.l.toNat : Int) := by omega
  clear h7
  obtain ⟨w3, hw3⟩ : ∃ w3, w2.alloc (.cells #[.int .u8 m.p.toNat, .int .u16 m.v.toNat] 88) = w3 := ⟨_, rfl⟩
  have hg3 : Gro w2 w3 := by rw [← hw3]; exact (Gro.refl _).alloc _
  have HS3 : Hid (Blk w3 w2.heap.size 88 #[.int .u8 m.p.toNat, .int .u16 m.v.toNat]) := Lib.hid (by rw [← hw3]; exact Blk.new _ _ _)
  obtain ⟨gs, hgs⟩ : ∃ gs, w2.heap.size = gs := ⟨_, rfl⟩
  rw [hgs] at HS3
  have HB3 : Hid (Gro w w3) := Lib.hid (HB2.out.trans hg3)
  have HP3 := Lib.hid (hg3.blk HP2.out)
  have HM3 := Lib.hid (hg3.blk HM2.out)
  have HT3 := Lib.hid (HT2.out.gro hg3)
  have hlook := fun n => SVP.run (mb := some X.mb) (S := T.M.map miK) (w := w3.drewN n) (show SVP _ (some X.mb) _ from (HT3.out.gro ((Gro.refl _).drewN n)).map) ⟨m.p, m.v⟩ true
  simp only [if_true] at hlook
  obtain ⟨lv, hlv⟩ : ∃ l, (sget (T.M.map miK) ⟨m.p, m.v⟩).getD (0 : UInt8) = l := ⟨_, rfl⟩
  obtain ⟨hs, hhs⟩ : ∃ h, shas (T.M.map miK) ⟨m.p, m.v⟩ = h := ⟨_, rfl⟩
  have HAN : Hid (T.M.any (fun x => x.p == m.p && x.v == m.v) = hs) := Lib.hid (by rw [← hhs, shas_mi])
  have HHS := Lib.hid hhs
  rw [hlv, hhs] at hlook
  clear hlv hhs hg3
  go_upto_region 6 with (fail)
  try rw [hw3]
  clear hw3 hgs HB2 HP2 HM2 HT2 m0 m1 m2 p0
  have c3 := HT3.out.c3
  have p0 := HP3.out.cell 0
  simp only [List.getElem?_toArray, List.getElem?_cons_succ, List.getElem?_cons_zero] at p0
  have s0 := HS3.out.cell 0
  have s1 := HS3.out.cell 1
  simp only [List.getElem?_toArray, List.getElem?_cons_succ, List.getElem?_cons_zero] at s0 s1
  go_quiet (fail)
  have HB4 : Hid (Gro w (w3.drewN nq)) := Lib.hid (HB3.out.drewN nq)
  have HP4 : Hid (Blk (w3.drewN nq) g 26 #[.pointer (some ⟨b, 0, none⟩)]) := Lib.hid (HP3.out.drewN nq)
  have HM4 : Hid (Blk (w3.drewN nq) (g + 1) 65 #[.int .u8 m.p.toNat, .int .u16 m.v.toNat, .int .u8 m.l.toNat]) := Lib.hid (HM3.out.drewN nq)
  have HS4 : Hid (Blk (w3.drewN nq) gs 88 #[.int .u8 m.p.toNat, .int .u16 m.v.toNat]) := Lib.hid (HS3.out.drewN nq)
  have HT4 : Hid (Pt (w3.drewN nq) b T X) := Lib.hid (HT3.out.gro ((Gro.refl _).drewN nq))
  obtain ⟨w4, hw4⟩ : ∃ w4, w3.drewN nq = w4 := ⟨_, rfl⟩
  rw [hw4] at HB4 HP4 HM4 HS4 HT4 ⊢
  clear hw4 hlook c3 p0 s0 s1 HB3 HP3 HM3 HS3 HT3
  cases hs
  case true =>
    have HD : Hid (T.addM m = (T, 8)) := Lib.hid (by unfold Tb.addM; rw [if_neg (by rw [HHT.out]; decide), if_pos HAN.out])
    go_wp2
    go_ret
    rw [HD.out]
    exact ⟨rfl, PtTo.same HTW.out HB4.out.below⟩
  have c2 := HT4.out.c2
  have p0 := HP4.out.cell 0
  simp only [List.getElem?_toArray, List.getElem?_cons_succ, List.getElem?_cons_zero] at p0
  obtain ⟨nE, hnE⟩ : ∃ n, T.E.length = n := ⟨_, rfl⟩
  have HNE := Lib.hid hnE
  obtain ⟨q2, hq2⟩ : ∃ q, T.E.any (fun e => T.under e m) = q := ⟨_, rfl⟩
  have KC : Hid (Calls Try.prog 41 #[.slice X.E nE X.ce, .func (.func 45) #[] #[.pointer (some ⟨g, 0, none⟩), .pointer (some ⟨gs, 0, none⟩), .pointer (some ⟨g + 1, 0, none⟩)]] w4 fun e w' => e = .returned (.bool q2) ∧ Gro w4 w') := Lib.hid (by
    have := contM_any w4 _ _ T.E X.E X.ce HLE.out.1 HT4.out.elsE (clm_below HT4.out ⟨m.p, m.v⟩ m g gs (g + 1) p0 HS4.out HM4.out)
    rw [any_under, hnE, hq2] at this
    exact this)
  have HQ2 := Lib.hid hq2
  rw [hnE] at c2
  clear hnE hq2
  go_wp2_with fail
  refine KC.out.mono ?_
  rintro e w5 ⟨rfl, hg5⟩
  have HB5 : Hid (Gro w w5) := Lib.hid (HB4.out.trans hg5)
  have HP5 := Lib.hid (hg5.blk HP4.out)
  have HM5 := Lib.hid (hg5.blk HM4.out)
  have HS5 := Lib.hid (hg5.blk HS4.out)
  have HT5 := Lib.hid (HT4.out.gro hg5)
  clear hg5 HB4 HP4 HM4 HS4 HT4 c2 p0 KC
  cases q2
  case true =>
    have HD : Hid (T.addM m = (T, 9)) := Lib.hid (by unfold Tb.addM; rw [if_neg (by rw [HHT.out]; decide), if_neg (by rw [HAN.out]; decide), if_pos HQ2.out])
    go_wp2
    go_ret
    rw [HD.out]
    exact ⟨rfl, PtTo.same HTW.out HB5.out.below⟩
  have HD : Hid (T.addM m = ({ T with M := T.M ++ [m] }, 0)) := Lib.hid (by unfold Tb.addM; rw [if_neg (by rw [HHT.out]; decide), if_neg (by rw [HAN.out]; decide), if_neg (by rw [HQ2.out]; decide)])
  have hput := SmapP.put HT5.out.drew.map (by rw [List.length_map]; have := HLE.out.2; unfold maxLen; omega) ⟨m.p, m.v⟩ m.l
  rw [put_mi HHS.out] at hput
  obtain ⟨w6, hput, hm6, ht6⟩ := hput
  have htt := HT5.out.drew.turn (L := T.M ++ [m]) (T' := (T.addM m).1) (by rw [HD.out]) (inv_addM HT5.out.inv m) hm6 (by rw [← put_mi HHS.out]; exact HT5.out.nd.put _ _) ht6
  have HT6 := Lib.hid htt.1
  have HC6 : Hid (Chg (pset b X) w w6) := Lib.hid (((Chg.of_below HB5.out.below).drew).trans htt.2)
  have c3 : w5.drew.cell? ⟨b, 3, none⟩ = some (.map (some X.mb)) := HT5.out.drew.c3
  have e0 : w5.drew.cell? ⟨g, 0, none⟩ = some (.pointer (some ⟨b, 0, none⟩)) := HP5.out.drew.cell 0
  have e1 : w5.drew.cell? ⟨gs, 0, none⟩ = some (.int .u8 m.p.toNat) := HS5.out.drew.cell 0
  have e2 : w5.drew.cell? ⟨gs, 1, none⟩ = some (.int .u16 m.v.toNat) := HS5.out.drew.cell 1
  have e3 : w5.drew.cell? ⟨g + 1, 2, none⟩ = some (.int .u8 m.l.toNat) := HM5.out.drew.cell 2
  clear htt hm6 ht6
  go_wp2_with fail
  go_still_tail 7, (by kernel_rfl)
  change wpList _ _ _ _ _ w5.drew
  go_wp2
  go_ret
  exact ⟨by rw [HD.out]; rfl, X, HT6.out, HC6.out, fun k hk => .inl hk⟩
set_option maxHeartbeats 8000000 in
theorem dropM_any (h : Pt w b T X) (p : UInt8) (v : UInt16) : Calls Try.prog 22 #[.pointer (some ⟨b, 0, none⟩), .int .u8 p.toNat, .int .u16 v.toNat] w fun e w' => e = .returned (.int .i64 ((T.dropM p v).2 : Nat)) ∧ PtTo w b X (T.dropM p v).1 w' := by
  have HTW := Lib.hid h
  obtain ⟨g, hg⟩ : ∃ g, w.heap.size = g := ⟨_, rfl⟩
  obtain ⟨W, hW⟩ : ∃ W, w.alloc (.cells #[.int .u8 p.toNat, .int .u16 v.toNat] 88) = W := ⟨_, rfl⟩
  have HB0 : Hid (Gro w W) := Lib.hid (by rw [← hW]; exact (Gro.refl _).alloc _)
  have HS0 : Hid (Blk W g 88 #[.int .u8 p.toNat, .int .u16 v.toNat]) := Lib.hid (by rw [← hW, ← hg]; exact Blk.new _ _ _)
  have HT0 := Lib.hid (h.gro HB0.out)
  have hlook := fun n => SVP.run (mb := some X.mb) (S := T.M.map miK) (w := W.drewN n) (show SVP _ (some X.mb) _ from (HT0.out.gro ((Gro.refl _).drewN n)).map) ⟨p, v⟩ true
  simp only [if_true] at hlook
  obtain ⟨lv, hlv⟩ : ∃ l, (sget (T.M.map miK) ⟨p, v⟩).getD (0 : UInt8) = l := ⟨_, rfl⟩
  obtain ⟨hs, hhs⟩ : ∃ h, shas (T.M.map miK) ⟨p, v⟩ = h := ⟨_, rfl⟩
  have HAL : Hid (T.M.all (keepM p v) = !hs) := Lib.hid (by rw [← hhs, all_keep])
  rw [hlv, hhs] at hlook
  clear hlv hhs h
  go_enter Try.func22, Try.ntmps22
  go_wp2_with fail
  try rw [hW]
  clear hW hg
  have c3 := HT0.out.c3
  have s0 := HS0.out.cell 0
  have s1 := HS0.out.cell 1
  simp only [List.getElem?_toArray, List.getElem?_cons_succ, List.getElem?_cons_zero] at s0 s1
  go_quiet (fail)
  have HB4 : Hid (Gro w (W.drewN nq)) := Lib.hid (HB0.out.drewN nq)
  have HS4 : Hid (Blk (W.drewN nq) g 88 #[.int .u8 p.toNat, .int .u16 v.toNat]) := Lib.hid (HS0.out.drewN nq)
  have HT4 : Hid (Pt (W.drewN nq) b T X) := Lib.hid (HT0.out.gro ((Gro.refl _).drewN nq))
  obtain ⟨w4, hw4⟩ : ∃ w4, W.drewN nq = w4 := ⟨_, rfl⟩
  rw [hw4] at HB4 HS4 HT4 ⊢
  clear hw4 hlook c3 s0 s1 HB0 HS0 HT0
  cases hs
  · have HD : Hid (T.dropM p v = (T, 7)) := Lib.hid (by unfold Tb.dropM; rw [if_pos (by rw [HAL.out]; rfl)])
    go_wp2
    go_ret
    rw [HD.out]
    exact ⟨rfl, PtTo.same HTW.out HB4.out.below⟩
  have HD : Hid (T.dropM p v = ({ T with M := T.M.filter (keepM p v) }, 0)) := Lib.hid (by unfold Tb.dropM; rw [if_neg (by rw [HAL.out]; decide)])
  have hdel := SmapP.del HT4.out.drew.map HT4.out.nd ⟨p, v⟩ 0
  rw [del_mi] at hdel
  obtain ⟨w6, hdel, hm6, ht6⟩ := hdel
  have htt := HT4.out.drew.turn (L := T.M.filter (keepM p v)) (T' := (T.dropM p v).1) (by rw [HD.out]) (inv_dropM HT4.out.inv p v) hm6 (by rw [← del_mi]; exact HT4.out.nd.del _) ht6
  have HT6 := Lib.hid htt.1
  have HC6 : Hid (Chg (pset b X) w w6) := Lib.hid (((Chg.of_below HB4.out.below).drew).trans htt.2)
  have c3 : w4.drew.cell? ⟨b, 3, none⟩ = some (.map (some X.mb)) := HT4.out.drew.c3
  have e1 : w4.drew.cell? ⟨g, 0, none⟩ = some (.int .u8 p.toNat) := HS4.out.drew.cell 0
  have e2 : w4.drew.cell? ⟨g, 1, none⟩ = some (.int .u16 v.toNat) := HS4.out.drew.cell 1
  clear htt hm6 ht6
  go_wp2_with fail
  go_still_tail 5, (by kernel_rfl)
  change wpList _ _ _ _ _ w4.drew
  go_wp2
  go_ret
  exact ⟨by rw [HD.out]; rfl, X, HT6.out, HC6.out, fun k hk => .inl hk⟩
end
end Go.Proofs.Ytfdiolfelecccaa
