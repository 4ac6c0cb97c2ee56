/- Layer 16, the program: AddMep, DropMep. -/
import Derived.Test.YtfdiolfelecccaaZzPl16
import Derived.Deep.RegionHeld3
namespace Go.Proofs.Ytfdiolfelecccaa
open Go.RowKit
open Go.Sort (grow)
set_option linter.unusedVariables false
set_option linter.unusedSimpArgs false
set_option maxRecDepth 100000

section
variable {w : World} {b : Nat} {T : Tb} {X : PX}
set_option maxHeartbeats 1000000 in
theorem addEN_any (w : World) (m : Mp) : Calls Try.prog 18 #[.pointer none, .agg #[.int .i64 m.a, .int .u16 m.m.toNat, .int .u8 m.p.toNat, .bool m.u]] w fun e w' => e = .returned (.int .i64 1) ∧ Below w.heap.size w w' := by
  go_enter Try.func18, Try.ntmps18
  go_wp2
  go_ret
  exact ⟨rfl, ((Below.refl _ _).alloc (Nat.le_refl _) _).alloc (by simp) _⟩
set_option maxHeartbeats 1000000 in
theorem dropEN_any (w : World) (a : Int) (k : UInt16) : Calls Try.prog 20 #[.pointer none, .int .i64 a, .int .u16 k.toNat] w fun e w' => e = .returned (.int .i64 1) ∧ Below w.heap.size w w' := by
  go_enter Try.func20, Try.ntmps20
  go_wp2
  go_ret
  exact ⟨rfl, Below.refl _ _⟩
theorem any_clash (T : Tb) (m : Mp) : T.E.any (fun x => T.clash x m) = (T.E.any (fun x => decide (T.st x = T.st m)) || T.E.any (fun x => decide (x.a = m.a) && x.m == m.m)) := by
  induction T.E with
  | nil => rfl
  | cons x l ih =>
    rw [List.any_cons, List.any_cons, List.any_cons, ih]
    have : T.clash x m = (decide (T.st x = T.st m) || (decide (x.a = m.a) && x.m == m.m)) := by
      unfold Tb.clash
      rw [Bool.or_comm]
      congr 1
      rw [Bool.eq_iff_iff]
      simp [Tb.st]
    rw [this]
    cases decide (T.st x = T.st m) <;> cases (decide (x.a = m.a) && x.m == m.m) <;> simp
theorem push_cell {w w6 : World} {o : Obj} {A : Option Addr} {n c : Nat} {p : Addr} {v : Value} (hg : (w.drew.alloc o).grownBy w6 (Value.slice A n c).ownBlock) (hc : w.cell? p = some v) (hn : rb A ≠ some p.block) : w6.cell? p = some v := by
  rw [(push_chg hg).cell (World.block_lt_of_cell? w _ hc) hn]
  exact hc
theorem keepP {W w w' : World} {g0 g1 b n c : Nat} {A : Option Addr} {m : Mp} (h1 : w.cell? ⟨g0, 0, none⟩ = some (.pointer (some ⟨b, 0, none⟩))) (h2 : w.cell? ⟨b, 2, none⟩ = some (.slice A n c)) (h3 : w.cell? ⟨g1, 0, none⟩ = some (.int .i64 m.a)) (h4 : w.cell? ⟨g1, 1, none⟩ = some (.int .u16 m.m.toNat)) (h5 : Hid (Gro W w)) (hg : Gro w w') :
    w'.cell? ⟨g0, 0, none⟩ = some (.pointer (some ⟨b, 0, none⟩)) ∧ w'.cell? ⟨b, 2, none⟩ = some (.slice A n c) ∧ w'.cell? ⟨g1, 0, none⟩ = some (.int .i64 m.a) ∧ w'.cell? ⟨g1, 1, none⟩ = some (.int .u16 m.m.toNat) ∧ Hid (Gro W w') :=
  ⟨(hg.cell (World.block_lt_of_cell? w _ h1)).trans h1, (hg.cell (World.block_lt_of_cell? w _ h2)).trans h2, (hg.cell (World.block_lt_of_cell? w _ h3)).trans h3, (hg.cell (World.block_lt_of_cell? w _ h4)).trans h4, Lib.hid (h5.out.trans hg)⟩
set_option maxHeartbeats 16000000 in
theorem addE_any (h : Pt w b T X) (m : Mp) (hl : T.E.length ≤ 1000) : Calls Try.prog 18 #[.pointer (some ⟨b, 0, none⟩), .agg #[.int .i64 m.a, .int .u16 m.m.toNat, .int .u8 m.p.toNat, .bool m.u]] w fun e w' => e = .returned (.int .i64 ((T.addE m).2 : Nat)) ∧ PtTo w b X (T.addE m).1 w' := by
  have HTW := Lib.hid h
  have HLE := Lib.hid hl
  obtain ⟨g, hg⟩ : ∃ g, w.heap.size = g := ⟨_, rfl⟩
  have HGE : Hid (w.heap.size = g) := Lib.hid hg
  obtain ⟨W, hW⟩ : ∃ W, ((w.alloc (.cells #[.pointer (some ⟨b, 0, none⟩)] 26)).alloc (.cells #[.int .i64 m.a, .int .u16 m.m.toNat, .int .u8 m.p.toNat, .bool m.u] 59)) = W := ⟨_, rfl⟩
  have HB : Hid (Gro w W) := Lib.hid (by rw [← hW]; exact ((Gro.refl _).alloc _).alloc _)
  have HP : Hid (Blk W g 26 #[.pointer (some ⟨b, 0, none⟩)]) := Lib.hid (by rw [← hW, ← hg]; exact (Blk.new _ _ _).alloc _)
  have HM : Hid (Blk W (g + 1) 59 #[.int .i64 m.a, .int .u16 m.m.toNat, .int .u8 m.p.toNat, .bool m.u]) := Lib.hid (by
    have := Blk.new (w.alloc (.cells #[.pointer (some ⟨b, 0, none⟩)] 26)) 59 #[.int .i64 m.a, .int .u16 m.m.toNat, .int .u8 m.p.toNat, .bool m.u]
    rw [← hW, ← hg]
    simpa using this)
  have HT := Lib.hid (h.gro HB.out)
  have hmf : ∀ w ls, (Instr.makeFunc (.func 40) #[] ls).run Try.prog w = .ok (.func (.func 40) #[] ls) w := fun w ls => rfl
  have K1 := Lib.hid (mepMay_any HT.out m)
  obtain ⟨q0, hq0⟩ : ∃ q, T.hasE m = q := ⟨_, rfl⟩
  rw [hq0] at K1
  have HQ0 := Lib.hid hq0
  clear h hl hq0
  have m0 := HM.out.cell 0
  have m1 := HM.out.cell 1
  have m2 := HM.out.cell 2
  have m3 := HM.out.cell 3
  simp only [List.getElem?_toArray, List.getElem?_cons_succ, List.getElem?_cons_zero] at m0 m1 m2 m3
  have p0 := HP.out.cell 0
  simp only [List.getElem?_toArray, List.getElem?_cons_succ, List.getElem?_cons_zero] at p0
  go_enter Try.func18, Try.ntmps18
  go_wp2_with fail
  try rw [hW]
  clear hW hg
  refine K1.out.mono ?_
  rintro e w1 ⟨rfl, hg1⟩
  have HB1 : Hid (Gro w w1) := Lib.hid (HB.out.trans hg1)
  have HP1 := Lib.hid (hg1.blk HP.out)
  have HM1 := Lib.hid (hg1.blk HM.out)
  have HT1 := Lib.hid (HT.out.gro hg1)
  clear hg1 HB HP HM HT m0 m1 m2 m3 p0
  cases q0
  · have HD : Hid (T.addE m = (T, 2)) := Lib.hid (by unfold Tb.addE; rw [if_pos HQ0.out])
    go_wp2
    go_ret
    rw [HD.out]
    exact ⟨rfl, PtTo.same HTW.out HB1.out.below⟩
  have hin : 0 ≤ m.a ∧ m.a < T.A.length := by
    have := HQ0.out
    unfold Tb.hasE at this
    simp only [Bool.and_eq_true, decide_eq_true_eq] at this
    exact ⟨this.1, this.2.1⟩
  have K2 := Lib.hid (standOf_any HT1.out m hin.1 hin.2)
  obtain ⟨s, hs⟩ : ∃ s, T.st m = s := ⟨_, rfl⟩
  rw [hs] at K2
  have HST := Lib.hid hs
  clear hin hs
  have m0 := HM1.out.cell 0
  have m1 := HM1.out.cell 1
  have m2 := HM1.out.cell 2
  have m3 := HM1.out.cell 3
  simp only [List.getElem?_toArray, List.getElem?_cons_succ, List.getElem?_cons_zero] at m0 m1 m2 m3
  have p0 := HP1.out.cell 0
  simp only [List.getElem?_toArray, List.getElem?_cons_succ, List.getElem?_cons_zero] at p0
  go_wp2_with fail
  refine K2.out.mono ?_
  rintro e w2 ⟨rfl, hg2⟩
  obtain ⟨w3, hw3⟩ : ∃ w3, w2.alloc (.cells #[.int .u8 s.p.toNat, .int .u16 s.v.toNat, .int .u8 s.l.toNat, .bool s.u] 90) = w3 := ⟨_, rfl⟩
  have hg3 : Gro w1 w3 := by rw [← hw3]; exact hg2.alloc _
  have HB3 : Hid (Gro w w3) := Lib.hid (HB1.out.trans hg3)
  have HP3 := Lib.hid (hg3.blk HP1.out)
  have HM3 := Lib.hid (hg3.blk HM1.out)
  have HT3 := Lib.hid (HT1.out.gro hg3)
  have HS3 : Hid (Blk w3 w2.heap.size 90 #[.int .u8 s.p.toNat, .int .u16 s.v.toNat, .int .u8 s.l.toNat, .bool s.u]) := Lib.hid (by rw [← hw3]; exact Blk.new _ _ _)
  obtain ⟨gs, hgs⟩ : ∃ gs, w2.heap.size = gs := ⟨_, rfl⟩
  rw [hgs] at HS3
  clear hg2 hg3 HB1 HP1 HM1 HT1 m0 m1 m2 m3 p0
  have c2 := HT3.out.c2
  have m0 := HM3.out.cell 0
  have m1 := HM3.out.cell 1
  have m2 := HM3.out.cell 2
  have m3 := HM3.out.cell 3
  simp only [List.getElem?_toArray, List.getElem?_cons_succ, List.getElem?_cons_zero] at m0 m1 m2 m3
  have p0 := HP3.out.cell 0
  simp only [List.getElem?_toArray, List.getElem?_cons_succ, List.getElem?_cons_zero] at p0
  obtain ⟨nE, hnE⟩ : ∃ n, T.E.length = n := ⟨_, rfl⟩
  have HNE := Lib.hid hnE
  rw [hnE] at c2
  have KC : Hid (∀ w_ f p, Hid (Gro w3 w_) → Hid (ClM w_ f p T.E) → Calls Try.prog 41 #[.slice X.E nE X.ce, f] w_ fun e w' => e = .returned (.bool (T.E.any p)) ∧ Gro w_ w') := Lib.hid (fun w_ f p hg hf => by
    have := contM_any w_ f p T.E X.E X.ce HLE.out (HT3.out.gro hg.out).elsE hf.out
    rw [HNE.out] at this
    exact this)
  have HF1 : Hid (ClM w3 (.func (.func 40) #[] #[.pointer (some ⟨g, 0, none⟩), .pointer (some ⟨gs, 0, none⟩)]) (fun x => decide (T.st x = s)) T.E) := Lib.hid (clm_same HT3.out s g gs p0 HS3.out)
  have KN : Hid (∀ w_, Calls Try.prog 42 #[.int .i64 m.a, .int .u16 m.m.toNat] w_ fun e w' => ∃ f, e = .returned f ∧ ClM w' f (fun x => decide (x.a = m.a) && x.m == m.m) T.E ∧ Gro w_ w') := Lib.hid (fun w_ => num_any w_ m.a m.m T.E)
  obtain ⟨q1, hq1⟩ : ∃ q, T.E.any (fun x => decide (T.st x = s)) = q := ⟨_, rfl⟩
  obtain ⟨q2, hq2⟩ : ∃ q, T.E.any (fun x => decide (x.a = m.a) && x.m == m.m) = q := ⟨_, rfl⟩
  have HCL : Hid (T.E.any (fun x => T.clash x m) = (q1 || q2)) := Lib.hid (by rw [any_clash, HST.out, hq1, hq2])
  have KC1 : Hid (∀ w_, Hid (Gro w3 w_) → Calls Try.prog 41 #[.slice X.E nE X.ce, .func (.func 40) #[] #[.pointer (some ⟨g, 0, none⟩), .pointer (some ⟨gs, 0, none⟩)]] w_ fun e w' => e = .returned (.bool q1) ∧ Gro w_ w') := Lib.hid (fun w_ hg => by
    have := KC.out w_ _ _ hg (Lib.hid (HF1.out.gro hg.out))
    rw [hq1] at this
    exact this)
  have KC2 : Hid (∀ w_ f, Hid (Gro w3 w_) → Hid (ClM w_ f (fun x => decide (x.a = m.a) && x.m == m.m) T.E) → Calls Try.prog 41 #[.slice X.E nE X.ce, f] w_ fun e w' => e = .returned (.bool q2) ∧ Gro w_ w') := Lib.hid (fun w_ f hg hf => by
    have := KC.out w_ f _ hg hf
    rw [hq2] at this
    exact this)
  clear hnE hq1 hq2 KC
  go_upto_region 7 with (fail)
  try rw [hw3]
  clear hw3 hgs
  have HGd : Hid (Gro w3 w3.drew) := Lib.hid ((Gro.refl w3).drew)
  have d0 : w3.drew.cell? ⟨g, 0, none⟩ = some (.pointer (some ⟨b, 0, none⟩)) := p0
  have d1 : w3.drew.cell? ⟨b, 2, none⟩ = some (.slice X.E nE X.ce) := c2
  have d2 : w3.drew.cell? ⟨g + 1, 0, none⟩ = some (.int .i64 m.a) := m0
  have d3 : w3.drew.cell? ⟨g + 1, 1, none⟩ = some (.int .u16 m.m.toNat) := m1
  clear K1 K2
  cases q1
  case true =>
    have HD : Hid (T.addE m = (T, 8)) := Lib.hid (by unfold Tb.addE; rw [if_neg (by rw [HQ0.out]; decide), if_pos (by rw [HCL.out]; rfl)])
    have kI : ∀ n os, Calls Try.prog 41 #[.slice X.E nE X.ce, .func (.func 40) #[] #[.pointer (some ⟨g, 0, none⟩), .pointer (some ⟨gs, 0, none⟩)]] (grow (w3.drewN n) os) fun e w' => e = .returned (.bool true) ∧ ∃ q os', w' = grow ((grow (w3.drewN n) os).drewN q) os' := fun n os => (KC1.out _ (Lib.hid (Gro.of_grow n os))).mono (fun _ _ hh => ⟨hh.1, hh.2.out⟩)
    have g0 := fun n os => cell_grP p0 n os
    have g1 := fun n os => cell_grP c2 n os
    have g2 := fun n os => cell_grP m0 n os
    have g3 := fun n os => cell_grP m1 n os
    have mixed : Try.prog.follows .mixedOrders = true := by kernel_rfl
    refine wp_region_quiet_grown mixed (by kernel_rfl) ?_
    repeat (first | go_big_quiet_step ((first | (go_at_call 41; exact Calls.grown_of (kI _ _)))) | quiet_step ((first | (go_at_call 41; exact Calls.grown_of (kI _ _)))))
    refine wpQuiet_nil ?_
    intro _ hw'
    obtain ⟨⟨nq, osq⟩, hw''⟩ := hw'
    subst hw''
    have hgr := Gro.of_grow (w := w3) nq osq
    clear g0 g1 g2 g3
    generalize grow (w3.drewN nq) osq = wq at *
    clear p0 c2 m0 m1 m2 m3 kI
    have HGq : Hid (Gro w wq) := Lib.hid (HB3.out.trans hgr)
    go_wp2
    go_ret
    rw [HD.out]
    exact ⟨rfl, PtTo.same HTW.out HGq.out.below⟩
  · clear p0 c2 m0 m1 m2 m3
    go_region_held3 (fun w_ => w_.cell? ⟨g, 0, none⟩ = some (.pointer (some ⟨b, 0, none⟩)) ∧ w_.cell? ⟨b, 2, none⟩ = some (.slice X.E nE X.ce) ∧ w_.cell? ⟨g + 1, 0, none⟩ = some (.int .i64 m.a) ∧ w_.cell? ⟨g + 1, 1, none⟩ = some (.int .u16 m.m.toNat) ∧ Hid (Gro w3 w_)) (first | go_keep)
      (first
        | (go_at_call 41; (with_reducible refine (KC1.out _ (by assumption)).mono ?_); rintro r w_ ⟨rfl, hb_⟩; obtain ⟨k0, k1, k2, k3, k4⟩ := keepP (m := m) (by assumption) (by assumption) (by assumption) (by assumption) (by assumption) hb_; clear hb_)
        | (go_at_call 42; (with_reducible refine (KN.out _).mono ?_); rintro r w_ ⟨f_, rfl, hf_, hb_⟩; have HFN := Lib.hid hf_; obtain ⟨k0, k1, k2, k3, k4⟩ := keepP (m := m) (by assumption) (by assumption) (by assumption) (by assumption) (by assumption) hb_; clear hb_ hf_)
        | (go_at_call 41; (with_reducible refine (KC2.out _ _ (by assumption) (by assumption)).mono ?_); rintro r w_ ⟨rfl, hb_⟩; obtain ⟨k0, k1, k2, k3, k4⟩ := keepP (m := m) (by assumption) (by assumption) (by assumption) (by assumption) (by assumption) hb_; clear hb_)
        | fail "no")
    rename_i hh
    clear hh
    have HT4 := Lib.hid (HT3.out.gro k4.out)
    have HS4 := Lib.hid (k4.out.blk HS3.out)
    have HM4 := Lib.hid (k4.out.blk HM3.out)
    have HP4 := Lib.hid (k4.out.blk HP3.out)
    have HB4 : Hid (Gro w w_) := Lib.hid (HB3.out.trans k4.out)
    clear k0 k1 k2 k3 k4 HB3 HT3 HS3 HM3 HP3 d0 d1 d2 d3 HGd KC1 KC2 KN HFN HF1
    cases q2
    case true =>
      have HD : Hid (T.addE m = (T, 8)) := Lib.hid (by unfold Tb.addE; rw [if_neg (by rw [HQ0.out]; decide), if_pos (by rw [HCL.out]; rfl)])
      go_wp2
      go_ret
      rw [HD.out]
      exact ⟨rfl, PtTo.same HTW.out HB4.out.below⟩
    have hlook := fun n => SVP.run (mb := some X.mb) (S := T.M.map miK) (w := w_.drewN n) (show SVP _ (some X.mb) _ from (HT4.out.gro ((Gro.refl _).drewN n)).map) ⟨s.p, s.v⟩ true
    simp only [if_true] at hlook
    have HUM : Hid (T.M.any (fun x => T.under m x) = (shas (T.M.map miK) ⟨s.p, s.v⟩ && decide (((sget (T.M.map miK) ⟨s.p, s.v⟩).getD (0 : UInt8)).toNat ≤ s.l.toNat))) := Lib.hid (by rw [← HST.out]; exact under_mi HT4.out.nd m)
    obtain ⟨lv, hlv⟩ : ∃ l, (sget (T.M.map miK) ⟨s.p, s.v⟩).getD (0 : UInt8) = l := ⟨_, rfl⟩
    obtain ⟨hs, hhs⟩ : ∃ h, shas (T.M.map miK) ⟨s.p, s.v⟩ = h := ⟨_, rfl⟩
    rw [hlv, hhs] at HUM hlook
    have c3 := HT4.out.c3
    have s0 := HS4.out.cell 0
    have s1 := HS4.out.cell 1
    have s2 := HS4.out.cell 2
    simp only [List.getElem?_toArray, List.getElem?_cons_succ, List.getElem?_cons_zero] at s0 s1 s2
    have p0 := HP4.out.cell 0
    simp only [List.getElem?_toArray, List.getElem?_cons_succ, List.getElem?_cons_zero] at p0
    clear hlv hhs
    go_wp2_with fail
    go_quiet (fail)
    have HNG : Hid (rb X.E ≠ some g) := Lib.hid (fun e => by have := HTW.out.lt g (.inr (.inr (.inl e))); have := HGE.out; omega)
    have HT5 : Hid (Pt (w_.drewN nq) b T X) := Lib.hid (HT4.out.gro ((Gro.refl _).drewN nq))
    have HS5 : Hid (Blk (w_.drewN nq) gs 90 #[.int .u8 s.p.toNat, .int .u16 s.v.toNat, .int .u8 s.l.toNat, .bool s.u]) := Lib.hid (HS4.out.drewN nq)
    have HM5 : Hid (Blk (w_.drewN nq) (g + 1) 59 #[.int .i64 m.a, .int .u16 m.m.toNat, .int .u8 m.p.toNat, .bool m.u]) := Lib.hid (HM4.out.drewN nq)
    have HP5 : Hid (Blk (w_.drewN nq) g 26 #[.pointer (some ⟨b, 0, none⟩)]) := Lib.hid (HP4.out.drewN nq)
    have HB5 : Hid (Gro w (w_.drewN nq)) := Lib.hid (HB4.out.drewN nq)
    obtain ⟨w5, hw5⟩ : ∃ w5, w_.drewN nq = w5 := ⟨_, rfl⟩
    rw [hw5] at HT5 HS5 HM5 HP5 HB5 ⊢
    clear hw5 hlook c3 s0 s1 s2 p0 HT4 HS4 HM4 HP4 HB4
    have s2 := HS5.out.cell 2
    simp only [List.getElem?_toArray, List.getElem?_cons_succ, List.getElem?_cons_zero] at s2
    have m0 := HM5.out.cell 0
    have m1 := HM5.out.cell 1
    have m2 := HM5.out.cell 2
    have m3 := HM5.out.cell 3
    simp only [List.getElem?_toArray, List.getElem?_cons_succ, List.getElem?_cons_zero] at m0 m1 m2 m3
    have p0 := HP5.out.cell 0
    simp only [List.getElem?_toArray, List.getElem?_cons_succ, List.getElem?_cons_zero] at p0
    have d0 : w5.drew.cell? ⟨g, 0, none⟩ = some (.pointer (some ⟨b, 0, none⟩)) := p0
    have e0 : w5.drew.cell? ⟨g + 1, 0, none⟩ = some (.int .i64 m.a) := m0
    have e1 : w5.drew.cell? ⟨g + 1, 1, none⟩ = some (.int .u16 m.m.toNat) := m1
    have e2 : w5.drew.cell? ⟨g + 1, 2, none⟩ = some (.int .u8 m.p.toNat) := m2
    have e3 : w5.drew.cell? ⟨g + 1, 3, none⟩ = some (.bool m.u) := m3
    have zd := fun o => cell_adP d0 o
    have ze0 := fun o => cell_adP e0 o
    have ze1 := fun o => cell_adP e1 o
    have ze2 := fun o => cell_adP e2 o
    have ze3 := fun o => cell_adP e3 o
    cases hs
    · 
      have HD : Hid (T.addE m = ({ T with E := T.E ++ [m] }, 0)) := Lib.hid (by unfold Tb.addE; rw [if_neg (by rw [HQ0.out]; decide), if_neg (by rw [HCL.out]; decide), if_neg (by rw [HUM.out]; simp)])
      have HIV : Hid (TbInv (T.addE m).1) := Lib.hid (inv_addE HT5.out.inv m)
      obtain ⟨i0, hi⟩ := info_parts cloM_info
      have HI := Lib.hid hi
      have HLN : Hid (T.E.length + 1 ≤ 1000000) := Lib.hid (by have := HLE.out; omega)
      have HOA : Hid ((w5.drew.alloc (.cells #[.int .i64 m.a, .int .u16 m.m.toNat, .int .u8 m.p.toNat, .bool m.u] 59)).ownsRow 0 59 4 (.slice X.E nE X.ce) T.E.length (T.E.flatMap mpE)) := Lib.hid (by
        have := (HT5.out.drew.next (w' := w5.drew.alloc (.cells #[.int .i64 m.a, .int .u16 m.m.toNat, .int .u8 m.p.toNat, .bool m.u] 59)) ((Below.refl _ _).alloc (Nat.le_refl _) _)).rowE
        rw [HNE.out] at this ⊢
        exact this)
      have HEO : Hid (Els 4 mpE (w5.drew.alloc (.cells #[.int .i64 m.a, .int .u16 m.m.toNat, .int .u8 m.p.toNat, .bool m.u] 59)) (some ⟨w5.heap.size, 0, none⟩) [m]) := Lib.hid (els_one16 w5.drew 59 m _ rfl)
      have c2 := HT5.out.drew.c2
      rw [HNE.out] at c2
      have z1 := fun o => cell_adP c2 o
      clear hi
      go_wp2_with fail
      go_region_law (refine step_appL rfl (.tmp 58) (.tmp 60) 53 rfl mpE_len cloM_one (by decide) 0 59 i0 (.agg #[.int .i64 0, .int .u16 0, .int .u8 0, .bool false]) 16 Try.underlying53 HI.out rfl (.slice X.E nE X.ce) T.E (by simp [Act.eval, Act.put]) HOA.out (some ⟨w5.heap.size, 0, none⟩) 1 1 [m] rfl (by simp [Act.eval, Act.put]) (fun e => by cases e) HEO.out HLN.out (by omega) (Nat.zero_le _) ?_; intro v6 w6 ho6 hg6 hob; rw [← HNE.out] at hg6 hob; have t0 := push_cell hg6 p0 HNG.out; have hc6 := pushE_cell HT5.out hg6; have s0 := hc6.1; have f0 := hc6.2; obtain ⟨A6, c6, hv6, hT6, hC6, hR6⟩ := pushE_end HT5.out m (T' := (T.addE m).1) (by rw [HD.out]) HIV.out ho6 hg6 hob; subst hv6; rw [HNE.out] at s0 hT6 hC6 ⊢; have HST := Lib.hid (And.intro hT6 (And.intro hC6 hR6)); clear ho6 hg6 hob hc6 hT6 hC6 hR6)
      all_goals (
        go_wp2_with fail
        go_ret
        obtain ⟨hT6, hC6, hR6⟩ := HST.out
        refine ⟨by rw [HD.out]; rfl, _, hT6, (Chg.of_below HB5.out.below).also hC6 (fun k _ hk => hk), ?_⟩
        rintro k (e | e | e | e | ⟨x, hx, e⟩)
        · exact .inl (.inl e)
        · exact .inl (.inr (.inl e))
        · rcases hR6 k e with e | e
          · exact .inl (.inr (.inr (.inl e)))
          · exact .inr (Nat.le_trans HB5.out.size e)
        · exact .inl (.inr (.inr (.inr (.inl e))))
        · exact .inl (.inr (.inr (.inr (.inr ⟨x, hx, e⟩)))))
    · by_cases hle : lv.toNat ≤ s.l.toNat
      · have hlz : (lv.toNat : Int) ≤ (s.l.toNat : Int) := by omega
        have HD : Hid (T.addE m = (T, 9)) := Lib.hid (by unfold Tb.addE; rw [if_neg (by rw [HQ0.out]; decide), if_neg (by rw [HCL.out]; decide), if_pos (by rw [HUM.out, decide_eq_true hle]; rfl)])
        clear hle
        go_wp2
        go_ret
        rw [HD.out]
        exact ⟨rfl, PtTo.same HTW.out HB5.out.below⟩
      · have hlz : ¬ (lv.toNat : Int) ≤ (s.l.toNat : Int) := by omega
        have HUN : Hid (decide (lv.toNat ≤ s.l.toNat) = false) := Lib.hid (decide_eq_false hle)
        clear hle
        have HD : Hid (T.addE m = ({ T with E := T.E ++ [m] }, 0)) := Lib.hid (by unfold Tb.addE; rw [if_neg (by rw [HQ0.out]; decide), if_neg (by rw [HCL.out]; decide), if_neg (by rw [HUM.out]; rw [HUN.out]; decide)])
        have HIV : Hid (TbInv (T.addE m).1) := Lib.hid (inv_addE HT5.out.inv m)
        obtain ⟨i0, hi⟩ := info_parts cloM_info
        have HI := Lib.hid hi
        have HLN : Hid (T.E.length + 1 ≤ 1000000) := Lib.hid (by have := HLE.out; omega)
        have HOA : Hid ((w5.drew.alloc (.cells #[.int .i64 m.a, .int .u16 m.m.toNat, .int .u8 m.p.toNat, .bool m.u] 59)).ownsRow 0 59 4 (.slice X.E nE X.ce) T.E.length (T.E.flatMap mpE)) := Lib.hid (by
          have := (HT5.out.drew.next (w' := w5.drew.alloc (.cells #[.int .i64 m.a, .int .u16 m.m.toNat, .int .u8 m.p.toNat, .bool m.u] 59)) ((Below.refl _ _).alloc (Nat.le_refl _) _)).rowE
          rw [HNE.out] at this ⊢
          exact this)
        have HEO : Hid (Els 4 mpE (w5.drew.alloc (.cells #[.int .i64 m.a, .int .u16 m.m.toNat, .int .u8 m.p.toNat, .bool m.u] 59)) (some ⟨w5.heap.size, 0, none⟩) [m]) := Lib.hid (els_one16 w5.drew 59 m _ rfl)
        have c2 := HT5.out.drew.c2
        rw [HNE.out] at c2
        have z1 := fun o => cell_adP c2 o
        clear hi
        go_wp2_with fail
        go_region_law (refine step_appL rfl (.tmp 58) (.tmp 60) 53 rfl mpE_len cloM_one (by decide) 0 59 i0 (.agg #[.int .i64 0, .int .u16 0, .int .u8 0, .bool false]) 16 Try.underlying53 HI.out rfl (.slice X.E nE X.ce) T.E (by simp [Act.eval, Act.put]) HOA.out (some ⟨w5.heap.size, 0, none⟩) 1 1 [m] rfl (by simp [Act.eval, Act.put]) (fun e => by cases e) HEO.out HLN.out (by omega) (Nat.zero_le _) ?_; intro v6 w6 ho6 hg6 hob; rw [← HNE.out] at hg6 hob; have t0 := push_cell hg6 p0 HNG.out; have hc6 := pushE_cell HT5.out hg6; have s0 := hc6.1; have f0 := hc6.2; obtain ⟨A6, c6, hv6, hT6, hC6, hR6⟩ := pushE_end HT5.out m (T' := (T.addE m).1) (by rw [HD.out]) HIV.out ho6 hg6 hob; subst hv6; rw [HNE.out] at s0 hT6 hC6 ⊢; have HST := Lib.hid (And.intro hT6 (And.intro hC6 hR6)); clear ho6 hg6 hob hc6 hT6 hC6 hR6)
        all_goals (
          go_wp2_with fail
          go_ret
          obtain ⟨hT6, hC6, hR6⟩ := HST.out
          refine ⟨by rw [HD.out]; rfl, _, hT6, (Chg.of_below HB5.out.below).also hC6 (fun k _ hk => hk), ?_⟩
          rintro k (e | e | e | e | ⟨x, hx, e⟩)
          · exact .inl (.inl e)
          · exact .inl (.inr (.inl e))
          · rcases hR6 k e with e | e
            · exact .inl (.inr (.inr (.inl e)))
            · exact .inr (Nat.le_trans HB5.out.size e)
          · exact .inl (.inr (.inr (.inr (.inl e))))
          · exact .inl (.inr (.inr (.inr (.inr ⟨x, hx, e⟩)))))
end
end Go.Proofs.Ytfdiolfelecccaa
