/- Layer 8: List's row is a new one; the laws' does, may. -/
import Derived.Test.YtlofaahckdfeiaaLst
import Derived.OwnWalk
namespace Go.Proofs.Ytlofaahckdfeiaa
open Go.RowKit
set_option linter.unusedVariables false
set_option linter.unusedSimpArgs false
set_option maxRecDepth 100000

theorem own_fullE {α : Type} {k : Nat} {enc : α → List Value} (hk : ∀ x, (enc x).length = k) {w : World} {base : Nat} {t : TypeId} {v : Value} {l : List α} (h : w.ownsRow base t k v l.length (l.flatMap enc)) :
    ∃ A c, v = .slice A l.length c ∧ Els k enc w A l ∧ l.length ≤ c ∧ (A = none → c = 0) ∧ ∀ a, A = some a → base ≤ a.block ∧ a.block < w.heap.size := by
  obtain ⟨A, c, rfl, hE, _⟩ := own_elsB hk h
  refine ⟨A, c, rfl, hE, ?_⟩
  rcases h.2 with ⟨e, h0⟩ | ⟨g, cap, cur, e, hb, hg, h1, h2, h3, h4⟩
  · simp only [Value.slice.injEq] at e
    exact ⟨by omega, fun _ => e.2.2, fun a ha => by rw [e.1] at ha; cases ha⟩
  · simp only [Value.slice.injEq] at e
    refine ⟨by omega, fun ha => (by rw [e.1] at ha; cases ha), fun a ha => ?_⟩
    rw [e.1] at ha
    cases ha
    exact ⟨hb, (Array.getElem?_eq_some_iff.1 hg).1⟩
set_option maxHeartbeats 2000000 in
theorem clone_fr (w : World) (d : List En) (A : Option Addr) (c : Nat) (hd : d.length ≤ 1000) (hA : A = none → d = [] ∧ c = 0) (hb0 : ∀ a, A = some a → ∃ b, a = ⟨b, 0, none⟩) (hE : Els 9 enV w A d) :
    Calls Try.prog 36 #[.slice A d.length c] w fun e w' => ∃ A' c', e = .returned (.slice A' d.length c') ∧ Els 9 enV w' A' d ∧ (∀ a, A' = some a → w.heap.size ≤ a.block) ∧ Below w.heap.size w w' := by
  cases A with
  | none =>
    obtain ⟨rfl, rfl⟩ := hA rfl
    have q := fun (w : World) => Lib.run_eql_slice_nil (P := Try.prog) w 51 64 none 0 0 0 0 Try.underlying51
    go_enter Try.func36, Try.ntmps36
    go_wp2
    go_ret
    exact ⟨none, ⟨0, rfl⟩, fun h => absurd h (by simp), fun a e => (by cases e), Below.refl _ _⟩
  | some a =>
    obtain ⟨b, rfl⟩ := hb0 a rfl
    obtain ⟨i0, hi0, hz0, hz1, hz2⟩ := infoE3
    have HI := Lib.hid (And.intro hi0 (And.intro hz0 (And.intro hz1 hz2)))
    obtain ⟨n, hn⟩ : ∃ n, d.length = n := ⟨_, rfl⟩
    have HN := Lib.hid hn
    obtain ⟨news, hnews⟩ : ∃ l, d.flatMap enV = l := ⟨_, rfl⟩
    have s1 : Hid (news.length = n * 9) := Lib.hid (by rw [← hnews, flat9, hn])
    have s3 : Hid (∀ u ∈ news, u.oneCell' = true) := Lib.hid (by rw [← hnews]; exact flat_one9 _)
    have s2 : Hid (∀ j u, news[j]? = some u → (w.alloc (.cells #[] 64)).cell? ((⟨b, 0, none⟩ : Addr).add j) = some u) := Lib.hid (by
      intro j u hu
      have hadd : (⟨b, 0, none⟩ : Addr).add j = ⟨b, j, none⟩ := by unfold Addr.add; split <;> simp_all
      rw [hadd]
      refine Lib.cell?_alloc_some _ ?_
      have hj : j < d.length * 9 := by
        have := (List.getElem?_eq_some_iff.1 hu).1
        rw [← hnews, flat9] at this
        exact this
      have hdm := Nat.div_add_mod j 9
      obtain ⟨b', off, e, _, hc⟩ := hE (by omega)
      cases e
      have hq : j / 9 < d.length := by omega
      have := hc (j / 9) hq (j % 9) u (by
        rw [← flat_at 9 enV enV_len d (j / 9) hq (j % 9) (Nat.mod_lt _ (by omega)), hnews, show j / 9 * 9 + j % 9 = j by omega]
        exact hu)
      rw [show 0 + j / 9 * 9 + j % 9 = j by omega] at this
      exact this)
    have HNW := Lib.hid hnews
    rw [hn] at hd ⊢
    clear hn hnews hE hA hb0 hi0 hz0 hz1 hz2
    have q := fun (w : World) => Lib.run_eql_slice_nil (P := Try.prog) w 51 64 (some ⟨b, 0, none⟩) n c 0 0 Try.underlying51
    go_enter Try.func36, Try.ntmps36
    go_wp2_with (at_builtin; refine wpl_append_own rfl (.tmp 5) (.tmp 6) 51 rfl w.heap.size 64 i0 (.agg #[.int .u16 0, .int .u8 0, .int .u8 0, .int .u8 0, .int .u8 0, .int .u8 0, .int .u8 0, .int .u8 0, .int .i64 0]) 9 24 Try.underlying51 HI.out.1 HI.out.2.1 HI.out.2.2.1 HI.out.2.2.2 rfl (by decide) (.slice (some ⟨w.heap.size, 0, none⟩) 0 0) 0 [] rfl (World.ownsRow_made w #[] 0 (Nat.le_refl _) (Nat.zero_le _) (by simp)) ⟨b, 0, none⟩ n c news rfl s1.out s2.out s3.out (by unfold maxLen; omega) (by omega) (by simp) ?_; intro v6 w6 ho6 hg6)
    rw [List.nil_append, Nat.zero_add] at ho6
    have HO := Lib.hid ho6
    have HB : Hid (Below w.heap.size w w6) := Lib.hid (((Below.refl _ w).alloc (Nat.le_refl _) _).grown hg6 (by simp) (by intro k hk; simp [Value.ownBlock] at hk; omega))
    clear ho6 hg6
    go_wp2
    go_ret
    have hO' : w6.ownsRow w.heap.size 64 9 v6 d.length (d.flatMap enV) := by rw [HN.out, HNW.out]; exact HO.out
    obtain ⟨A', c', hv, hE', _, _, hfr⟩ := own_fullE (k := 9) (enc := enV) enV_len hO'
    rw [HN.out] at hv
    exact ⟨A', c', ret_ hv, hE', fun a e => (hfr a e).1, HB.out⟩
set_option maxHeartbeats 1000000 in
theorem list_fr {w : World} {t c : Nat} {A : Option Addr} {mb : Option Nat} {L : List En} {S : List (Pl × UInt8)} (h : Tab w t A c mb L S) : Calls Try.prog 21 #[.pointer (some ⟨t, 0, none⟩)] w fun e w' => ∃ A' c', e = .returned (.slice A' L.length c') ∧ Els 9 enV w' A' L ∧ (∀ a, A' = some a → w.heap.size ≤ a.block) ∧ Below w.heap.size w w' := by
  have c0 := h.c0
  have hC := clone_fr w L A c (by have := h.l32; omega) (fun e => by subst e; exact h.nil0) h.off0 h.els
  have HC := Lib.hid hC
  obtain ⟨n, hn⟩ : ∃ n, L.length = n := ⟨_, rfl⟩
  have HN := Lib.hid hn
  rw [hn] at c0 HC ⊢
  clear h hC hn
  go_enter Try.func21, Try.ntmps21
  go_wp2_with fail
  refine HC.out.mono ?_
  rintro e w1 ⟨A', c', rfl, hE, hfr, hb⟩
  have HE := Lib.hid hE
  have HB := Lib.hid hb
  have HFR := Lib.hid hfr
  clear HC hE hb hfr
  go_wp2
  go_ret
  exact ⟨A', c', rfl, HE.out, HFR.out, HB.out⟩

theorem list_dbf {w : World} {t : Nat} {X : Nat → Prop} {L : List En} {S : List (Pl × UInt8)} (h : Db w t X L S) : Calls Try.prog 21 #[.pointer (some ⟨t, 0, none⟩)] w fun e w' => ∃ A' c', e = .returned (.slice A' L.length c') ∧ Els 9 enV w' A' L ∧ (∀ a, A' = some a → w.heap.size ≤ a.block) ∧ Below w.heap.size w w' := by
  obtain ⟨A, c, mb, hT, hX⟩ := h.tab
  exact list_fr hT
theorem DbTo.pre {w w1 w' : World} {t : Nat} {X : Nat → Prop} {L : List En} {S : List (Pl × UInt8)} (hg : Gro w w1) (d : DbTo w1 w' t X L S) : DbTo w w' t X L S := by
  obtain ⟨X', h', hc, hk⟩ := d
  exact ⟨X', h', (Chg.of_below hg.below).trans hc, fun k e => (hk k e).imp_right (fun e => Nat.le_trans hg.size e)⟩
abbrev aV (a : Ac) : Value := .agg #[.int .u8 a.d.toNat, .int .u16 a.k.v.toNat, .int .u8 a.k.m.a.toNat, .int .u8 a.k.m.b.toNat, .int .u8 a.k.m.c.toNat, .int .u8 a.k.m.d.toNat, .int .u8 a.k.m.e.toNat, .int .u8 a.k.m.f.toNat, .int .u8 a.p.toNat, .int .u8 a.s.toNat]
theorem accells {w : World} {g : Nat} {a : Ac} (h : Blk w g 34 #[.int .u8 a.d.toNat, .int .u16 a.k.v.toNat, .int .u8 a.k.m.a.toNat, .int .u8 a.k.m.b.toNat, .int .u8 a.k.m.c.toNat, .int .u8 a.k.m.d.toNat, .int .u8 a.k.m.e.toNat, .int .u8 a.k.m.f.toNat, .int .u8 a.p.toNat, .int .u8 a.s.toNat]) : w.cell? ⟨g, 0, none⟩ = some (.int .u8 a.d.toNat) ∧ w.cell? ⟨g, 1, none⟩ = some (.int .u16 a.k.v.toNat) ∧ w.cell? ⟨g, 2, none⟩ = some (.int .u8 a.k.m.a.toNat) ∧ w.cell? ⟨g, 3, none⟩ = some (.int .u8 a.k.m.b.toNat) ∧ w.cell? ⟨g, 4, none⟩ = some (.int .u8 a.k.m.c.toNat) ∧ w.cell? ⟨g, 5, none⟩ = some (.int .u8 a.k.m.d.toNat) ∧ w.cell? ⟨g, 6, none⟩ = some (.int .u8 a.k.m.e.toNat) ∧ w.cell? ⟨g, 7, none⟩ = some (.int .u8 a.k.m.f.toNat) ∧ w.cell? ⟨g, 8, none⟩ = some (.int .u8 a.p.toNat) ∧ w.cell? ⟨g, 9, none⟩ = some (.int .u8 a.s.toNat) :=
  ⟨h.cell 0, h.cell 1, h.cell 2, h.cell 3, h.cell 4, h.cell 5, h.cell 6, h.cell 7, h.cell 8, h.cell 9⟩
theorem d_is {a : Ac} {y : UInt8} {n : Nat} (h : a.d.toNat = n) (hy : y.toNat = n) : a.d = y := UInt8.toNat_inj.1 (h.trans hy.symm)
theorem d_not {a : Ac} {y : UInt8} {n : Nat} (h : ¬ a.d.toNat = n) (hy : y.toNat = n) : a.d ≠ y := fun e => h (by rw [e]; exact hy)
set_option maxHeartbeats 4000000 in
theorem does_any {w : World} {t : Nat} {X : Nat → Prop} {L : List En} {S : List (Pl × UInt8)} (h : Db w t X L S) (a : Ac) : Calls Try.prog 41 #[.pointer (some ⟨t, 0, none⟩), aV a] w fun e w' => e = .returned (.tuple #[]) ∧ DbTo w w' t X (stp (L, S) a).1 (stp (L, S) a).2 := by
  obtain ⟨w1, hw1⟩ : ∃ w1, w.alloc (.cells #[.int .u8 a.d.toNat, .int .u16 a.k.v.toNat, .int .u8 a.k.m.a.toNat, .int .u8 a.k.m.b.toNat, .int .u8 a.k.m.c.toNat, .int .u8 a.k.m.d.toNat, .int .u8 a.k.m.e.toNat, .int .u8 a.k.m.f.toNat, .int .u8 a.p.toNat, .int .u8 a.s.toNat] 34) = w1 := ⟨_, rfl⟩
  obtain ⟨g, hg⟩ : ∃ g, w.heap.size = g := ⟨_, rfl⟩
  have HG := Lib.hid (show Gro w w1 by rw [← hw1]; exact (Gro.refl w).alloc _)
  have HB := Lib.hid (show Blk w1 g 34 #[.int .u8 a.d.toNat, .int .u16 a.k.v.toNat, .int .u8 a.k.m.a.toNat, .int .u8 a.k.m.b.toNat, .int .u8 a.k.m.c.toNat, .int .u8 a.k.m.d.toNat, .int .u8 a.k.m.e.toNat, .int .u8 a.k.m.f.toNat, .int .u8 a.p.toNat, .int .u8 a.s.toNat] by rw [← hw1, ← hg]; exact Blk.new w _ _)
  have HD := Lib.hid (h.gro HG.out)
  clear h
  obtain ⟨a0, a1, a2, a3, a4, a5, a6, a7, a8, a9⟩ := accells HB.out
  go_enter Try.func41, Try.ntmps41
  go_upto_region 1 with fail
  clear hw1 hg
  obtain ⟨y, hy⟩ : ∃ y, a.d.toNat = y := ⟨_, rfl⟩
  have HY := Lib.hid hy
  rw [hy] at a0
  clear hy
  have fin : ∀ (z : Zt), z = stp (L, S) a → True := fun _ _ => trivial
  clear fin
  by_cases h0 : y = 0
  · have HSt := Lib.hid (stp0 (z := (L, S)) (d_is HY.out (by rw [h0]; rfl)))
    subst h0
    go_wp2_with fail
    refine (tick_db HD.out).mono ?_
    rintro e w2 ⟨rfl, hd⟩
    have HT := Lib.hid (hd.pre HG.out)
    clear hd a0 a1 a2 a3 a4 a5 a6 a7 a8 a9
    go_wp2_with fail
    refine bodyPost_end (v := .tuple #[]) ?_ rfl ?_
    · simp [results, Try.results41, go_sem]
    exact ⟨rfl, by rw [HSt.out]; exact HT.out⟩
  by_cases h1 : y = 1
  · have HSt := Lib.hid (stp1 (z := (L, S)) (d_is HY.out (by rw [h1]; rfl)))
    subst h1
    go_wp2_with fail
    refine (flush_db HD.out a.s).mono ?_
    rintro e w2 ⟨rfl, hd⟩
    have HT := Lib.hid (hd.pre HG.out)
    clear hd a0 a1 a2 a3 a4 a5 a6 a7 a8 a9
    go_wp2_with fail
    refine bodyPost_end (v := .tuple #[]) ?_ rfl ?_
    · simp [results, Try.results41, go_sem]
    exact ⟨rfl, by rw [HSt.out]; exact HT.out⟩
  by_cases h2 : y = 2
  · have HSt := Lib.hid (stp2 (z := (L, S)) (d_is HY.out (by rw [h2]; rfl)))
    subst h2
    go_wp2_with fail
    refine (set_db HD.out a.k.v a.k.m a.s).mono ?_
    rintro e w2 ⟨rfl, hd⟩
    have HT := Lib.hid (hd.pre HG.out)
    clear hd a0 a1 a2 a3 a4 a5 a6 a7 a8 a9
    go_wp2_with fail
    refine bodyPost_end (v := .tuple #[]) ?_ rfl ?_
    · simp [results, Try.results41, go_sem]
    exact ⟨rfl, by rw [HSt.out]; exact HT.out⟩
  by_cases h3 : y = 3
  · have HSt := Lib.hid (stp3 (z := (L, S)) (d_is HY.out (by rw [h3]; rfl)))
    subst h3
    go_wp2_with fail
    refine (drop_db HD.out a.k.v a.k.m).mono ?_
    rintro e w2 ⟨rfl, hd⟩
    have HT := Lib.hid (hd.pre HG.out)
    clear hd a0 a1 a2 a3 a4 a5 a6 a7 a8 a9
    go_wp2_with fail
    refine bodyPost_end (v := .tuple #[]) ?_ rfl ?_
    · simp [results, Try.results41, go_sem]
    exact ⟨rfl, by rw [HSt.out]; exact HT.out⟩
  have HSt := Lib.hid (stp4 (z := (L, S)) (d_not (by rw [HY.out]; exact h0) rfl) (d_not (by rw [HY.out]; exact h1) rfl) (d_not (by rw [HY.out]; exact h2) rfl) (d_not (by rw [HY.out]; exact h3) rfl))
  have b0 : ((y : Int) == 0) = false := beq_eq_false_iff_ne.2 (by omega)
  have b1 : ((y : Int) == 1) = false := beq_eq_false_iff_ne.2 (by omega)
  have b2 : ((y : Int) == 2) = false := beq_eq_false_iff_ne.2 (by omega)
  have b3 : ((y : Int) == 3) = false := beq_eq_false_iff_ne.2 (by omega)
  clear h0 h1 h2 h3
  go_wp2_with fail
  refine (learn_db HD.out a.k.v a.k.m a.p).mono ?_
  rintro e w2 ⟨rfl, hd⟩
  have HT := Lib.hid (hd.pre HG.out)
  clear hd a0 a1 a2 a3 a4 a5 a6 a7 a8 a9
  go_wp2_with fail
  refine bodyPost_end (v := .tuple #[]) ?_ rfl ?_
  · simp [results, Try.results41, go_sem]
  exact ⟨rfl, by rw [HSt.out]; exact HT.out⟩

theorem grp_and (m : Mc) : (bits BinOp.and IntKind.u8 (m.a.toNat : Int) 1 == 0) = !grp m := by
  have := u8_and_nat m.a.toNat 1 m.a.toNat_lt (by decide)
  rw [show ((1 : Nat) : Int) = 1 from rfl] at this
  rw [this, nat_mask1]
  unfold grp
  rw [Bool.eq_iff_iff]
  simp only [beq_iff_eq, Bool.not_eq_true', beq_eq_false_iff_ne, ne_eq]
  omega
set_option maxHeartbeats 4000000 in
theorem may_any (w : World) (a : Ac) : Calls Try.prog 38 #[aV a] w fun e w' => e = .returned (.bool (mayB a)) ∧ Gro w w' := by
  obtain ⟨w1, hw1⟩ : ∃ w1, w.alloc (.cells #[.int .u8 a.d.toNat, .int .u16 a.k.v.toNat, .int .u8 a.k.m.a.toNat, .int .u8 a.k.m.b.toNat, .int .u8 a.k.m.c.toNat, .int .u8 a.k.m.d.toNat, .int .u8 a.k.m.e.toNat, .int .u8 a.k.m.f.toNat, .int .u8 a.p.toNat, .int .u8 a.s.toNat] 34) = w1 := ⟨_, rfl⟩
  obtain ⟨g, hg⟩ : ∃ g, w.heap.size = g := ⟨_, rfl⟩
  have HG := Lib.hid (show Gro w w1 by rw [← hw1]; exact (Gro.refl w).alloc _)
  have HB := Lib.hid (show Blk w1 g 34 #[.int .u8 a.d.toNat, .int .u16 a.k.v.toNat, .int .u8 a.k.m.a.toNat, .int .u8 a.k.m.b.toNat, .int .u8 a.k.m.c.toNat, .int .u8 a.k.m.d.toNat, .int .u8 a.k.m.e.toNat, .int .u8 a.k.m.f.toNat, .int .u8 a.p.toNat, .int .u8 a.s.toNat] by rw [← hw1, ← hg]; exact Blk.new w _ _)
  obtain ⟨a0, a1, a2, a3, a4, a5, a6, a7, a8, a9⟩ := accells HB.out
  obtain ⟨r, hr⟩ : ∃ r, mayB a = r := ⟨_, rfl⟩
  have HR := Lib.hid hr
  rw [hr]
  clear hr
  go_enter Try.func38, Try.ntmps38
  go_upto_region 1 with fail
  clear hw1 hg
  by_cases h1 : 3 < a.d.toNat
  · have i1 : (3 : Int) < (a.d.toNat : Int) := by omega
    by_cases h2 : a.p.toNat < 8
    · have i2 : (a.p.toNat : Int) < 8 := by omega
      by_cases h3 : 1 ≤ a.k.v.toNat
      · have i3 : (1 : Int) ≤ (a.k.v.toNat : Int) := by omega
        by_cases h4 : a.k.v.toNat ≤ 4094
        · have i4 : (a.k.v.toNat : Int) ≤ 4094 := by omega
          have HF : Hid (r = !grp a.k.m) := Lib.hid (by rw [← HR.out]; unfold mayB okVid; simp [h1, h2, h3, h4])
          have q := grp_and a.k.m
          clear h1 h2 h3 h4
          go_wp2
          go_ret
          exact ⟨ret_ (congrArg Value.bool (by rw [HF.out])), HG.out⟩
        · have i4 : ¬ (a.k.v.toNat : Int) ≤ 4094 := by omega
          have HF : Hid (r = false) := Lib.hid (by rw [← HR.out]; unfold mayB okVid; simp [h4])
          clear h1 h2 h3 h4
          go_wp2
          go_ret
          exact ⟨ret_ (congrArg Value.bool (by rw [HF.out])), HG.out⟩
      · have i3 : ¬ (1 : Int) ≤ (a.k.v.toNat : Int) := by omega
        have HF : Hid (r = false) := Lib.hid (by rw [← HR.out]; unfold mayB okVid; simp [h3])
        clear h1 h2 h3
        go_wp2
        go_ret
        exact ⟨ret_ (congrArg Value.bool (by rw [HF.out])), HG.out⟩
    · have i2 : ¬ (a.p.toNat : Int) < 8 := by omega
      have HF : Hid (r = false) := Lib.hid (by rw [← HR.out]; unfold mayB okVid; simp [h2])
      clear h1 h2
      go_wp2
      go_ret
      exact ⟨ret_ (congrArg Value.bool (by rw [HF.out])), HG.out⟩
  · have i1 : ¬ (3 : Int) < (a.d.toNat : Int) := by omega
    have HF : Hid (r = false) := Lib.hid (by rw [← HR.out]; unfold mayB okVid; simp [h1])
    clear h1
    go_wp2
    go_ret
    exact ⟨ret_ (congrArg Value.bool (by rw [HF.out])), HG.out⟩
end Go.Proofs.Ytlofaahckdfeiaa
