/- Layer 8: what the document's calls make of its table; the law's same. -/
import Derived.Test.YtlofaahckdfeiaaRz
import Derived.Test.YtlofaahckdfeiaaRx
import Derived.Test.YtlofaahckdfeiaaArg
import Derived.Test.YtlofaahckdfeiaaWakes
import Derived.Shelf.SlSortCmp.QuietGrown
import Derived.BigQuiet
import Derived.Deep.QuietTactic
namespace Go.Proofs.Ytlofaahckdfeiaa
open Go.RowKit Go.Shelf
open Go.Sort (grow)
set_option linter.unusedVariables false
set_option linter.unusedSimpArgs false
set_option maxRecDepth 100000

/-- the document's table as a value -/
def RvT (Y : Nat → Prop) (w : World) (v : Value) (L : List En) (S : List (Pl × UInt8)) : Prop := ∃ A c B d, v = .agg #[.slice A L.length c, .slice B S.length d] ∧ RvE Y w A c L B d S
theorem learn_R {w : World} {Y : Nat → Prop} {A B : Option Addr} {c d : Nat} {L : List En} {S : List (Pl × UInt8)} (h : RvE Y w A c L B d S) (hY : ∀ k, w.heap.size ≤ k → Y k) (v : UInt16) (m : Mc) (p : UInt8) :
    Calls Try.prog 17 #[.agg #[.slice A L.length c, .slice B S.length d], .int .u16 v.toNat, mV m, .int .u8 p.toNat] w fun e w' => ∃ v', e = .returned v' ∧ RvT Y w' v' (llearn L S ⟨v, m⟩ p) (S) ∧ Below w.heap.size w w' := by
  cases hb : bad0 v m p with
  | true =>
    have e : llearn L S ⟨v, m⟩ p = L := by
      unfold llearn badLearn
      unfold bad0 at hb
      show (if (grp m || decide (8 ≤ p.toNat) || !okVid v || shas S ⟨v, m⟩) = true then L else _) = _
      rw [hb]
      rfl
    rw [e]
    exact (learn_bad_ref h v m p hb).mono fun _ _ ⟨A', c', he, hr, hw⟩ => ⟨_, he, ⟨_, _, _, _, rfl, hr⟩, hw⟩
  | false =>
    cases hs : shas S ⟨v, m⟩ with
    | true =>
      have e : llearn L S ⟨v, m⟩ p = L := by
        unfold llearn badLearn
        rw [hs, Bool.or_true]
        rfl
      rw [e]
      exact (learn_st_ref h v m p hb hs).mono fun _ _ ⟨A', c', he, hr, hw⟩ => ⟨_, he, ⟨_, _, _, _, rfl, hr⟩, hw⟩
    | false => exact (learn_ok_ref h hY v m p hb hs).mono fun _ _ ⟨A', c', he, hr, hw⟩ => ⟨_, he, ⟨_, _, _, _, rfl, hr⟩, hw⟩
theorem tick_R {w : World} {Y : Nat → Prop} {A B : Option Addr} {c d : Nat} {L : List En} {S : List (Pl × UInt8)} (h : RvE Y w A c L B d S) (hY : ∀ k, w.heap.size ≤ k → Y k) (ho : ∀ e ∈ L, e.a < 40) :
    Calls Try.prog 9 #[.agg #[.slice A L.length c, .slice B S.length d]] w fun e w' => ∃ v', e = .returned v' ∧ RvT Y w' v' (ltick L) (S) ∧ Below w.heap.size w w' := by
  exact (tick_ref h hY ho).mono fun _ _ ⟨A', c', he, hr, hw⟩ => ⟨_, he, ⟨_, _, _, _, rfl, hr⟩, hw⟩
theorem flush_R {w : World} {Y : Nat → Prop} {A B : Option Addr} {c d : Nat} {L : List En} {S : List (Pl × UInt8)} (h : RvE Y w A c L B d S) (hY : ∀ k, w.heap.size ≤ k → Y k) (s : UInt8) :
    Calls Try.prog 11 #[.agg #[.slice A L.length c, .slice B S.length d], .int .u8 s.toNat] w fun e w' => ∃ v', e = .returned (.tuple #[v', .int .i64 ((L.length : Int) - ((lflush L s).length : Int))]) ∧ RvT Y w' v' (lflush L s) (S) ∧ Below w.heap.size w w' := by
  exact (flush_ref h hY s).mono fun _ _ ⟨A', c', he, hr, hw⟩ => ⟨_, he, ⟨_, _, _, _, rfl, hr⟩, hw⟩
theorem set_R {w : World} {Y : Nat → Prop} {A B : Option Addr} {c d : Nat} {L : List En} {S : List (Pl × UInt8)} (h : RvE Y w A c L B d S) (hY : ∀ k, w.heap.size ≤ k → Y k) (hnd : Nd S) (v : UInt16) (m : Mc) (s : UInt8) :
    Calls Try.prog 13 #[.agg #[.slice A L.length c, .slice B S.length d], .int .u16 v.toNat, mV m, .int .u8 s.toNat] w fun e w' => ∃ v', e = .returned (.tuple #[v', .int .i64 (sete S ⟨v, m⟩ : Nat)]) ∧ RvT Y w' v' (setL L S ⟨v, m⟩) (setS S ⟨v, m⟩ s) ∧ Below w.heap.size w w' := by
  cases h3 : okVid v with
  | false =>
    have e : sete S ⟨v, m⟩ = 2 := by unfold sete; simp [h3]
    have e1 : setL L S ⟨v, m⟩ = L := by unfold setL; simp [e]
    have e2 : setS S ⟨v, m⟩ s = S := by unfold setS; simp [e]
    rw [e, e1, e2]
    exact (set_bad_ref h v m s h3).mono fun _ _ ⟨A', c', B', d', he, hr, hw⟩ => ⟨_, he, ⟨_, _, _, _, rfl, hr⟩, hw⟩
  | true =>
    by_cases h4 : shas S ⟨v, m⟩ = false ∧ 16 ≤ S.length
    · have e : sete S ⟨v, m⟩ = 6 := by unfold sete; simp [h3, h4]
      have e1 : setL L S ⟨v, m⟩ = L := by unfold setL; simp [e]
      have e2 : setS S ⟨v, m⟩ s = S := by unfold setS; simp [e]
      rw [e, e1, e2]
      exact (set_full_ref h v m s h3 h4.1 h4.2).mono fun _ _ ⟨A', c', B', d', he, hr, hw⟩ => ⟨_, he, ⟨_, _, _, _, rfl, hr⟩, hw⟩
    · have e : sete S ⟨v, m⟩ = 0 := by unfold sete; rw [if_pos h3, if_neg h4]
      have e1 : setL L S ⟨v, m⟩ = lwo L ⟨v, m⟩ := by unfold setL; simp [e]
      have e2 : setS S ⟨v, m⟩ s = sput S ⟨v, m⟩ s := by unfold setS; simp [e]
      rw [e, e1, e2]
      have h5 : shas S ⟨v, m⟩ = true ∨ S.length < 16 := by
        cases h6 : shas S ⟨v, m⟩ with
        | true => exact .inl rfl
        | false => exact .inr (by have : ¬ 16 ≤ S.length := fun hh => h4 ⟨h6, hh⟩; omega)
      exact (set_ok_ref h hY hnd v m s h3 h5).mono fun _ _ ⟨A', c', B', d', he, hr, hw⟩ => ⟨_, he, ⟨_, _, _, _, rfl, hr⟩, hw⟩
theorem drop_R {w : World} {Y : Nat → Prop} {A B : Option Addr} {c d : Nat} {L : List En} {S : List (Pl × UInt8)} (h : RvE Y w A c L B d S) (hY : ∀ k, w.heap.size ≤ k → Y k) (hnd : Nd S) (v : UInt16) (m : Mc) :
    Calls Try.prog 15 #[.agg #[.slice A L.length c, .slice B S.length d], .int .u16 v.toNat, mV m] w fun e w' => ∃ v', e = .returned (.tuple #[v', .int .i64 (drope S ⟨v, m⟩ : Nat)]) ∧ RvT Y w' v' (L) (dropS S ⟨v, m⟩) ∧ Below w.heap.size w w' := by
  cases h3 : okVid v with
  | false =>
    have e : drope S ⟨v, m⟩ = 2 := by unfold drope; simp [h3]
    have e2 : dropS S ⟨v, m⟩ = S := by unfold dropS; simp [e]
    rw [e, e2]
    exact (drop_bad_ref h v m h3).mono fun _ _ ⟨A', c', B', d', he, hr, hw⟩ => ⟨_, he, ⟨_, _, _, _, rfl, hr⟩, hw⟩
  | true =>
    cases h4 : shas S ⟨v, m⟩ with
    | false =>
      have e : drope S ⟨v, m⟩ = 7 := by unfold drope; simp [h3, h4]
      have e2 : dropS S ⟨v, m⟩ = S := by unfold dropS; simp [e]
      rw [e, e2]
      exact (drop_none_ref h v m h3 h4).mono fun _ _ ⟨A', c', B', d', he, hr, hw⟩ => ⟨_, he, ⟨_, _, _, _, rfl, hr⟩, hw⟩
    | true =>
      have e : drope S ⟨v, m⟩ = 0 := by unfold drope; simp [h3, h4]
      have e2 : dropS S ⟨v, m⟩ = sdel S ⟨v, m⟩ := by unfold dropS; simp [e]
      rw [e, e2]
      exact (drop_ok_ref h hY hnd v m h3 h4).mono fun _ _ ⟨A', c', B', d', he, hr, hw⟩ => ⟨_, he, ⟨_, _, _, _, rfl, hr⟩, hw⟩

theorem cell_grA {w : World} {a : Addr} {v : Value} (h : w.cell? a = some v) (n : Nat) (os : Array Obj) : (grow (w.drewN n) os).cell? a = some v := cell_grown (World.block_lt_of_cell? w _ h) h n os
set_option maxHeartbeats 8000000 in
theorem same_any {w : World} {t : Nat} {X Y : Nat → Prop} {A B : Option Addr} {c d : Nat} {L : List En} {S : List (Pl × UInt8)} (hD : Db w t X L S) (h : RvE Y w A c L B d S) :
    Calls Try.prog 20 #[.pointer (some ⟨t, 0, none⟩), .agg #[.slice A L.length c, .slice B S.length d]] w fun e w' => e = .returned (.bool true) ∧ Below w.heap.size w w' := by
  obtain ⟨w1, hw1⟩ : ∃ w1, w.alloc (.cells #[.slice A L.length c, .slice B S.length d] 32) = w1 := ⟨_, rfl⟩
  obtain ⟨g, hg⟩ : ∃ g, w.heap.size = g := ⟨_, rfl⟩
  have HG := Lib.hid (show Gro w w1 by rw [← hw1]; exact (Gro.refl w).alloc _)
  have HB := Lib.hid (show Blk w1 g 32 #[.slice A L.length c, .slice B S.length d] by rw [← hw1, ← hg]; exact Blk.new w _ _)
  have HR := Lib.hid (h.gro HG.out)
  have HD := Lib.hid (hD.gro HG.out)
  obtain ⟨n, hn⟩ : ∃ n, L.length = n := ⟨_, rfl⟩
  obtain ⟨k, hk⟩ : ∃ k, S.length = k := ⟨_, rfl⟩
  have HN := Lib.hid (And.intro hn hk)
  have hn32 : n ≤ 32 := by rw [← hn]; exact h.l32
  rw [hn, hk] at HB
  clear h hD hn hk
  go_enter Try.func20, Try.ntmps20
  go_upto_region 1 with fail
  clear hw1 hg
  go_wp2_with fail
  refine (list_db HD.out).mono ?_
  rintro e w2 ⟨A2, c2, rfl, hE, hb⟩
  rw [HN.out.1]
  have HE := Lib.hid hE
  have HD2 := Lib.hid (HD.out.next hb)
  have HR2 := Lib.hid (HR.out.next hb)
  have HB2 := Lib.hid (HB.out.below hb HB.out.lt)
  have HW2 := Lib.hid (HG.out.below.trans (hb.mono HG.out.size))
  clear hE hb HD HR HB HG
  have c0 := HB2.out.cell 0
  have c1 := HB2.out.cell 1
  simp only [List.getElem?_toArray, List.getElem?_cons_succ, List.getElem?_cons_zero] at c0 c1
  have g0 := fun n os => cell_grA c0 n os
  have g1 := fun n os => cell_grA c1 n os
  have mixed : Try.prog.follows .mixedOrders = true := by kernel_rfl
  have kA : ∀ n os, Calls Try.prog 22 #[.pointer (some ⟨t, 0, none⟩)] (grow (w2.drewN n) os) fun e w' => e = .returned (.int .i64 k) ∧ ∃ q os', w' = grow ((grow (w2.drewN n) os).drewN q) os' := fun n os => by
    have := statics_db (HD2.out.gro (Gro.of_grow n os))
    rw [HN.out.2] at this
    exact this.mono fun _ _ h => ⟨h.1, h.2.out⟩
  go_wp2_with fail
  refine wp_region_quiet_grown mixed (by kernel_rfl) ?_
  repeat (first | go_big_quiet_step ((go_at_call 22; exact Calls.grown_of (kA _ _))) | quiet_step ((go_at_call 22; exact Calls.grown_of (kA _ _))))
  refine wpQuiet_nil ?_
  intro _ hw'
  obtain ⟨⟨nq, osq⟩, hw''⟩ := hw'
  subst hw''
  clear g0 g1 kA c0 c1 mixed
  have HGW := Lib.hid (Gro.of_grow (w := w2) nq osq)
  obtain ⟨w3, hw3⟩ : ∃ w3, grow (w2.drewN nq) osq = w3 := ⟨_, rfl⟩
  rw [hw3] at HGW
  have HE3 := Lib.hid (HE.out.next HGW.out.below)
  have HR3 := Lib.hid (HR2.out.gro HGW.out)
  have HB3 := Lib.hid (HGW.out.blk HB2.out)
  have HW3 := Lib.hid (HW2.out.trans (HGW.out.below.mono HW2.out.size))
  try rw [hw3]
  clear hw3 HGW HE HR2 HB2 HW2 HD2
  go_wp2_with fail
  go_loopw [6] (fun i wr => ∃ j : Nat, j ≤ n ∧ i = .int .i64 j ∧ Hid (Gro w3 wr)) (fun i _ => n - (intOf i).toNat)
  case atStart => exact ⟨0, Nat.zero_le _, rfl, Lib.hid (Gro.refl _)⟩
  case round =>
    obtain ⟨j, hj, rfl, HGr⟩ := hrel
    by_cases hlt : j < n
    · obtain ⟨x, hx⟩ : ∃ x, L[j]? = some x := ⟨_, List.getElem?_eq_getElem (by rw [HN.out.1]; exact hlt)⟩
      obtain ⟨b, off, rfl, hb, e0, e1, e2, e3, e4, e5, e6, e7, e8⟩ := en_at (HE3.out.next HGr.out.below) hx
      obtain ⟨b', off', rfl, hb', d0, d1, d2, d3, d4, d5, d6, d7, d8⟩ := en_at (HR3.out.elL.next HGr.out.below) hx
      have c0 := (HGr.out.blk HB3.out).cell 0
      simp only [List.getElem?_toArray, List.getElem?_cons_succ, List.getElem?_cons_zero] at c0
      have hji : (j : Int) < n := by omega
      have q := fun w => run_eqM x.k.m x.k.m w
      clear hx hb hb'
      go_wp2_with fail
      go_quiet (fail)
      go_wp2
      go_roundw
      case rel => exact ⟨j + 1, by omega, by go_num, Lib.hid (HGr.out.drewN _)⟩
      case measure => simp [intOf]; omega
    · obtain rfl : j = n := by omega
      go_wp2
      go_ret
      exact ⟨rfl, HW3.out.trans (HGr.out.below.mono HW3.out.size)⟩
end Go.Proofs.Ytlofaahckdfeiaa
