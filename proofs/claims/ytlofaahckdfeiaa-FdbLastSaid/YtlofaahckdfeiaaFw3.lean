/- slices.Delete and slices.Clone at entries. -/
import Derived.Test.YtlofaahckdfeiaaFw2
import Derived.Deep.RegionLaw
import Derived.Test.YtlofaahckdfeiaaApp
namespace Go.Proofs.Ytlofaahckdfeiaa
open Go.RowKit
set_option linter.unusedVariables false
set_option linter.unusedSimpArgs false
set_option maxRecDepth 100000

theorem infoE : (Try.prog.info? 64).map (fun i => (i.zero, i.size, i.bytes)) = some (some (.agg #[.int .u16 0, .int .u8 0, .int .u8 0, .int .u8 0, .int .u8 0, .int .u8 0, .int .u8 0, .int .u8 0, .int .i64 0]), 9, 24) := by kernel_rfl
theorem infoE3 : ∃ i, Try.prog.info? 64 = some i ∧ i.zero = some (.agg #[.int .u16 0, .int .u8 0, .int .u8 0, .int .u8 0, .int .u8 0, .int .u8 0, .int .u8 0, .int .u8 0, .int .i64 0]) ∧ i.size = 9 ∧ i.bytes = 24 := by
  have h := infoE
  cases hi : Try.prog.info? 64 with
  | none => rw [hi] at h; cases h
  | some i =>
    rw [hi] at h
    simp only [Option.map_some, Option.some.injEq, Prod.mk.injEq] at h
    exact ⟨i, rfl, h.1, h.2.1, h.2.2⟩
theorem flat_one9 (l : List En) : ∀ u ∈ l.flatMap enV, u.oneCell' = true := by
  intro u hu
  obtain ⟨x, _, hx⟩ := List.mem_flatMap.1 hu
  exact enV_one x u hx
section
variable {w w' : World} {g base cap : Nat} {d : List En} {sp : List Value}
/-- all but the first moved to the left -/
theorem RowE.left {k : Nat} (h : RowE w g d sp) (hk : d.length = k + 1) : RowE (w.setCells g 0 ((d.drop 1).flatMap enV)) g (d.drop 1 ++ d.drop k) sp := by
  have e1 : d.flatMap enV ++ sp = [] ++ (d.take k).flatMap enV ++ ((d.drop k).flatMap enV ++ sp) := by
    rw [flat9_split d k]; simp
  unfold RowE at *
  rw [e1] at h
  have := blk_setCells ((d.drop 1).flatMap enV) [] _ _ _ h (by rw [flat9, flat9, List.length_take, List.length_drop]; congr 1; omega)
  simpa using this
end
set_option maxHeartbeats 2000000 in
theorem del1_any (w : World) (d : List En) (v : Value) (base k : Nat) (hk : d.length = k + 1) (h1 : 1 ≤ k) (hd : k ≤ 1000) (ho : w.ownsRow base 64 9 v d.length (d.flatMap enV)) :
    Calls Try.prog 34 #[v, .int .i64 0, .int .i64 1] w fun e w' => ∃ v', e = .returned v' ∧ w'.ownsRow base 64 9 v' (d.drop 1).length ((d.drop 1).flatMap enV) ∧ v'.ownBlock = v.ownBlock ∧ Chg (fun k => v.ownBlock = some k) w w' := by
  rcases ho.2 with ⟨_, h0⟩ | ⟨g, cap, cur, rfl, _⟩
  · omega
  · obtain ⟨_, hcap, hmax, hbase, sp, hrow, hlen⟩ := RowE.of ho
    obtain ⟨i0, hi0, hz0, hz1, hz2⟩ := infoE3
    have HI := Lib.hid (And.intro hi0 hz1)
    have HR := Lib.hid hrow
    have HD := Lib.hid hk
    have HLn := Lib.hid hlen
    have HB := Lib.hid hbase
    have HM := Lib.hid hmax
    have hdl : (d.drop 1).length = k := by rw [List.length_drop, hk]; omega
    have HDL := Lib.hid hdl
    obtain ⟨news, hnews⟩ : ∃ l, (d.drop 1).flatMap enV = l := ⟨_, rfl⟩
    have HNW := Lib.hid hnews
    have s1 : Hid (news.length = k * 9) := Lib.hid (by rw [← hnews, flat9, hdl])
    have s2 : Hid (∀ j u, news[j]? = some u → w.drew.cell? ((⟨g, 9, none⟩ : Addr).add j) = some u) := Lib.hid (by
      intro j u hu
      have hadd : (⟨g, 9, none⟩ : Addr).add j = ⟨g, 9 + j, none⟩ := by unfold Addr.add; split <;> simp_all
      rw [hadd]
      have hb : Blk w.drew g 64 (d.flatMap enV ++ sp).toArray := hrow
      rw [hb.cell, List.getElem?_toArray]
      have hs := flat9_split d 1
      have e1 : ((d.take 1).flatMap enV).length = 9 := by rw [flat9, List.length_take]; omega
      rw [hs, List.append_assoc, List.getElem?_append_right (by omega), e1, show 9 + j - 9 = j by omega, hnews, List.getElem?_append_left (List.getElem?_eq_some_iff.1 hu).1, hu])
    have s3 : Hid (∀ u ∈ news, u.oneCell' = true) := Lib.hid (by rw [← hnews]; exact flat_one9 _)
    have s4 : Hid (∀ j, j < news.length → (w.drew.cell? ⟨g, 0 + 0 * 9 + j, none⟩).isSome = true ∧ w.drew.frozen? ⟨g, 0 + 0 * 9 + j, none⟩ = false) := Lib.hid (by
      intro j hj
      have hb : Blk w.drew g 64 (d.flatMap enV ++ sp).toArray := hrow
      refine ⟨?_, hb.frozen _⟩
      rw [hb.cell, List.getElem?_toArray]
      have hlt : 0 + 0 * 9 + j < (d.flatMap enV ++ sp).length := by
        rw [List.length_append, flat9, hk]
        have := s1.out
        omega
      rw [List.getElem?_eq_getElem hlt]
      rfl)
    obtain ⟨W1, hW1⟩ : ∃ W1, W1 = w.drew.setCells g 0 news := ⟨_, rfl⟩
    have hR1 : RowE W1 g (d.drop 1 ++ d.drop k) sp := by
      have := RowE.left (w := w.drew) (show RowE w.drew g d sp from hrow) hk
      rw [hnews] at this
      rw [hW1]; exact this
    have hl1 : (d.drop 1 ++ d.drop k).length = k + 1 := by rw [List.length_append, hdl, List.length_drop, hk]; omega
    obtain ⟨w4, sp2, hcl, hR4, hl4, hC4⟩ := hR1.clear (i := k) (by omega) (cap - k)
    rw [hl1, Nat.add_sub_cancel_left] at hcl
    have hC1 : Chg (fun k => k = g) w W1 := by rw [hW1]; exact chg_setCells _ _ _ (Chg.refl _ w).drew (.inr rfl)
    have ht : (d.drop 1 ++ d.drop k).take k = d.drop 1 := by rw [← hdl, List.take_left]
    rw [ht] at hR4 hl4
    have HR4 := Lib.hid hR4
    have HC4 := Lib.hid (hC1.trans hC4)
    have HL4 : Hid (((d.drop 1).flatMap enV ++ sp2).length = cap * 9) := Lib.hid (by
      rw [hl4, ← hlen, List.length_append, List.length_append, flat9, flat9, hl1, hk])
    have HW1 := Lib.hid hW1
    unfold maxLen at hmax
    rw [hk] at hcap ⊢
    rw [hdl]
    have hcap1 : (k : Int) + 1 ≤ (cap : Int) := by omega
    have hc0 : ¬ cap = 1 := by omega
    have h1z : (1 : Int) ≤ (k : Int) + 1 := by omega
    clear hrow hlen hbase ho hk hdl hnews hW1 hR1 hl1 hR4 hl4 hC4 hC1 ht hi0 hz0 hz1 hz2
    go_enter Try.func34, Try.ntmps34
    go_wp2_with fail
    go_region_law (refine step_append_room rfl (.tmp 22) (.tmp 25) 51 rfl 64 i0 9 Try.underlying51 HI.out.1 HI.out.2 g 0 0 cap (by simp [Act.eval, Act.put]) ⟨g, 9, none⟩ k (cap - 1) news (by simp [Act.eval, Act.put, hc0]) s1.out s2.out s3.out (by omega) s4.out ?_; rw [show (0 : Nat) + 0 * 9 = 0 from rfl, ← HW1.out])
    all_goals (
      go_wp2_with fail
      go_ret
      refine ⟨_, rfl, ?_, rfl, HC4.out.mono (fun k _ hk => by rw [hk]; rfl)⟩
      have := HR4.out.own (base := base) HL4.out HM.out HB.out (m := k) (by rw [HDL.out]; exact Nat.le_refl _)
      rw [List.take_of_length_le (by rw [HDL.out]; exact Nat.le_refl _)] at this
      simpa [HNW.out] using this)
theorem cells_newE (w : World) (cs : List Value) (t : TypeId) : ∀ j u, cs[j]? = some u → (w.alloc (.cells cs.toArray t)).cell? ((⟨w.heap.size, 0, none⟩ : Addr).add j) = some u := newcells w cs t
set_option maxHeartbeats 2000000 in
theorem clone_any (w : World) (d : List En) (A : Option Addr) (c : Nat) (hd : d.length ≤ 1000) (hA : A = none → d = [] ∧ c = 0) (hb0 : ∀ a, A = some a → ∃ b, a = ⟨b, 0, none⟩) (hE : Els 9 enV w A d) :
    Calls Try.prog 36 #[.slice A d.length c] w fun e w' => ∃ A' c', e = .returned (.slice A' d.length c') ∧ Els 9 enV w' A' d ∧ Below w.heap.size w w' := by
  cases A with
  | none =>
    obtain ⟨rfl, rfl⟩ := hA rfl
    have q := fun (w : World) => Lib.run_eql_slice_nil (P := Try.prog) w 51 64 none 0 0 0 0 Try.underlying51
    go_enter Try.func36, Try.ntmps36
    go_wp2
    go_ret
    exact ⟨none, ⟨0, rfl⟩, fun h => absurd h (by simp), Below.refl _ _⟩
  | some a =>
    obtain ⟨b, rfl⟩ := hb0 a rfl
    obtain ⟨i0, hi0, hz0, hz1, hz2⟩ := infoE3
    have HI := Lib.hid (And.intro hi0 (And.intro hz0 (And.intro hz1 hz2)))
    obtain ⟨n, hn⟩ : ∃ n, d.length = n := ⟨_, rfl⟩
    have HN := Lib.hid hn
    obtain ⟨news, hnews⟩ : ∃ l, d.flatMap enV = l := ⟨_, rfl⟩
    have s1 : Hid (news.length = n * 9) := Lib.hid (by rw [← hnews, flat9, hn])
    have s3 : Hid (∀ u ∈ news, u.oneCell' = true) := Lib.hid (by rw [← hnews]; exact flat_one9 _)
    have s2 : Hid (∀ j u, news[j]? = some u → (w.alloc (.cells #[] 64)).cell? ((⟨b, 0, none⟩ : Addr).add j) = some u) := Lib.hid (by
      intro j u hu
      have hadd : (⟨b, 0, none⟩ : Addr).add j = ⟨b, j, none⟩ := by unfold Addr.add; split <;> simp_all
      rw [hadd]
      refine Lib.cell?_alloc_some _ ?_
      have hj : j < d.length * 9 := by
        have := (List.getElem?_eq_some_iff.1 hu).1
        rw [← hnews, flat9] at this
        exact this
      have hdm := Nat.div_add_mod j 9
      obtain ⟨b', off, e, _, hc⟩ := hE (by omega)
      cases e
      have hq : j / 9 < d.length := by omega
      have := hc (j / 9) hq (j % 9) u (by
        rw [← flat_at 9 enV enV_len d (j / 9) hq (j % 9) (Nat.mod_lt _ (by omega)), hnews, show j / 9 * 9 + j % 9 = j by omega]
        exact hu)
      rw [show 0 + j / 9 * 9 + j % 9 = j by omega] at this
      exact this)
    have HNW := Lib.hid hnews
    rw [hn] at hd ⊢
    clear hn hnews hE hA hb0 hi0 hz0 hz1 hz2
    have q := fun (w : World) => Lib.run_eql_slice_nil (P := Try.prog) w 51 64 (some ⟨b, 0, none⟩) n c 0 0 Try.underlying51
    go_enter Try.func36, Try.ntmps36
    go_wp2_with (at_builtin; refine wpl_append_own rfl (.tmp 5) (.tmp 6) 51 rfl w.heap.size 64 i0 (.agg #[.int .u16 0, .int .u8 0, .int .u8 0, .int .u8 0, .int .u8 0, .int .u8 0, .int .u8 0, .int .u8 0, .int .i64 0]) 9 24 Try.underlying51 HI.out.1 HI.out.2.1 HI.out.2.2.1 HI.out.2.2.2 rfl (by decide) (.slice (some ⟨w.heap.size, 0, none⟩) 0 0) 0 [] rfl (World.ownsRow_made w #[] 0 (Nat.le_refl _) (Nat.zero_le _) (by simp)) ⟨b, 0, none⟩ n c news rfl s1.out s2.out s3.out (by unfold maxLen; omega) (by omega) (by simp) ?_; intro v6 w6 ho6 hg6)
    rw [List.nil_append, Nat.zero_add] at ho6
    have HO := Lib.hid ho6
    have HB : Hid (Below w.heap.size w w6) := Lib.hid (((Below.refl _ w).alloc (Nat.le_refl _) _).grown hg6 (by simp) (by intro k hk; simp [Value.ownBlock] at hk; omega))
    clear ho6 hg6
    go_wp2
    go_ret
    have hO' : w6.ownsRow w.heap.size 64 9 v6 d.length (d.flatMap enV) := by rw [HN.out, HNW.out]; exact HO.out
    obtain ⟨A', c', hv, hE', _⟩ := own_elsB (k := 9) (enc := enV) enV_len hO'
    rw [HN.out] at hv
    exact ⟨A', c', ret_ hv, hE', HB.out⟩
end Go.Proofs.Ytlofaahckdfeiaa
