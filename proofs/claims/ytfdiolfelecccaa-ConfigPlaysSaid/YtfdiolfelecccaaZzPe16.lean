/- Layer 16, the program: slices.Delete of one end point. -/
import Derived.Test.YtfdiolfelecccaaZzPd16
namespace Go.Proofs.Ytfdiolfelecccaa
open Go.RowKit
open Go.Sort (grow)
set_option linter.unusedVariables false
set_option linter.unusedSimpArgs false
set_option maxRecDepth 100000

theorem flat4 (l : List Mp) : (l.flatMap mpE).length = l.length * 4 := flatL mpE_len l
theorem flat4_split (l : List Mp) (i : Nat) : l.flatMap mpE = (l.take i).flatMap mpE ++ (l.drop i).flatMap mpE := by
  rw [← List.flatMap_append, List.take_append_drop]
theorem flat4_one (l : List Mp) : ∀ u ∈ l.flatMap mpE, u.oneCell' = true := by
  intro u hu
  obtain ⟨x, _, hx⟩ := List.mem_flatMap.1 hu
  exact cloM_one x u hx
abbrev RowM (w : World) (g : Nat) (arr : List Mp) (sp : List Value) : Prop := Blk w g 59 (arr.flatMap mpE ++ sp).toArray
theorem rowM_of {w : World} {g n cap : Nat} {d : List Mp} (h : w.ownsRow 0 59 4 (.slice (some ⟨g, 0, none⟩) n cap) d.length (d.flatMap mpE)) : n = d.length ∧ d.length ≤ cap ∧ cap ≤ maxLen ∧ ∃ sp, RowM w g d sp ∧ (d.flatMap mpE ++ sp).length = cap * 4 := by
  rcases h.2 with ⟨e, _⟩ | ⟨g', cap', cur, e, hb, hg, h1, h2, h3, h4⟩
  · cases e
  · cases e
    refine ⟨rfl, h1, h2, cur.toList.drop (d.length * 4), ?_, ?_⟩
    · unfold RowM Blk
      rw [← h4, List.take_append_drop]
      exact hg
    · rw [← h4, List.take_append_drop]
      simpa using h3
theorem rowM_own {w : World} {g cap : Nat} {d : List Mp} {sp : List Value} (h : RowM w g d sp) (hc : (d.flatMap mpE ++ sp).length = cap * 4) (hm : cap ≤ maxLen) : w.ownsRow 0 59 4 (.slice (some ⟨g, 0, none⟩) d.length cap) d.length (d.flatMap mpE) := by
  have hf := flat4 d
  have hcap : d.length ≤ cap := by
    rw [List.length_append, hf] at hc
    omega
  refine ⟨hf, .inr ⟨g, cap, _, rfl, Nat.zero_le _, h, hcap, hm, by simpa using hc, ?_⟩⟩
  show List.take (d.length * 4) (d.flatMap mpE ++ sp) = _
  rw [← hf, List.take_left]
theorem zeroM (w : World) : (zeroValue 59).run Try.prog w = .ok (.agg #[.int .i64 0, .int .u16 0, .int .u8 0, .bool false]) w := by kernel_rfl
/-- the last one cleared -/
theorem rowM_clear {w : World} {g : Nat} {d : List Mp} {y : Mp} {sp : List Value} (h : RowM w g (d ++ [y]) sp) (c : Nat) : ∃ w2 sp2, (∀ ty, (Builtin.clear_ #[53] ty #[.slice (some ⟨g, d.length * 4, none⟩) 1 c]).run Try.prog w = .ok (.tuple #[]) w2) ∧ RowM w2 g d sp2 ∧ (d.flatMap mpE ++ sp2).length = ((d ++ [y]).flatMap mpE ++ sp).length ∧ Chg (fun k => k = g) w w2 := by
  have e1 := flat4 d
  have e2 : (d ++ [y]).flatMap mpE ++ sp = d.flatMap mpE ++ mpE y ++ sp := by rw [List.flatMap_append]; simp
  unfold RowM at h
  rw [e2] at h
  have hone : ∀ v ∈ ([.int .i64 0, .int .u16 0, .int .u8 0, .bool false] : List Value), v.oneCell' = true := by
    intro v hv
    simp only [List.mem_cons, List.not_mem_nil, or_false] at hv
    rcases hv with rfl | rfl | rfl | rfl <;> rfl
  have hall : ∀ ty, ∃ zs : List Value, zs.length = (mpE y).length ∧ (Builtin.clear_ #[53] ty #[.slice (some ⟨g, (d.flatMap mpE).length, none⟩) 1 c]).run Try.prog w = .ok (.tuple #[]) (w.setCells g (d.flatMap mpE).length zs) :=
    fun ty => run_clear_at (P := Try.prog) (t := 53) 59 ty [.int .i64 0, .int .u16 0, .int .u8 0, .bool false] Try.underlying53 zeroM hone 59 1 c _ _ _ h (by omega) rfl
  obtain ⟨zs, hz, hr⟩ := hall 0
  have hb := blk_setCells zs _ _ _ _ h hz.symm
  rw [e1] at hr hb
  refine ⟨_, zs ++ sp, fun ty => hr, ?_, ?_, chg_setCells zs _ _ (Chg.refl _ w) (.inr rfl)⟩
  · unfold RowM
    rw [← List.append_assoc]
    exact hb
  · rw [e2, List.length_append, List.length_append, List.length_append, List.length_append, hz]
    omega
/-- those behind one moved to the left -/
theorem rowM_left {w : World} {g k i : Nat} {d : List Mp} {sp : List Value} (h : RowM w g d sp) (hk : d.length = k + 1) (hi : i ≤ k) : ∃ y, RowM (w.setCells g (i * 4) ((d.drop (i + 1)).flatMap mpE)) g (d.eraseIdx i ++ [y]) sp := by
  have hkl : k < d.length := by omega
  refine ⟨d[k], ?_⟩
  have e0 : d.drop k = [d[k]] := by rw [List.drop_eq_getElem_cons hkl, List.drop_of_length_le (by omega)]
  have e1 : d.flatMap mpE ++ sp = (d.take i).flatMap mpE ++ ((d.drop i).take (k - i)).flatMap mpE ++ ((d.drop k).flatMap mpE ++ sp) := by
    have h2 : d.drop i = (d.drop i).take (k - i) ++ d.drop k := by
      have := (List.take_append_drop (k - i) (d.drop i)).symm
      rwa [List.drop_drop, show i + (k - i) = k by omega] at this
    rw [flat4_split d i]
    conv => lhs; rw [h2, List.flatMap_append]
    simp
  have e2 : (d.eraseIdx i ++ [d[k]]).flatMap mpE ++ sp = (d.take i).flatMap mpE ++ (d.drop (i + 1)).flatMap mpE ++ ((d.drop k).flatMap mpE ++ sp) := by
    rw [List.eraseIdx_eq_take_drop_succ, e0]
    simp
  have hl : ((d.take i).flatMap mpE).length = i * 4 := by rw [flat4, List.length_take]; congr 1; omega
  unfold RowM at *
  rw [e1] at h
  have := blk_setCells ((d.drop (i + 1)).flatMap mpE) _ _ _ _ h (by rw [flat4, flat4, List.length_take, List.length_drop, List.length_drop]; congr 1; omega)
  rw [hl] at this
  rw [e2]
  exact this
set_option maxHeartbeats 4000000 in
theorem delM_any (w : World) (d : List Mp) (A : Option Addr) (c i k : Nat) (hk : d.length = k + 1) (hi : i ≤ k) (hd : k ≤ 1000) (ho : w.ownsRow 0 59 4 (.slice A d.length c) d.length (d.flatMap mpE)) :
    Calls Try.prog 47 #[.slice A (k + 1) c, .int .i64 (i : Int), .int .i64 ((i : Int) + 1)] w fun e w' => ∃ A' c', e = .returned (.slice A' k c') ∧ w'.ownsRow 0 59 4 (.slice A' k c') k ((d.eraseIdx i).flatMap mpE) ∧ rb A' = rb A ∧ Chg (fun j => rb A = some j) w w' := by
  have ho' := ho
  rcases ho.2 with ⟨_, h0⟩ | ⟨g, cap, cur, hv, _⟩
  · omega
  · simp only [Value.slice.injEq] at hv
    obtain ⟨rfl, _, rfl⟩ := hv
    obtain ⟨_, hcap, hmax, sp, hrow, hlen⟩ := rowM_of ho'
    obtain ⟨i0, hi0, hz0, hz1, hz2⟩ := info_parts cloM_info
    have HI := Lib.hid (And.intro hi0 hz1)
    have hel : (d.eraseIdx i).length = k := by rw [List.length_eraseIdx]; rw [if_pos (by omega), hk]; omega
    obtain ⟨news, hnews⟩ : ∃ l, (d.drop (i + 1)).flatMap mpE = l := ⟨_, rfl⟩
    have s1 : Hid (news.length = (k - i) * 4) := Lib.hid (by rw [← hnews, flat4, List.length_drop, hk]; congr 1; omega)
    have s2a : ∀ j u, news[j]? = some u → w.drew.cell? ⟨g, (i + 1) * 4 + j, none⟩ = some u := by
      intro j u hu
      have hb : Blk w.drew g 59 (d.flatMap mpE ++ sp).toArray := hrow
      rw [hb.cell, List.getElem?_toArray]
      have hs := flat4_split d (i + 1)
      have e1 : ((d.take (i + 1)).flatMap mpE).length = (i + 1) * 4 := by rw [flat4, List.length_take]; congr 1; omega
      rw [hs, List.append_assoc, List.getElem?_append_right (by omega), e1, show (i + 1) * 4 + j - (i + 1) * 4 = j by omega, hnews, List.getElem?_append_left (List.getElem?_eq_some_iff.1 hu).1, hu]
    have s2 : Hid (∀ j u, news[j]? = some u → w.drew.cell? ((⟨g, (i + 1) * 4, none⟩ : Addr).add j) = some u) := Lib.hid (by
      intro j u hu
      have hadd : (⟨g, (i + 1) * 4, none⟩ : Addr).add j = ⟨g, (i + 1) * 4 + j, none⟩ := by unfold Addr.add; split <;> simp_all
      rw [hadd]
      exact s2a j u hu)
    have s3 : Hid (∀ u ∈ news, u.oneCell' = true) := Lib.hid (by rw [← hnews]; exact flat4_one _)
    have s4 : Hid (∀ j, j < news.length → (w.drew.cell? ⟨g, 0 + i * 4 + j, none⟩).isSome = true ∧ w.drew.frozen? ⟨g, 0 + i * 4 + j, none⟩ = false) := Lib.hid (by
      intro j hj
      have hb : Blk w.drew g 59 (d.flatMap mpE ++ sp).toArray := hrow
      refine ⟨?_, hb.frozen _⟩
      rw [hb.cell, List.getElem?_toArray]
      have hlt : 0 + i * 4 + j < (d.flatMap mpE ++ sp).length := by
        rw [List.length_append, flat4, hk]
        have := s1.out
        omega
      rw [List.getElem?_eq_getElem hlt]
      rfl)
    obtain ⟨W1, hW1⟩ : ∃ W1, W1 = w.drew.setCells g (i * 4) news := ⟨_, rfl⟩
    obtain ⟨y, hR1⟩ := rowM_left (w := w.drew) (show RowM w.drew g d sp from hrow) hk hi
    rw [hnews, ← hW1] at hR1
    obtain ⟨w4, sp2, hcl, hR4, hl4, hC4⟩ := rowM_clear hR1 (c - k)
    rw [hel] at hcl
    have hC1 : Chg (fun k => k = g) w W1 := by rw [hW1]; exact chg_setCells _ _ _ (Chg.refl _ w).drew (.inr rfl)
    have HR4 := Lib.hid hR4
    have HC4 := Lib.hid (hC1.trans hC4)
    have HL4 : Hid (((d.eraseIdx i).flatMap mpE ++ sp2).length = c * 4) := Lib.hid (by
      rw [hl4, ← hlen, List.length_append, List.length_append, flat4, flat4, List.length_append, hel, hk]; rfl)
    have HM := Lib.hid hmax
    have HEL := Lib.hid hel
    have HW1 := Lib.hid hW1
    unfold maxLen at hmax
    rw [hk] at hcap
    have hcap1 : (k : Int) + 1 ≤ (c : Int) := by omega
    have h1z : (i : Int) + 1 ≤ (k : Int) + 1 := by omega
    have hne : ((i : Int) == (i : Int) + 1) = false := by rw [beq_eq_false_iff_ne]; omega
    have hik : (i : Int) ≤ (k : Int) := by omega
    clear hrow hlen ho ho' hk hel hnews hW1 hR1 hR4 hl4 hC4 hC1 hi0 hz0 hz1 hz2 s2a
    go_enter Try.func47, Try.ntmps47
    go_wp2_with fail
    have hA : ∀ ad : Addr, Hid (∀ j u, news[j]? = some u → w.drew.cell? (ad.add j) = some u) → True := fun _ _ => trivial
    clear hA
    by_cases hc0 : c = i + 1
    · obtain rfl : k = i := by omega
      subst hc0
      have hn0 : news = [] := List.eq_nil_of_length_eq_zero (by rw [s1.out]; omega)
      rw [show k + 1 - k = 1 by omega] at hcl
      have hii : (k : Int) ≤ (k : Int) + 1 := by omega
      have hi0 : (0 : Int) ≤ (k : Int) + 1 := by omega
      go_region_law (refine step_append_room rfl (.tmp 22) (.tmp 25) 53 rfl 59 i0 4 Try.underlying53 HI.out.1 HI.out.2 g 0 k (k + 1) (by simp [Act.eval, Act.put]) ⟨g, 0, none⟩ 0 0 news (by simp [Act.eval, Act.put]) (by rw [hn0]; rfl) (by rw [hn0]; simp) s3.out (by omega) s4.out ?_; rw [show (0 : Nat) + k * 4 = k * 4 by omega, ← HW1.out])
      all_goals (
        clear hn0
        go_wp2_with fail
        go_ret
        refine ⟨_, _, rfl, ?_, rfl, HC4.out.mono (fun j _ hj => by rw [hj]; rfl)⟩
        have := rowM_own HR4.out HL4.out HM.out
        rw [HEL.out] at this
        exact this)
    · have hic : i ≤ c := by omega
      have hi0 : (0 : Int) ≤ (i : Int) + 1 := by omega
      have hki : i + (k - i) = k := by omega
      go_region_law (refine step_append_room rfl (.tmp 22) (.tmp 25) 53 rfl 59 i0 4 Try.underlying53 HI.out.1 HI.out.2 g 0 i c (by simp [Act.eval, Act.put]) ⟨g, (i + 1) * 4, none⟩ (k - i) (c - (i + 1)) news (by simp [Act.eval, Act.put, hc0]) s1.out s2.out s3.out (by omega) s4.out ?_; rw [show (0 : Nat) + i * 4 = i * 4 by omega, ← HW1.out, hki])
      all_goals (
        go_wp2_with fail
        go_ret
        refine ⟨_, _, rfl, ?_, rfl, HC4.out.mono (fun j _ hj => by rw [hj]; rfl)⟩
        have := rowM_own HR4.out HL4.out HM.out
        rw [HEL.out] at this
        exact this)
end Go.Proofs.Ytfdiolfelecccaa
