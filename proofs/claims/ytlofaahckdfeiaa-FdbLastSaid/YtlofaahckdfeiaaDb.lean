/- Layer 8: the program's table as one bundle, and what each call does to it. -/
import Derived.Test.YtlofaahckdfeiaaFw7
namespace Go.Proofs.Ytlofaahckdfeiaa
open Go.RowKit
set_option linter.unusedVariables false
set_option linter.unusedSimpArgs false
set_option maxRecDepth 100000

/-- the table at t; its blocks are X -/
structure Db (w : World) (t : Nat) (X : Nat → Prop) (L : List En) (S : List (Pl × UInt8)) : Prop where
  tab : ∃ A c mb, Tab w t A c mb L S ∧ ∀ k, tset t A mb k ↔ X k
  old : ∀ e ∈ L, e.a < 40
/-- what a call makes of it -/
def DbTo (w w' : World) (t : Nat) (X : Nat → Prop) (L : List En) (S : List (Pl × UInt8)) : Prop := ∃ X', Db w' t X' L S ∧ Chg X w w' ∧ ∀ k, X' k → X k ∨ w.heap.size ≤ k
section
variable {w w' : World} {t : Nat} {X : Nat → Prop} {L : List En} {S : List (Pl × UInt8)}
theorem Db.lt (h : Db w t X L S) : ∀ k, X k → k < w.heap.size := by
  obtain ⟨A, c, mb, hT, hX⟩ := h.tab
  exact fun k hk => hT.lt k ((hX k).2 hk)
theorem Db.self (h : Db w t X L S) : X t := by
  obtain ⟨A, c, mb, hT, hX⟩ := h.tab
  exact (hX t).1 (.inl rfl)
theorem Db.l32 (h : Db w t X L S) : L.length ≤ 32 := by
  obtain ⟨A, c, mb, hT, hX⟩ := h.tab
  exact hT.l32
theorem Db.s16 (h : Db w t X L S) : S.length ≤ 16 := by
  obtain ⟨A, c, mb, hT, hX⟩ := h.tab
  exact hT.s16
theorem Db.nd (h : Db w t X L S) : Nd S := by
  obtain ⟨A, c, mb, hT, hX⟩ := h.tab
  exact hT.nd
theorem Db.prt (h : Db w t X L S) : ∀ e ∈ L, e.p.toNat < 8 := by
  obtain ⟨A, c, mb, hT, hX⟩ := h.tab
  exact hT.prt
theorem Db.chg {Y : Nat → Prop} (h : Db w t X L S) (hc : Chg Y w w') (hn : ∀ k, X k → ¬ Y k) : Db w' t X L S := by
  obtain ⟨A, c, mb, hT, hX⟩ := h.tab
  exact ⟨⟨A, c, mb, hT.chg hc (fun k hk => hn k ((hX k).1 hk)), hX⟩, h.old⟩
theorem Db.next (h : Db w t X L S) (hb : Below w.heap.size w w') : Db w' t X L S := h.chg (Y := fun _ => False) (Chg.of_below hb) (fun _ _ h => h)
theorem Db.gro (h : Db w t X L S) (hg : Gro w w') : Db w' t X L S := h.next hg.below
theorem DbTo.gro (h : Db w t X L S) (hg : Gro w w') : DbTo w w' t X L S := ⟨X, h.gro hg, Chg.of_below hg.below, fun _ h => .inl h⟩
theorem DbTo.keep {A : Option Addr} {mb : Option Nat} {L' : List En} {S' : List (Pl × UInt8)} {A' : Option Addr} {c' : Nat} {mb' : Option Nat} (hX : ∀ k, tset t A mb k ↔ X k) (hT : Tab w' t A' c' mb' L' S') (hc : Chg (tset t A mb) w w')
    (hk : ∀ k, tset t A' mb' k → tset t A mb k ∨ w.heap.size ≤ k) (ho : ∀ e ∈ L', e.a < 40) : DbTo w w' t X L' S' :=
  ⟨tset t A' mb', ⟨⟨A', c', mb', hT, fun _ => Iff.rfl⟩, ho⟩, hc.mono (fun k _ h => (hX k).1 h), fun k h => (hk k h).imp_left (hX k).1⟩
theorem rb_keep {A A' : Option Addr} {mb : Option Nat} (h : rb A' = rb A) : ∀ k, tset t A' mb k → tset t A mb k ∨ w.heap.size ≤ k := by
  rintro k (e | e | e)
  · exact .inl (.inl e)
  · exact .inl (.inr (.inl (by rw [← h]; exact e)))
  · exact .inl (.inr (.inr e))
end
def badLearn (S : List (Pl × UInt8)) (k : Pl) (p : UInt8) : Bool := grp k.m || decide (8 ≤ p.toNat) || !okVid k.v || shas S k
def llearn (L : List En) (S : List (Pl × UInt8)) (k : Pl) (p : UInt8) : List En := if badLearn S k p = true then L else lput L k p
def sete (S : List (Pl × UInt8)) (k : Pl) : Nat := if okVid k.v = true then (if shas S k = false ∧ 16 ≤ S.length then 6 else 0) else 2
def setL (L : List En) (S : List (Pl × UInt8)) (k : Pl) : List En := if sete S k = 0 then lwo L k else L
def setS (S : List (Pl × UInt8)) (k : Pl) (s : UInt8) : List (Pl × UInt8) := if sete S k = 0 then sput S k s else S
def drope (S : List (Pl × UInt8)) (k : Pl) : Nat := if okVid k.v = true then (if shas S k = true then 0 else 7) else 2
def dropS (S : List (Pl × UInt8)) (k : Pl) : List (Pl × UInt8) := if drope S k = 0 then sdel S k else S
theorem lwo_sub {L : List En} {k : Pl} {e : En} (h : e ∈ lwo L k) : e ∈ L := (List.mem_filter.1 h).1
theorem lput_old {L : List En} {k : Pl} {p : UInt8} (h : ∀ e ∈ L, e.a < 40) : ∀ e ∈ lput L k p, e.a < 40 := by
  intro e he
  unfold lput at he
  rcases List.mem_append.1 he with he | he
  · split at he
    · exact h e (lwo_sub (List.mem_of_mem_drop he))
    · exact h e (lwo_sub he)
  · obtain rfl := List.mem_singleton.1 he
    exact Nat.zero_lt_succ 39
theorem ltick_old {L : List En} (h : ∀ e ∈ L, e.a < 40) : ∀ e ∈ ltick L, e.a < 40 := by
  intro e he
  obtain ⟨h1, h2⟩ := List.mem_filter.1 he
  obtain ⟨x, hx, rfl⟩ := List.mem_map.1 h1
  have := h x hx
  have h3 : ¬ (older x).a = 40 := by simpa using h2
  have h4 : (older x).a = x.a + 1 := rfl
  omega
section
variable {w : World} {t : Nat} {X : Nat → Prop} {L : List En} {S : List (Pl × UInt8)}
theorem new_db (w : World) : Calls Try.prog 7 #[] w fun e w' => ∃ t X, e = .returned (.pointer (some ⟨t, 0, none⟩)) ∧ Db w' t X [] [] ∧ (∀ k, X k → w.heap.size ≤ k) ∧ Gro w w' :=
  (new_any w).mono fun e w' ⟨he, hT, hg⟩ => ⟨_, tset w.heap.size none none, he, ⟨⟨_, _, _, hT, fun _ => Iff.rfl⟩, by simp⟩, fun k hk => (by
    rcases hk with e | e | e
    · exact Nat.le_of_eq e.symm
    · cases e
    · cases e), hg⟩
theorem learn_db (h : Db w t X L S) (v : UInt16) (m : Mc) (p : UInt8) : Calls Try.prog 16 #[.pointer (some ⟨t, 0, none⟩), .int .u16 v.toNat, mV m, .int .u8 p.toNat] w fun e w' => e = .returned (.tuple #[]) ∧ DbTo w w' t X (llearn L S ⟨v, m⟩ p) S := by
  obtain ⟨A, c, mb, hT, hX⟩ := h.tab
  cases h1 : grp m with
  | true =>
    have e : llearn L S ⟨v, m⟩ p = L := by unfold llearn badLearn; rw [h1]; rfl
    rw [e]
    exact (learn_bad1 hT v m p h1).mono fun e w' hh => ⟨hh.1, DbTo.gro h hh.2⟩
  | false =>
    rcases Nat.lt_or_ge p.toNat 8 with h2 | h2
    · cases h3 : okVid v with
      | false =>
        have e : llearn L S ⟨v, m⟩ p = L := by unfold llearn badLearn; simp [h3]
        rw [e]
        exact (learn_bad3 hT v m p h1 h2 h3).mono fun e w' hh => ⟨hh.1, DbTo.gro h hh.2⟩
      | true =>
        cases h4 : shas S ⟨v, m⟩ with
        | true =>
          have e : llearn L S ⟨v, m⟩ p = L := by unfold llearn badLearn; simp [h4]
          rw [e]
          exact (learn_bad4 hT v m p h1 h2 h3 h4).mono fun e w' hh => ⟨hh.1, DbTo.gro h hh.2⟩
        | false =>
          have e : llearn L S ⟨v, m⟩ p = lput L ⟨v, m⟩ p := by
            unfold llearn badLearn
            have h5 : ¬ 8 ≤ p.toNat := by omega
            simp [h1, h3, h4, h5]
          rw [e]
          refine (learn_ok hT v m p h1 h2 h3 h4).mono fun e w' ⟨he, A', c', hT', hc, hk⟩ => ⟨he, DbTo.keep hX hT' hc ?_ (lput_old h.old)⟩
          rintro k (e | e | e)
          · exact .inl (.inl e)
          · exact (hk k e).imp_left fun e => .inr (.inl e)
          · exact .inl (.inr (.inr e))
    · have e : llearn L S ⟨v, m⟩ p = L := by unfold llearn badLearn; simp [h2]
      rw [e]
      exact (learn_bad2 hT v m p h1 h2).mono fun e w' hh => ⟨hh.1, DbTo.gro h hh.2⟩
theorem look_db (h : Db w t X L S) (v : UInt16) (m : Mc) : Calls Try.prog 18 #[.pointer (some ⟨t, 0, none⟩), .int .u16 v.toNat, mV m] w fun e w' => e = .returned (.tuple #[.int .u8 (lookP L S ⟨v, m⟩).toNat, .bool (lookB L S ⟨v, m⟩)]) ∧ Gro w w' := by
  obtain ⟨A, c, mb, hT, hX⟩ := h.tab
  exact look_any hT v m
theorem tick_db (h : Db w t X L S) : Calls Try.prog 8 #[.pointer (some ⟨t, 0, none⟩)] w fun e w' => e = .returned (.tuple #[]) ∧ DbTo w w' t X (ltick L) S := by
  obtain ⟨A, c, mb, hT, hX⟩ := h.tab
  exact (tick_any hT h.old).mono fun e w' ⟨he, A', c', hT', hc, hr⟩ => ⟨he, DbTo.keep hX hT' hc (rb_keep hr) (ltick_old h.old)⟩
theorem flush_db (h : Db w t X L S) (s : UInt8) : Calls Try.prog 10 #[.pointer (some ⟨t, 0, none⟩), .int .u8 s.toNat] w fun e w' => e = .returned (.int .i64 ((L.length : Int) - ((lflush L s).length : Int))) ∧ DbTo w w' t X (lflush L s) S := by
  obtain ⟨A, c, mb, hT, hX⟩ := h.tab
  exact (flush_any hT s).mono fun e w' ⟨he, A', c', hT', hc, hr⟩ => ⟨he, DbTo.keep hX hT' hc (rb_keep hr) (fun e he => h.old e (List.mem_filter.1 he).1)⟩
theorem set_db (h : Db w t X L S) (v : UInt16) (m : Mc) (s : UInt8) : Calls Try.prog 12 #[.pointer (some ⟨t, 0, none⟩), .int .u16 v.toNat, mV m, .int .u8 s.toNat] w fun e w' => e = .returned (.int .i64 (sete S ⟨v, m⟩ : Nat)) ∧ DbTo w w' t X (setL L S ⟨v, m⟩) (setS S ⟨v, m⟩ s) := by
  obtain ⟨A, c, mb, hT, hX⟩ := h.tab
  cases h3 : okVid v with
  | false =>
    have e : sete S ⟨v, m⟩ = 2 := by unfold sete; simp [h3]
    have e1 : setL L S ⟨v, m⟩ = L := by unfold setL; simp [e]
    have e2 : setS S ⟨v, m⟩ s = S := by unfold setS; simp [e]
    rw [e, e1, e2]
    exact (set_bad hT v m s h3).mono fun e w' hh => ⟨hh.1, DbTo.gro h hh.2⟩
  | true =>
    by_cases h4 : shas S ⟨v, m⟩ = false ∧ 16 ≤ S.length
    · have e : sete S ⟨v, m⟩ = 6 := by unfold sete; simp [h3, h4]
      have e1 : setL L S ⟨v, m⟩ = L := by unfold setL; simp [e]
      have e2 : setS S ⟨v, m⟩ s = S := by unfold setS; simp [e]
      rw [e, e1, e2]
      exact (set_full hT v m s h3 h4.1 (by have := hT.s16; omega)).mono fun e w' hh => ⟨hh.1, DbTo.gro h hh.2⟩
    · have e : sete S ⟨v, m⟩ = 0 := by unfold sete; rw [if_pos h3, if_neg h4]
      have e1 : setL L S ⟨v, m⟩ = lwo L ⟨v, m⟩ := by unfold setL; simp [e]
      have e2 : setS S ⟨v, m⟩ s = sput S ⟨v, m⟩ s := by unfold setS; simp [e]
      rw [e, e1, e2]
      have h5 : shas S ⟨v, m⟩ = true ∨ S.length < 16 := by
        cases h6 : shas S ⟨v, m⟩ with
        | true => exact .inl rfl
        | false => exact .inr (by have : ¬ 16 ≤ S.length := fun hh => h4 ⟨h6, hh⟩; omega)
      exact (set_ok hT v m s h3 h5).mono fun e w' ⟨he, A', c', mb', hT', hc, hk⟩ => ⟨he, DbTo.keep hX hT' hc hk (fun e he => h.old e (lwo_sub he))⟩
theorem drop_db (h : Db w t X L S) (v : UInt16) (m : Mc) : Calls Try.prog 14 #[.pointer (some ⟨t, 0, none⟩), .int .u16 v.toNat, mV m] w fun e w' => e = .returned (.int .i64 (drope S ⟨v, m⟩ : Nat)) ∧ DbTo w w' t X L (dropS S ⟨v, m⟩) := by
  obtain ⟨A, c, mb, hT, hX⟩ := h.tab
  cases h3 : okVid v with
  | false =>
    have e : drope S ⟨v, m⟩ = 2 := by unfold drope; simp [h3]
    have e2 : dropS S ⟨v, m⟩ = S := by unfold dropS; simp [e]
    rw [e, e2]
    exact (drop_bad hT v m h3).mono fun e w' hh => ⟨hh.1, DbTo.gro h hh.2⟩
  | true =>
    cases h4 : shas S ⟨v, m⟩ with
    | false =>
      have e : drope S ⟨v, m⟩ = 7 := by unfold drope; simp [h3, h4]
      have e2 : dropS S ⟨v, m⟩ = S := by unfold dropS; simp [e]
      rw [e, e2]
      exact (drop_none hT v m h3 h4).mono fun e w' hh => ⟨hh.1, DbTo.gro h hh.2⟩
    | true =>
      have e : drope S ⟨v, m⟩ = 0 := by unfold drope; simp [h3, h4]
      have e2 : dropS S ⟨v, m⟩ = sdel S ⟨v, m⟩ := by unfold dropS; simp [e]
      rw [e, e2]
      exact (drop_ok hT v m h3 h4).mono fun e w' ⟨he, hT', hc⟩ => ⟨he, DbTo.keep hX hT' hc (fun k h => .inl h) h.old⟩
theorem list_db (h : Db w t X L S) : Calls Try.prog 21 #[.pointer (some ⟨t, 0, none⟩)] w fun e w' => ∃ A' c', e = .returned (.slice A' L.length c') ∧ Els 9 enV w' A' L ∧ Below w.heap.size w w' := by
  obtain ⟨A, c, mb, hT, hX⟩ := h.tab
  exact list_any hT
theorem statics_db (h : Db w t X L S) : Calls Try.prog 22 #[.pointer (some ⟨t, 0, none⟩)] w fun e w' => e = .returned (.int .i64 S.length) ∧ Gro w w' := by
  obtain ⟨A, c, mb, hT, hX⟩ := h.tab
  exact statics_any hT
end
end Go.Proofs.Ytlofaahckdfeiaa
