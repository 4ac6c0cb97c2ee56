/- What package frame's read comes to (plain). -/
import Derived.Test.YtlghibgljmpfoaaFrameAddr
namespace Go.Proofs.Ytlghibgljmpfoaa
open Go.RowKit
set_option linter.unusedVariables false
set_option linter.unusedSimpArgs false

theorem tk_ok {n : Nat} {l : List UInt8} (h : n ≤ l.length) : tkV n l 0 = l.take n ∧ tkL n l 0 = l.drop n ∧ tkE n l 0 = 0 :=
  ⟨by simp [tkV, h], by simp [tkL, h], by simp [tkE]; omega⟩
theorem tk_short {n : Nat} {l : List UInt8} (h : l.length < n) : tkV n l 0 = [] ∧ tkL n l 0 = l ∧ tkE n l 0 = 3 :=
  ⟨by simp [tkV]; omega, by simp [tkL]; omega, by simp [tkE, h]⟩
theorem tk_bad {n : Nat} {l : List UInt8} {er : Int} (h : er ≠ 0) : tkV n l er = [] ∧ tkL n l er = l ∧ tkE n l er = er :=
  ⟨by simp [tkV, h], by simp [tkL, h], by simp [tkE, h]⟩
theorem num_two (a b : UInt8) : num [a, b] = a.toNat * 256 + b.toNat := by simp [num]
theorem ftag_of {a b : UInt8} {x : UInt16} (h : num [a, b] = x.toNat) : ((a == 129) && (b == 0)) = (x == 33024) := by
  rw [num_two] at h
  have ha := a.toNat_lt
  have hb := b.toNat_lt
  rw [Bool.eq_iff_iff]
  simp only [Bool.and_eq_true, beq_iff_eq]
  constructor
  · rintro ⟨rfl, rfl⟩
    apply UInt16.toNat_inj.1
    rw [← h]
    rfl
  · rintro rfl
    have h' : a.toNat * 256 + b.toNat = 33024 := h
    exact ⟨UInt8.toNat_inj.1 (show a.toNat = 129 by omega), UInt8.toNat_inj.1 (show b.toNat = 0 by omega)⟩
theorem u16of_of {a b : UInt8} {x : UInt16} (h : num [a, b] = x.toNat) : u16of a b = x := by
  apply UInt16.toNat_inj.1
  rw [u16of_nat, ← num_two, h]
theorem rd_bare {l l1 l2 l3 : List UInt8} {er e1 e2 e3 : Int} {x : UInt16} (her : er = 0) (hl : l.length ≤ 1522) (h1 : tkL 6 l er = l1) (g1 : tkE 6 l er = e1) (h2 : tkL 6 l1 e1 = l2) (g2 : tkE 6 l1 e1 = e2)
    (hx : num (tkV 2 l2 e2) = x.toNat) (h3 : tkL 2 l2 e2 = l3) (g3 : tkE 2 l2 e2 = e3) (hq : x ≠ 33024) :
    (e3 = 0 → (⟨tk6 l er 0, tk6 l er 1, tk6 l er 2, tk6 l er 3, tk6 l er 4, tk6 l er 5, tk6 l1 e1 0, tk6 l1 e1 1, tk6 l1 e1 2, tk6 l1 e1 3, tk6 l1 e1 4, tk6 l1 e1 5, false, 0, 0, x, tkV l3.length l3 e3⟩ : Fr) = fofb l) ∧ e3 = ftakeE l := by
  subst her
  by_cases c6 : l.length < 6
  · obtain ⟨a, b, c⟩ := tk_short c6
    have e3' : e3 = 3 := by rw [← g3, ← g2, ← g1, c, (tk_bad (er := 3) (by decide)).2.2, (tk_bad (er := 3) (by decide)).2.2]
    exact ⟨by omega, by rw [e3']; unfold ftakeE; rw [if_neg (by omega), if_pos (by omega)]⟩
  obtain ⟨a1, b1, d1⟩ := tk_ok (n := 6) (l := l) (by omega)
  rw [d1] at g1
  rw [b1] at h1
  subst g1
  have hl1 : l1.length = l.length - 6 := by rw [← h1]; simp
  by_cases c12 : l1.length < 6
  · obtain ⟨a, b, c⟩ := tk_short c12
    have e3' : e3 = 3 := by rw [← g3, ← g2, c, (tk_bad (er := 3) (by decide)).2.2]
    exact ⟨by omega, by rw [e3']; unfold ftakeE; rw [if_neg (by omega), if_pos (by omega)]⟩
  obtain ⟨a2, b2, d2⟩ := tk_ok (n := 6) (l := l1) (by omega)
  rw [d2] at g2
  rw [b2] at h2
  subst g2
  have hl2 : l2.length = l1.length - 6 := by rw [← h2]; simp
  by_cases c14 : l2.length < 2
  · obtain ⟨a, b, c⟩ := tk_short c14
    have e3' : e3 = 3 := by rw [← g3, c]
    exact ⟨by omega, by rw [e3']; unfold ftakeE; rw [if_neg (by omega), if_pos (by omega)]⟩
  obtain ⟨a3, b3, d3⟩ := tk_ok (n := 2) (l := l2) (by omega)
  rw [d3] at g3
  rw [b3] at h3
  rw [a3] at hx
  subst g3 h3 h2 h1
  clear a3 b3 d3 b2 d2 b1 d1 hl1 hl2
  obtain ⟨x0, x1, x2, x3, x4, x5, x6, x7, x8, x9, x10, x11, x12, x13, r, rfl⟩ := list14 (l := l) (by simp at c14 c12; omega)
  have hx' : num [x12, x13] = x.toNat := hx
  have ht := ftag_of hx'
  have ht' : ftag (x0 :: x1 :: x2 :: x3 :: x4 :: x5 :: x6 :: x7 :: x8 :: x9 :: x10 :: x11 :: x12 :: x13 :: r) = false := by
    rw [beq_eq_false_iff_ne.2 hq] at ht
    exact ht
  refine ⟨fun _ => ?_, ?_⟩
  · unfold fofb tk6
    rw [ht', a1, a2]
    simp only [List.drop_succ_cons, List.drop_zero, List.take_succ_cons, List.take_zero, List.getD_cons_succ, List.getD_cons_zero, Bool.false_eq_true, if_false]
    rw [u16of_of hx', (tk_ok (Nat.le_refl _)).1, List.take_of_length_le (Nat.le_refl _)]
  · unfold ftakeE
    rw [if_neg (by omega), if_neg (by simp), if_pos ht']
theorem rd_tag {l l1 l2 l3 l4 l5 : List UInt8} {er e1 e2 e3 e4 e5 : Int} {x z : UInt16} {m : Nat} (her : er = 0) (hl : l.length ≤ 1522) (h1 : tkL 6 l er = l1) (g1 : tkE 6 l er = e1) (h2 : tkL 6 l1 e1 = l2) (g2 : tkE 6 l1 e1 = e2)
    (hx : num (tkV 2 l2 e2) = x.toNat) (h3 : tkL 2 l2 e2 = l3) (g3 : tkE 2 l2 e2 = e3) (hq : x = 33024) (hm : num (tkV 2 l3 e3) = m) (h4 : tkL 2 l3 e3 = l4) (g4 : tgE l3 e3 = e4)
    (hz : num (tkV 2 l4 e4) = z.toNat) (h5 : tkL 2 l4 e4 = l5) (g5 : tkE 2 l4 e4 = e5) :
    (e5 = 0 → (⟨tk6 l er 0, tk6 l er 1, tk6 l er 2, tk6 l er 3, tk6 l er 4, tk6 l er 5, tk6 l1 e1 0, tk6 l1 e1 1, tk6 l1 e1 2, tk6 l1 e1 3, tk6 l1 e1 4, tk6 l1 e1 5, true, UInt8.ofNat (m / 8192), UInt16.ofNat (m % 8192), z, tkV l5.length l5 e5⟩ : Fr) = fofb l) ∧ e5 = ftakeE l := by
  subst her hq
  have hx33 : num (tkV 2 l2 e2) = 33024 := hx
  have hne : tkV 2 l2 e2 ≠ [] := by intro e; rw [e] at hx33; exact absurd hx33 (by decide)
  have c2 : e2 = 0 ∧ 2 ≤ l2.length := by
    by_cases c : e2 = 0 ∧ 2 ≤ l2.length
    · exact c
    · exact absurd (by unfold tkV; rw [if_neg c]) hne
  obtain ⟨rfl, c2'⟩ := c2
  have c1 : e1 = 0 := by
    by_cases c : e1 = 0
    · exact c
    · rw [(tk_bad c).2.2] at g2; exact absurd g2 c
  subst c1
  have k0 : 6 ≤ l.length := by
    by_cases c : 6 ≤ l.length
    · exact c
    · rw [(tk_short (by omega)).2.2] at g1; omega
  have k1 : 6 ≤ l1.length := by
    by_cases c : 6 ≤ l1.length
    · exact c
    · rw [(tk_short (by omega)).2.2] at g2; omega
  obtain ⟨a1, b1, d1⟩ := tk_ok (n := 6) (l := l) k0
  obtain ⟨a2, b2, d2⟩ := tk_ok (n := 6) (l := l1) k1
  obtain ⟨a3, b3, d3⟩ := tk_ok (n := 2) (l := l2) c2'
  rw [b1] at h1
  rw [b2] at h2
  rw [b3] at h3
  rw [d3] at g3
  rw [a3] at hx33
  subst g3 h3 h2 h1
  have h14 : 14 ≤ l.length := by simp at k1 c2'; omega
  clear a3 b3 d3 b2 d2 b1 d1 hx hne g1 g2
  obtain ⟨x0, x1, x2, x3, x4, x5, x6, x7, x8, x9, x10, x11, x12, x13, r, rfl⟩ := list14 (l := l) h14
  have hx' : num [x12, x13] = (33024 : UInt16).toNat := hx33
  have ht : ftag (x0 :: x1 :: x2 :: x3 :: x4 :: x5 :: x6 :: x7 :: x8 :: x9 :: x10 :: x11 :: x12 :: x13 :: r) = true := by
    have := ftag_of hx'
    rw [show ((33024 : UInt16) == 33024) = true from rfl] at this
    exact this
  simp only [List.drop_succ_cons, List.drop_zero] at hm h4 g4 k1 c2' a2 ⊢
  have hlen : (x0 :: x1 :: x2 :: x3 :: x4 :: x5 :: x6 :: x7 :: x8 :: x9 :: x10 :: x11 :: x12 :: x13 :: r).length = r.length + 14 := rfl
  rw [hlen] at hl
  by_cases r2 : r.length < 2
  · obtain ⟨a, b, c⟩ := tk_short r2
    have e4' : e4 = 3 := by rw [← g4]; unfold tgE; rw [a, c]; rfl
    have e5' : e5 = 3 := by rw [← g5, e4', (tk_bad (er := 3) (by decide)).2.2]
    exact ⟨by omega, by rw [e5']; unfold ftakeE; rw [hlen, if_neg (by omega), if_neg (by omega), if_neg (by rw [ht]; simp), if_pos (by omega)]⟩
  obtain ⟨x14, r1, rfl, q1⟩ := cons_of 1 (l := r) (by omega)
  obtain ⟨x15, r3, rfl, q2⟩ := cons_of 0 q1
  obtain ⟨a4, b4, d4⟩ := tk_ok (n := 2) (l := x14 :: x15 :: r3) (by simp)
  rw [a4] at hm
  rw [b4] at h4
  have hm' : m = x14.toNat * 256 + x15.toNat := by rw [← hm, ← num_two]; rfl
  have h14n := x14.toNat_lt
  have h15n := x15.toNat_lt
  have hg : tgE (x14 :: x15 :: r3) 0 = if x14.toNat / 16 % 2 = 1 then 4 else 0 := by
    unfold tgE
    rw [a4, d4, show num (List.take 2 (x14 :: x15 :: r3)) = x14.toNat * 256 + x15.toNat from num_two x14 x15, show (x14.toNat * 256 + x15.toNat) / 4096 = x14.toNat / 16 by omega]
    rfl
  rw [hg] at g4
  simp only [List.length_cons] at hlen hl
  by_cases hbit : x14.toNat / 16 % 2 = 1
  · rw [if_pos hbit] at g4
    have e5' : e5 = 4 := by rw [← g5, ← g4, (tk_bad (er := 4) (by decide)).2.2]
    exact ⟨by omega, by
      rw [e5']
      unfold ftakeE
      rw [if_neg (by simp; omega), if_neg (by simp), if_neg (by rw [ht]; simp), if_neg (by simp), if_pos (by simpa using hbit)]⟩
  rw [if_neg hbit] at g4
  subst g4
  have h4' : l4 = r3 := h4.symm
  subst h4'
  by_cases r4 : l4.length < 2
  · obtain ⟨a, b, c⟩ := tk_short r4
    have e5' : e5 = 3 := by rw [← g5, c]
    exact ⟨by omega, by
      rw [e5']
      unfold ftakeE
      rw [if_neg (by simp; omega), if_neg (by simp), if_neg (by rw [ht]; simp), if_neg (by simp), if_neg (by simpa using hbit), if_pos (by simp; omega)]⟩
  obtain ⟨x16, r5, rfl, q3⟩ := cons_of 1 (l := l4) (by omega)
  obtain ⟨x17, r6, rfl, q4⟩ := cons_of 0 q3
  obtain ⟨a5, b5, d5⟩ := tk_ok (n := 2) (l := x16 :: x17 :: r6) (by simp)
  rw [a5] at hz
  rw [b5] at h5
  rw [d5] at g5
  subst g5
  have h5' : l5 = r6 := h5.symm
  subst h5'
  have hz' : num [x16, x17] = z.toNat := hz
  simp only [List.length_cons] at hl
  refine ⟨fun _ => ?_, ?_⟩
  · unfold fofb tk6
    rw [ht, if_pos rfl, a1, a2]
    simp only [List.drop_succ_cons, List.drop_zero, List.take_succ_cons, List.take_zero, List.getD_cons_succ, List.getD_cons_zero]
    rw [u16of_of hz', (tk_ok (Nat.le_refl _)).1, List.take_of_length_le (Nat.le_refl _), hm', show (x14.toNat * 256 + x15.toNat) / 8192 = x14.toNat / 32 by omega, show (x14.toNat * 256 + x15.toNat) % 8192 = x14.toNat % 16 * 256 + x15.toNat by omega]
  · unfold ftakeE
    rw [if_neg (by simp; omega), if_neg (by simp), if_neg (by rw [ht]; simp), if_neg (by simp), if_neg (by simpa using hbit), if_neg (by simp)]
end Go.Proofs.Ytlghibgljmpfoaa
