/- Layer 10: an association's names and their bytes, as lists. -/
import Derived.Test.YtmhhhcphdnnopaaBase
namespace Go.Proofs.Ytmhhhcphdnnopaa
open Go.RowKit
set_option linter.unusedVariables false
set_option linter.unusedSimpArgs false
set_option maxRecDepth 100000

/-- a byte that a name may have; a name -/
def nmB (b : UInt8) : Bool := decide (32 ≤ b.toNat) && decide (b.toNat ≤ 126)
def isn (l : List UInt8) : Bool := l.all nmB && !l.isEmpty
/-- why there are no bytes -/
def mdE (a b : List UInt8) : Int := if (!a.isEmpty && !isn a) || !isn b then 2 else if 44 < a.length + b.length then 5 else 0
def mdH (a : List UInt8) : List UInt8 := if a = [] then [1] else 4 :: UInt8.ofNat a.length :: a
def mdB (a b : List UInt8) : List UInt8 := mdH a ++ 2 :: UInt8.ofNat b.length :: b
def mdW (a b : List UInt8) : List UInt8 := mdB a b ++ List.replicate (48 - (mdB a b).length) 0
/-- the bytes; or none -/
def mdV (a b : List UInt8) : List UInt8 := if mdE a b = 0 then mdW a b else []

theorem isn_ne {l : List UInt8} (h : isn l = true) : l ≠ [] := by
  intro e; subst e; simp [isn] at h
theorem mdE0 {a b : List UInt8} (h : mdE a b = 0) : (a = [] ∨ isn a = true) ∧ isn b = true ∧ a.length + b.length ≤ 44 := by
  unfold mdE at h
  split at h
  · cases h
  · rename_i h1
    split at h
    · cases h
    · rename_i h2
      simp only [Bool.or_eq_true, Bool.and_eq_true, Bool.not_eq_true', not_or, not_and, Bool.not_eq_false] at h1
      refine ⟨?_, h1.2, by omega⟩
      cases a with
      | nil => exact .inl rfl
      | cons x a => exact .inr (h1.1 rfl)
theorem mdE_of {a b : List UInt8} (h1 : a = [] ∨ isn a = true) (h2 : isn b = true) (h3 : a.length + b.length ≤ 44) : mdE a b = 0 := by
  unfold mdE
  rw [if_neg, if_neg (by omega)]
  rcases h1 with rfl | h1
  · simp [h2]
  · simp [h1, h2]
theorem mdE_cases (a b : List UInt8) : mdE a b = 0 ∨ mdE a b = 2 ∨ mdE a b = 5 := by
  unfold mdE
  split
  · exact .inr (.inl rfl)
  · split
    · exact .inr (.inr rfl)
    · exact .inl rfl
theorem mdH_len (a : List UInt8) : (mdH a).length = if a = [] then 1 else a.length + 2 := by
  unfold mdH
  split <;> simp
theorem mdB_len (a b : List UInt8) : (mdB a b).length = (if a = [] then 1 else a.length + 2) + b.length + 2 := by
  unfold mdB
  rw [List.length_append, mdH_len]
  simp
  omega
theorem mdB_le {a b : List UInt8} (h : mdE a b = 0) : (mdB a b).length ≤ 48 := by
  have h3 := (mdE0 h).2.2
  rw [mdB_len]
  split <;> omega
theorem mdV_len {a b : List UInt8} (h : mdE a b = 0) : (mdV a b).length = 48 := by
  have := mdB_le h
  unfold mdV mdW
  rw [if_pos h, List.length_append, List.length_replicate]
  omega
theorem mdV_ne {a b : List UInt8} (h : mdE a b ≠ 0) : mdV a b = [] := by
  unfold mdV
  rw [if_neg h]
/-- a number that is a byte's -/
theorem ofNat_toNat_small (n : Nat) (h : n < 256) : (UInt8.ofNat n).toNat = n := by
  rw [UInt8.toNat_ofNat']
  omega

/-- taking them apart: behind a mark and a number, so many bytes -/
def cutN : List UInt8 → List UInt8 × List UInt8
  | [] => ([], [])
  | n :: r => (r.take n.toNat, r.drop n.toNat)
theorem cutN_put (b r : List UInt8) (h : b.length < 256) : cutN (UInt8.ofNat b.length :: b ++ r) = (b, r) := by
  unfold cutN
  simp only [List.cons_append]
  rw [ofNat_toNat_small _ h]
  simp
/-- the names in bytes, if they are names' bytes -/
def mdR : List UInt8 → List UInt8 × List UInt8
  | [] => ([], [])
  | x :: r => if x = 4 then ((cutN r).1, (cutN ((cutN r).2.drop 1)).1) else ([], (cutN (r.drop 1)).1)
theorem mdR_put {a b : List UInt8} (h : mdE a b = 0) : mdR (mdV a b) = (a, b) := by
  obtain ⟨h1, h2, h3⟩ := mdE0 h
  unfold mdV mdW
  rw [if_pos h]
  generalize 48 - (mdB a b).length = k
  unfold mdB mdH
  by_cases ha : a = []
  · subst ha
    simp only [if_true, List.cons_append, List.nil_append, mdR]
    rw [if_neg (by decide)]
    simp only [List.drop_succ_cons, List.drop_zero]
    have := cutN_put b (List.replicate k 0) (by simp at h3; omega)
    simp only [List.cons_append] at this
    rw [this]
  · rw [if_neg ha]
    simp only [List.cons_append, mdR]
    rw [if_pos trivial]
    have e1 := cutN_put a ((2 :: UInt8.ofNat b.length :: b) ++ List.replicate k 0) (by omega)
    simp only [List.cons_append, List.append_assoc] at e1 ⊢
    rw [e1]
    simp only [List.drop_succ_cons, List.drop_zero]
    have e2 := cutN_put b (List.replicate k 0) (by omega)
    simp only [List.cons_append] at e2
    rw [e2]
theorem mdV_inj {a b c d : List UInt8} (h : mdE a b = 0) (h' : mdE c d = 0) (e : mdV a b = mdV c d) : a = c ∧ b = d := by
  have e1 := mdR_put h
  rw [e, mdR_put h'] at e1
  simpa [eq_comm] using e1
/-- these are the names of the bytes s, or there are none -/
def Tk (s a b : List UInt8) (e : Int) : Prop := (e = 0 ∧ mdE a b = 0 ∧ mdV a b = s) ∨ (e = 4 ∧ a = [] ∧ b = [] ∧ ∀ c d, mdE c d = 0 → mdV c d ≠ s)
theorem Tk.uniq {s a b c d : List UInt8} {e f : Int} (h : Tk s a b e) (h' : Tk s c d f) : a = c ∧ b = d ∧ e = f := by
  rcases h with ⟨h1, h2, h3⟩ | ⟨h1, h2, h3, h4⟩ <;> rcases h' with ⟨k1, k2, k3⟩ | ⟨k1, k2, k3, k4⟩
  · obtain ⟨e1, e2⟩ := mdV_inj h2 k2 (by rw [h3, k3])
    exact ⟨e1, e2, by rw [h1, k1]⟩
  · exact absurd h3 (k4 a b h2)
  · exact absurd k3 (h4 c d k2)
  · exact ⟨by rw [h2, k2], by rw [h3, k3], by rw [h1, k1]⟩
/-- the bytes' names as a function -/
def tkA (s : List UInt8) : List UInt8 := if mdE (mdR s).1 (mdR s).2 = 0 ∧ mdV (mdR s).1 (mdR s).2 = s then (mdR s).1 else []
def tkB (s : List UInt8) : List UInt8 := if mdE (mdR s).1 (mdR s).2 = 0 ∧ mdV (mdR s).1 (mdR s).2 = s then (mdR s).2 else []
def tkEr (s : List UInt8) : Int := if mdE (mdR s).1 (mdR s).2 = 0 ∧ mdV (mdR s).1 (mdR s).2 = s then 0 else 4
theorem tk_is (s : List UInt8) : Tk s (tkA s) (tkB s) (tkEr s) := by
  unfold tkA tkB tkEr
  by_cases h : mdE (mdR s).1 (mdR s).2 = 0 ∧ mdV (mdR s).1 (mdR s).2 = s
  · simp only [h, and_self, if_true]
    exact .inl ⟨rfl, h.1, h.2⟩
  · rw [if_neg h, if_neg h, if_neg h]
    refine .inr ⟨rfl, rfl, rfl, fun c d hc e => h ?_⟩
    have := mdR_put hc
    rw [e] at this
    rw [this]
    exact ⟨hc, e⟩
end Go.Proofs.Ytmhhhcphdnnopaa
