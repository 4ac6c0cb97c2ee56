/- wire.Reader: contracts of its methods. -/
import Derived.Test.YtieopgmmjpmflaaBase
import Derived.Test.YtieopgmmjpmflaaLeaf
namespace Go.Proofs.Ytieopgmmjpmflaa
open Go.RowKit
set_option linter.unusedVariables false
set_option linter.unusedSimpArgs false
set_option maxRecDepth 100000

/-- a reader at block b: what is left, and its error -/
def Rdr (w : World) (b : Nat) (l : List UInt8) (er : Int) : Prop := Blk w b 90 #[.string ⟨l.toArray⟩, .int .i64 er]
def only (b : Nat) : Nat → Prop := fun k => k = b

section
variable {w w' : World} {b : Nat} {l : List UInt8} {er : Int}
theorem Rdr.rest (h : Rdr w b l er) : w.cell? ⟨b, 0, none⟩ = some (.string ⟨l.toArray⟩) := h.cell 0
theorem Rdr.err (h : Rdr w b l er) : w.cell? ⟨b, 1, none⟩ = some (.int .i64 er) := h.cell 1
theorem Rdr.setRest (h : Rdr w b l er) (l' : List UInt8) : Rdr (w.setCell ⟨b, 0, none⟩ (.string ⟨l'.toArray⟩)) b l' er := by
  have := Blk.put h 0 (.string ⟨l'.toArray⟩)
  simpa [Rdr] using this
theorem Rdr.setErr (h : Rdr w b l er) (e : Int) : Rdr (w.setCell ⟨b, 1, none⟩ (.int .i64 e)) b l e := by
  have := Blk.put h 1 (.int .i64 e)
  simpa [Rdr] using this
end

theorem err_any {w : World} {b : Nat} {l : List UInt8} {er : Int} (h : Rdr w b l er) :
    Calls Try.prog 34 #[.pointer (some ⟨b, 0, none⟩)] w fun e w' => e = .returned (.int .i64 er) ∧ w = w' := by
  have h1 := h.err
  clear h
  go_enter Try.func34, Try.ntmps34
  go_wp2
  go_ret
  exact ⟨rfl, rfl⟩

theorem err_nil {w : World} :
    Calls Try.prog 34 #[.pointer none] w fun e w' => e = .returned (.int .i64 1) ∧ w = w' := by
  go_enter Try.func34, Try.ntmps34
  go_wp2
  go_ret
  exact ⟨rfl, rfl⟩

set_option maxHeartbeats 400000 in
theorem left_ok {w : World} {b : Nat} {l : List UInt8} (h : Rdr w b l 0) :
    Calls Try.prog 48 #[.pointer (some ⟨b, 0, none⟩)] w fun e w' => e = .returned (.int .i64 l.length) ∧ w = w' := by
  have h1 := h.rest
  go_enter Try.func48, Try.ntmps48
  go_wp2_with fail
  refine (err_any h).mono ?_
  rintro e w' ⟨rfl, rfl⟩
  go_wp2
  go_ret
  exact ⟨by simp, rfl⟩

set_option maxHeartbeats 400000 in
theorem left_bad {w : World} {b : Nat} {l : List UInt8} {er : Int} (h : Rdr w b l er) (he : er ≠ 0) :
    Calls Try.prog 48 #[.pointer (some ⟨b, 0, none⟩)] w fun e w' => e = .returned (.int .i64 0) ∧ w = w' := by
  have h2 : (er == 0) = false := by simpa using he
  have h3 : (er != 0) = true := by simpa using he
  go_enter Try.func48, Try.ntmps48
  go_wp2_with fail
  refine (err_any h).mono ?_
  rintro e w' ⟨rfl, rfl⟩
  go_wp2
  go_ret
  exact ⟨rfl, rfl⟩

theorem left_nil {w : World} :
    Calls Try.prog 48 #[.pointer none] w fun e w' => e = .returned (.int .i64 0) ∧ w = w' := by
  go_enter Try.func48, Try.ntmps48
  go_wp2_with fail
  refine err_nil.mono ?_
  rintro e w' ⟨rfl, rfl⟩
  go_wp2
  go_ret
  exact ⟨rfl, rfl⟩

theorem fail_ok {w : World} {b : Nat} {l : List UInt8} (x : Int) (h : Rdr w b l 0) :
    Calls Try.prog 44 #[.pointer (some ⟨b, 0, none⟩), .int .i64 x] w fun e w' => e = .returned (.tuple #[]) ∧ Rdr w' b l x ∧ Chg (only b) w w' := by
  have h1 := h.err
  have h2 := Blk.frozen h 1
  go_enter Try.func44, Try.ntmps44
  go_wp2_with fail
  refine (err_any h).mono ?_
  rintro e w' ⟨rfl, rfl⟩
  go_wp2
  go_end0
  exact ⟨rfl, h.setErr x, (Chg.refl (only b) _).setCell (.inr (by exact rfl)) _⟩

theorem fail_bad {w : World} {b : Nat} {l : List UInt8} {er : Int} (x : Int) (h : Rdr w b l er) (he : er ≠ 0) :
    Calls Try.prog 44 #[.pointer (some ⟨b, 0, none⟩), .int .i64 x] w fun e w' => e = .returned (.tuple #[]) ∧ w = w' := by
  have h2 : (er == 0) = false := by simpa using he
  go_enter Try.func44, Try.ntmps44
  go_wp2_with fail
  refine (err_any h).mono ?_
  rintro e w' ⟨rfl, rfl⟩
  go_wp2
  go_end0
  exact ⟨rfl, rfl⟩

theorem fail_nil {w : World} (x : Int) :
    Calls Try.prog 44 #[.pointer none, .int .i64 x] w fun e w' => e = .returned (.tuple #[]) ∧ w = w' := by
  go_enter Try.func44, Try.ntmps44
  go_wp2_with fail
  refine err_nil.mono ?_
  rintro e w' ⟨rfl, rfl⟩
  go_wp2
  go_end0
  exact ⟨rfl, rfl⟩

theorem take_nil {w : World} (n : Int) :
    Calls Try.prog 45 #[.pointer none, .int .i64 n] w fun e w' => e = .returned (.string ⟨#[]⟩) ∧ w = w' := by
  go_enter Try.func45, Try.ntmps45
  go_wp2_with fail
  refine err_nil.mono ?_
  rintro e w' ⟨rfl, rfl⟩
  go_wp2
  go_ret
  exact ⟨rfl, rfl⟩

theorem take_bad {w : World} {b : Nat} {l : List UInt8} {er : Int} (n : Int) (h : Rdr w b l er) (he : er ≠ 0) :
    Calls Try.prog 45 #[.pointer (some ⟨b, 0, none⟩), .int .i64 n] w fun e w' => e = .returned (.string ⟨#[]⟩) ∧ w = w' := by
  have h3 : (er != 0) = true := by simpa using he
  go_enter Try.func45, Try.ntmps45
  go_wp2_with fail
  refine (err_any h).mono ?_
  rintro e w' ⟨rfl, rfl⟩
  go_wp2
  go_ret
  exact ⟨rfl, rfl⟩

theorem take_short {w : World} {b : Nat} {l : List UInt8} (n : Int) (h : Rdr w b l 0) (hn : (l.length : Int) < n) :
    Calls Try.prog 45 #[.pointer (some ⟨b, 0, none⟩), .int .i64 n] w fun e w' => e = .returned (.string ⟨#[]⟩) ∧ Rdr w' b l 3 ∧ Chg (only b) w w' := by
  have h1 := h.rest
  go_enter Try.func45, Try.ntmps45
  go_wp2_with fail
  refine (err_any h).mono ?_
  rintro e w' ⟨rfl, rfl⟩
  go_wp2_with fail
  refine (fail_ok 3 h).mono ?_
  rintro e w' ⟨rfl, h', hc⟩
  go_wp2
  go_ret
  exact ⟨rfl, h', hc⟩

theorem take_ok {w : World} {b : Nat} {l : List UInt8} (n : Nat) (h : Rdr w b l 0) (hn : n ≤ l.length) :
    Calls Try.prog 45 #[.pointer (some ⟨b, 0, none⟩), .int .i64 n] w fun e w' => e = .returned (.string ⟨(l.take n).toArray⟩) ∧ Rdr w' b (l.drop n) 0 ∧ Chg (only b) w w' := by
  have h1 := h.rest
  have h2 := Blk.frozen h 0
  go_enter Try.func45, Try.ntmps45
  go_wp2_with fail
  refine (err_any h).mono ?_
  rintro e w' ⟨rfl, rfl⟩
  go_wp2
  go_ret
  rw [extract_drop]
  exact ⟨ret_ (congrArg Value.string (extract_take l n)), h.setRest _, (Chg.refl (only b) _).setCell (.inr (by exact rfl)) _⟩

/-- what so many bytes are, what is left behind them, and the error -/
def tkV (n : Nat) (l : List UInt8) (er : Int) : List UInt8 := if er = 0 ∧ n ≤ l.length then l.take n else []
def tkL (n : Nat) (l : List UInt8) (er : Int) : List UInt8 := if er = 0 ∧ n ≤ l.length then l.drop n else l
def tkE (n : Nat) (l : List UInt8) (er : Int) : Int := if er = 0 ∧ l.length < n then 3 else er
theorem tkV_len (n : Nat) (l : List UInt8) (er : Int) : (tkV n l er).length ≤ n := by
  unfold tkV; split
  · exact List.length_take_le _ _
  · simp

theorem take_any {w : World} {b : Nat} {l : List UInt8} {er : Int} (n : Int) (h0 : 0 ≤ n) (h : Rdr w b l er) :
    Calls Try.prog 45 #[.pointer (some ⟨b, 0, none⟩), .int .i64 n] w fun e w' => e = .returned (.string ⟨(tkV n.toNat l er).toArray⟩) ∧ Rdr w' b (tkL n.toNat l er) (tkE n.toNat l er) ∧ Chg (only b) w w' := by
  obtain ⟨k, rfl⟩ := Int.eq_ofNat_of_zero_le h0
  rw [Int.toNat_natCast]
  by_cases he : er = 0
  · subst he
    by_cases hn : k ≤ l.length
    · refine (take_ok k h hn).mono ?_
      rintro e w' ⟨rfl, h1, h2⟩
      have a : tkV k l 0 = l.take k := by simp [tkV, hn]
      have b' : tkL k l 0 = l.drop k := by simp [tkL, hn]
      have c : tkE k l 0 = 0 := by simp [tkE]; omega
      rw [a, b', c]
      exact ⟨rfl, h1, h2⟩
    · refine (take_short k h (by omega)).mono ?_
      rintro e w' ⟨rfl, h1, h2⟩
      have a : tkV k l 0 = [] := by simp [tkV]; omega
      have b' : tkL k l 0 = l := by simp [tkL]; omega
      have c : tkE k l 0 = 3 := by simp [tkE]; omega
      rw [a, b', c]
      exact ⟨rfl, h1, h2⟩
  · refine (take_bad k h he).mono ?_
    rintro e w' ⟨rfl, rfl⟩
    have a : tkV k l er = [] := by simp [tkV, he]
    have b' : tkL k l er = l := by simp [tkL, he]
    have c : tkE k l er = er := by simp [tkE, he]
    rw [a, b', c]
    exact ⟨rfl, h, Chg.refl _ _⟩

theorem text_any {w : World} {b : Nat} {l : List UInt8} {er : Int} (n : Int) (h : Rdr w b l er) :
    Calls Try.prog 31 #[.pointer (some ⟨b, 0, none⟩), .int .i64 n] w fun e w' => e = .returned (.string ⟨(tkV n.toNat l er).toArray⟩) ∧ Rdr w' b (tkL n.toNat l er) (tkE n.toNat l er) ∧ Chg (only b) w w' := by
  go_enter Try.func31, Try.ntmps31
  go_wp2_with fail
  refine (take_any _ (by omega) h).mono ?_
  rw [show (max n 0).toNat = n.toNat by omega]
  rintro e w' ⟨rfl, h', hc⟩
  go_wp2
  go_ret
  exact ⟨rfl, h', hc⟩

theorem text_nil {w : World} (n : Int) :
    Calls Try.prog 31 #[.pointer none, .int .i64 n] w fun e w' => e = .returned (.string ⟨#[]⟩) ∧ w = w' := by
  go_enter Try.func31, Try.ntmps31
  go_wp2_with fail
  refine (take_nil _).mono ?_
  rintro e w' ⟨rfl, rfl⟩
  go_wp2
  go_ret
  exact ⟨rfl, rfl⟩

/-- what is left, as Left tells it -/
def lft (l : List UInt8) (er : Int) : Nat := if er = 0 then l.length else 0
theorem left_any {w : World} {b : Nat} {l : List UInt8} {er : Int} (h : Rdr w b l er) :
    Calls Try.prog 48 #[.pointer (some ⟨b, 0, none⟩)] w fun e w' => e = .returned (.int .i64 (lft l er)) ∧ w = w' := by
  by_cases he : er = 0
  · subst he; exact left_ok h
  · refine (left_bad h he).mono ?_
    rintro e w' ⟨rfl, rfl⟩
    exact ⟨by simp [lft, he], rfl⟩

theorem rest_any {w : World} {b : Nat} {l : List UInt8} {er : Int} (h : Rdr w b l er) :
    Calls Try.prog 33 #[.pointer (some ⟨b, 0, none⟩)] w fun e w' => e = .returned (.string ⟨(tkV l.length l er).toArray⟩) ∧ Rdr w' b (tkL l.length l er) er ∧ Chg (only b) w w' := by
  go_enter Try.func33, Try.ntmps33
  go_wp2_with fail
  refine (left_any h).mono ?_
  rintro e w' ⟨rfl, rfl⟩
  go_wp2_with fail
  refine (take_any _ (by omega) h).mono ?_
  rw [Int.toNat_natCast]
  rintro e w' ⟨rfl, h', hc⟩
  have a : tkV (lft l er) l er = tkV l.length l er := by unfold tkV lft; split <;> simp_all
  have b' : tkL (lft l er) l er = tkL l.length l er := by unfold tkL lft; split <;> simp_all
  have c : tkE (lft l er) l er = er := by unfold tkE lft; split <;> simp_all
  rw [b', c] at h'
  rw [a]
  clear a b' c
  go_wp2
  go_ret
  exact ⟨rfl, h', hc⟩

theorem rest_nil {w : World} :
    Calls Try.prog 33 #[.pointer none] w fun e w' => e = .returned (.string ⟨#[]⟩) ∧ w = w' := by
  go_enter Try.func33, Try.ntmps33
  go_wp2_with fail
  refine left_nil.mono ?_
  rintro e w' ⟨rfl, rfl⟩
  go_wp2_with fail
  refine (take_nil _).mono ?_
  rintro e w' ⟨rfl, rfl⟩
  go_wp2
  go_ret
  exact ⟨rfl, rfl⟩

def bdE (er : Int) : Int := if er = 0 then 4 else er
theorem bad_any {w : World} {b : Nat} {l : List UInt8} {er : Int} (h : Rdr w b l er) :
    Calls Try.prog 30 #[.pointer (some ⟨b, 0, none⟩)] w fun e w' => e = .returned (.tuple #[]) ∧ Rdr w' b l (bdE er) ∧ Chg (only b) w w' := by
  by_cases he : er = 0
  · subst he
    go_enter Try.func30, Try.ntmps30
    go_wp2_with fail
    refine (fail_ok _ h).mono ?_
    rintro e w' ⟨rfl, h', hc⟩
    go_wp2
    go_end0
    exact ⟨rfl, h', hc⟩
  · have e0 : bdE er = er := by simp [bdE, he]
    rw [e0]
    clear e0
    go_enter Try.func30, Try.ntmps30
    go_wp2_with fail
    refine (fail_bad _ h he).mono ?_
    rintro e w' ⟨rfl, rfl⟩
    go_wp2
    go_end0
    exact ⟨rfl, h, Chg.refl _ _⟩

theorem bad_nil {w : World} :
    Calls Try.prog 30 #[.pointer none] w fun e w' => e = .returned (.tuple #[]) ∧ w = w' := by
  go_enter Try.func30, Try.ntmps30
  go_wp2_with fail
  refine (fail_nil _).mono ?_
  rintro e w' ⟨rfl, rfl⟩
  go_wp2
  go_end0
  exact ⟨rfl, rfl⟩

def ndE (l : List UInt8) (er : Int) : Int := if er = 0 ∧ 0 < l.length then 4 else er
theorem end_any {w : World} {b : Nat} {l : List UInt8} {er : Int} (h : Rdr w b l er) :
    Calls Try.prog 51 #[.pointer (some ⟨b, 0, none⟩)] w fun e w' => e = .returned (.int .i64 (ndE l er)) ∧ Rdr w' b l (ndE l er) ∧ Chg (only b) w w' := by
  by_cases hc : er = 0 ∧ 0 < l.length
  · obtain ⟨rfl, hp⟩ := hc
    have e0 : ndE l 0 = 4 := by simp [ndE, hp]
    have e1 : lft l 0 = l.length := by simp [lft]
    rw [e0]
    clear e0
    have E1 := Lib.hid e1
    clear e1
    go_enter Try.func51, Try.ntmps51
    go_wp2_with fail
    refine (left_any h).mono ?_
    rw [E1.out]
    rintro e w' ⟨rfl, rfl⟩
    go_wp2_with fail
    refine (bad_any h).mono ?_
    rintro e w' ⟨rfl, h', hc⟩
    go_wp2_with fail
    refine (err_any h').mono ?_
    rintro e w'' ⟨rfl, rfl⟩
    go_wp2
    go_ret
    exact ⟨rfl, h', hc⟩
  · have e0 : ndE l er = er := by simp only [ndE]; rw [if_neg hc]
    have e1 : lft l er = 0 := by unfold lft; split <;> omega
    rw [e0]
    clear e0
    have E1 := Lib.hid e1
    clear e1
    go_enter Try.func51, Try.ntmps51
    go_wp2_with fail
    refine (left_any h).mono ?_
    rw [E1.out]
    rintro e w' ⟨rfl, rfl⟩
    go_wp2_with fail
    refine (err_any h).mono ?_
    rintro e w'' ⟨rfl, rfl⟩
    go_wp2
    go_ret
    exact ⟨rfl, h, Chg.refl _ _⟩

theorem end_nil {w : World} :
    Calls Try.prog 51 #[.pointer none] w fun e w' => e = .returned (.int .i64 1) ∧ w = w' := by
  go_enter Try.func51, Try.ntmps51
  go_wp2_with fail
  refine left_nil.mono ?_
  rintro e w' ⟨rfl, rfl⟩
  go_wp2_with fail
  refine err_nil.mono ?_
  rintro e w' ⟨rfl, rfl⟩
  go_wp2
  go_ret
  exact ⟨rfl, rfl⟩

theorem of_any {w : World} (l : List UInt8) :
    Calls Try.prog 28 #[.string ⟨l.toArray⟩] w fun e w' => e = .returned (.pointer (some ⟨w.heap.size, 0, none⟩)) ∧ Rdr w' w.heap.size l 0 ∧ Below w.heap.size w w' := by
  go_enter Try.func28, Try.ntmps28
  go_wp2
  go_ret
  exact ⟨rfl, Blk.new _ _ _, (Below.refl _ _).alloc (Nat.le_refl _) _⟩

end Go.Proofs.Ytieopgmmjpmflaa
