/- The document's reader (viaductref01): Text, Num. -/
import Derived.Test.YtjcfdkchnikbmaaReader
import Derived.Test.YtjcfdkchnikbmaaNext
import Derived.RegionTactic
import Derived.Deep.RegionWith
import Derived.Test.YtjcfdkchnikbmaaBytes
import Derived.ChangeAlike
import Derived.Outline
namespace Go.Proofs.Ytjcfdkchnikbmaa
open Go.RowKit
set_option linter.unusedVariables false
set_option linter.unusedSimpArgs false
set_option maxRecDepth 100000


abbrev RV (l : List UInt8) (er : Int) : Value := .agg #[.string ⟨l.toArray⟩, .int .i64 er]

theorem reftext_bad {w : World} {l : List UInt8} {er n : Int} (he : er ≠ 0) :
    Calls Try.prog 40 #[RV l er, .int .i64 n] w fun e w' => e = .returned (.tuple #[.string ⟨#[]⟩, RV l er]) ∧ Below w.heap.size w w' := by
  have h3 : (er != 0) = true := by simpa using he
  go_enter Try.func40, Try.ntmps40
  go_wp2_with fail
  go_region
  go_wp2
  exact bodyPost_ret (v := .tuple #[.string ⟨#[]⟩, RV l er]) (by simp [results, Try.results40, go_sem]) rfl ⟨rfl, (by repeat (first | exact Below.refl _ _ | (refine Below.drew ?_) | (refine Below.alloc ?_ (by simp; try omega) _) | (refine Below.setCell ?_ (by simp; try omega) _)))⟩

theorem reftext_neg {w : World} {l : List UInt8} {n : Int} (hn : n ≤ 0) :
    Calls Try.prog 40 #[RV l 0, .int .i64 n] w fun e w' => e = .returned (.tuple #[.string ⟨#[]⟩, RV l 0]) ∧ Below w.heap.size w w' := by
  go_enter Try.func40, Try.ntmps40
  go_wp2_with fail
  go_region
  go_wp2
  exact bodyPost_ret (v := .tuple #[.string ⟨#[]⟩, RV l 0]) (by simp [results, Try.results40, go_sem]) rfl ⟨rfl, (by repeat (first | exact Below.refl _ _ | (refine Below.drew ?_) | (refine Below.alloc ?_ (by simp; try omega) _) | (refine Below.setCell ?_ (by simp; try omega) _)))⟩

theorem reftext_short {w : World} {l : List UInt8} {n : Int} (hn : 0 < n) (hs : (l.length : Int) < n) :
    Calls Try.prog 40 #[RV l 0, .int .i64 n] w fun e w' => e = .returned (.tuple #[.string ⟨#[]⟩, RV [] 3]) ∧ Below w.heap.size w w' := by
  have hn' : ¬ n ≤ 0 := by omega
  go_enter Try.func40, Try.ntmps40
  go_wp2_with fail
  exact bodyPost_ret (v := .tuple #[.string ⟨#[]⟩, RV [] 3]) (by simp [results, Try.results40, go_sem]) rfl ⟨rfl, (by repeat (first | exact Below.refl _ _ | (refine Below.drew ?_) | (refine Below.alloc ?_ (by simp; try omega) _) | (refine Below.setCell ?_ (by simp; try omega) _)))⟩

theorem reftext_ok {w : World} {l : List UInt8} {n : Nat} (hn : 0 < n) (hs : n ≤ l.length) :
    Calls Try.prog 40 #[RV l 0, .int .i64 n] w fun e w' => e = .returned (.tuple #[.string ⟨(l.take n).toArray⟩, RV (l.drop n) 0]) ∧ Below w.heap.size w w' := by
  have hn' : ¬ (n : Int) ≤ 0 := by omega
  go_enter Try.func40, Try.ntmps40
  go_wp2_with fail
  go_region
  go_wp2
  rw [extract_drop, extract_take]
  exact bodyPost_ret (v := .tuple #[.string ⟨(l.take n).toArray⟩, RV (l.drop n) 0]) (by simp [results, Try.results40, go_sem]) rfl ⟨rfl, (by repeat (first | exact Below.refl _ _ | (refine Below.drew ?_) | (refine Below.alloc ?_ (by simp; try omega) _) | (refine Below.setCell ?_ (by simp; try omega) _)))⟩

/-- what the document's Text hands over -/
def rtV (n : Int) (l : List UInt8) (er : Int) : List UInt8 := if er ≠ 0 ∨ n ≤ 0 then [] else if (l.length : Int) < n then [] else l.take n.toNat
def rtL (n : Int) (l : List UInt8) (er : Int) : List UInt8 := if er ≠ 0 ∨ n ≤ 0 then l else if (l.length : Int) < n then [] else l.drop n.toNat
def rtE (n : Int) (l : List UInt8) (er : Int) : Int := if er ≠ 0 ∨ n ≤ 0 then er else if (l.length : Int) < n then 3 else 0
theorem rtV_len (n : Int) (l : List UInt8) (er : Int) : (rtV n l er).length ≤ n.toNat := by
  unfold rtV; repeat' split
  · simp
  · simp
  · exact List.length_take_le _ _
theorem reftext_any {w : World} {l : List UInt8} (er n : Int) :
    Calls Try.prog 40 #[RV l er, .int .i64 n] w fun e w' => e = .returned (.tuple #[.string ⟨(rtV n l er).toArray⟩, RV (rtL n l er) (rtE n l er)]) ∧ Below w.heap.size w w' := by
  by_cases he : er ≠ 0
  · have a : rtV n l er = [] := by simp [rtV, he]
    have b : rtL n l er = l := by simp [rtL, he]
    have c : rtE n l er = er := by simp [rtE, he]
    rw [a, b, c]
    exact reftext_bad he
  · obtain rfl : er = 0 := by omega
    by_cases hn : n ≤ 0
    · have a : rtV n l 0 = [] := by simp [rtV, hn]
      have b : rtL n l 0 = l := by simp [rtL, hn]
      have c : rtE n l 0 = 0 := by simp [rtE, hn]
      rw [a, b, c]
      exact reftext_neg hn
    · by_cases hs : (l.length : Int) < n
      · have a : rtV n l 0 = [] := by simp [rtV, hs]
        have b : rtL n l 0 = [] := by simp [rtL, hs, hn]
        have c : rtE n l 0 = 3 := by simp [rtE, hs, hn]
        rw [a, b, c]
        exact reftext_short (by omega) hs
      · obtain ⟨k, rfl⟩ := Int.eq_ofNat_of_zero_le (show 0 ≤ n by omega)
        have a : rtV k l 0 = l.take k := by simp only [rtV]; rw [if_neg (by omega), if_neg hs, Int.toNat_natCast]
        have b : rtL k l 0 = l.drop k := by simp only [rtL]; rw [if_neg (by omega), if_neg hs, Int.toNat_natCast]
        have c : rtE k l 0 = 0 := by simp only [rtE]; rw [if_neg (by omega), if_neg hs]
        rw [a, b, c]
        exact reftext_ok (by omega) (by omega)

set_option maxHeartbeats 400000 in
theorem refnum_any {w : World} {l : List UInt8} (er n : Int) (hn : 0 ≤ n) (hn' : n ≤ 8) :
    Calls Try.prog 23 #[RV l er, .int .i64 n] w fun e w' => e = .returned (.tuple #[.int .u64 (num (rtV n l er)), RV (rtL n l er) (rtE n l er)]) ∧ Below w.heap.size w w' := by
  have hlen : (rtV n l er).length ≤ 8 := Nat.le_trans (rtV_len n l er) (by omega)
  have hR : ∀ w, Calls Try.prog 40 #[RV l er, .int .i64 n] w fun e w' => e = .returned (.tuple #[.string ⟨(rtV n l er).toArray⟩, RV (rtL n l er) (rtE n l er)]) ∧ Below w.heap.size w w' := fun w => reftext_any er n
  generalize rtV n l er = m at *
  generalize rtL n l er = l' at *
  generalize rtE n l er = er' at *
  have HR := Lib.hid hR
  clear hR
  go_enter Try.func23, Try.ntmps23
  go_wp2_with fail
  refine (HR.out _).mono ?_
  rintro e w1 ⟨rfl, hb⟩
  have hb1 : Below w.heap.size w w1 := (by
    refine Below.trans (b := (w.alloc (Obj.cells #[.string ⟨l.toArray⟩, .int .i64 er] 68)).alloc (Obj.cells #[.string ⟨#[]⟩, .int .i64 0] 68)) (by repeat (first | exact Below.refl _ _ | (refine Below.drew ?_) | (refine Below.alloc ?_ (by simp; try omega) _) | (refine Below.setCell ?_ (by simp; try omega) _))) (hb.mono (by simp; try omega)))
  have hs := hb.size
  simp only [World.size_alloc] at hs
  have hk : Blk w1 (w.heap.size + 1) 68 #[.string ⟨#[]⟩, .int .i64 0] := Blk.below (g := w.heap.size + 1) (by simpa using Blk.new (w.alloc (Obj.cells #[.string ⟨l.toArray⟩, .int .i64 er] 68)) _ _) hb (by simp)
  have hk0 : w1.cell? ⟨w.heap.size + 1, 0, none⟩ = some (.string ⟨#[]⟩) := hk.cell 0
  have hk1 : w1.cell? ⟨w.heap.size + 1, 1, none⟩ = some (.int .i64 0) := hk.cell 1
  have hf0 := hk.frozen 0
  have hf1 := hk.frozen 1
  have HB1 := Lib.hid hb1
  have hs2 : w.heap.size + 1 < w1.heap.size := by omega
  clear hb hb1 hk hs
  go_wp2
  go_loop [8, 9] (fun n i => ∃ k : Nat, k ≤ m.length ∧ i = .int .i64 k ∧ n = .int .u64 (num (m.take k))) (fun _ i => m.length - (intOf i).toNat)
  case atStart => exact ⟨0, Nat.zero_le _, rfl, rfl⟩
  case round =>
    obtain ⟨k, hk, rfl, rfl⟩ := hrel
    by_cases hlt : k < m.length
    · go_wp2
      go_round
      case rel =>
        refine ⟨k + 1, by omega, by go_num, ?_⟩
        rw [num_take_lt m k hlt]
        exact congrArg (Value.int IntKind.u64) (add_byte (num (m.take k)) m[k] (num_small k hlen hlt))
      case measure => simp [intOf]; omega
    · go_wp2
      go_region
      go_wp2
      have h3 : m.take k = m := List.take_of_length_le (by omega)
      refine bodyPost_ret (v := .tuple #[.int .u64 (num m), RV l' er']) (by simp [results, Try.results23, go_sem, h3, hk0, hk1, hs2]) rfl ⟨rfl, ?_⟩
      have b1 := HB1.out
      have b2 := (b1.setCell (p := ⟨w.heap.size + 1, 0, none⟩) (by simp) (.string ⟨l'.toArray⟩)).setCell (p := ⟨w.heap.size + 1, 1, none⟩) (by simp) (.int .i64 er')
      exact (b2.alloc b2.size (Obj.cells #[.string ⟨l'.toArray⟩, .int .i64 er'] 68)).drew

end Go.Proofs.Ytjcfdkchnikbmaa
