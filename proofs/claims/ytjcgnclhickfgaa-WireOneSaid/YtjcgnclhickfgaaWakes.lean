/- The bytes that are known (viaductlaw01.wakes). -/
import Derived.Test.YtjcgnclhickfgaaBytes
import Derived.Test.YtjcgnclhickfgaaNext
import Derived.Laws.IdiomStrings
import Derived.Lib.BufferRead
namespace Go.Proofs.Ytjcgnclhickfgaa
open Go.RowKit
set_option linter.unusedVariables false
set_option linter.unusedSimpArgs false

/-- the value v is a slice that reads as the bytes l -/
def Str (w : World) (v : Value) (l : List UInt8) : Prop := ∃ A c, v = .slice A l.length c ∧ (A = none → c = 0) ∧ Byt w A l
theorem OwnB.str {w : World} {base : Nat} {v : Value} {l : List UInt8} (h : OwnB w base v l) : Str w v l := by
  rcases h.2 with ⟨rfl, hn⟩ | ⟨g, cap, cur, rfl, _, _, _⟩
  · exact ⟨none, 0, by rw [hn], fun _ => rfl, fun h0 => absurd h0 (by omega)⟩
  · exact ⟨_, cap, rfl, (by simp), fun _ => ⟨_, rfl, fun j u hu => World.ownsRow.cells h (g := g) rfl j u hu⟩⟩
theorem Str.conv {w : World} {v : Value} {l : List UInt8} (h : Str w v l) : (convert 22 9 v).run Try.prog w = .ok (.string ⟨l.toArray⟩) w := by
  obtain ⟨A, c, rfl, hz, hb⟩ := h
  rcases Nat.eq_zero_or_pos l.length with h0 | h0
  · have hl : l = [] := List.eq_nil_of_length_eq_zero h0
    subst hl
    cases A with
    | none => exact Lib.run_convert_nil_bytes w _ _ _ c Try.underlying22 Try.underlying5 Try.underlying9
    | some ad => exact run_convert_bytes_back w _ _ _ ad c [] Try.underlying22 Try.underlying5 Try.underlying9 (fun j hj => absurd hj (by simp))
  · obtain ⟨ad, rfl, hc⟩ := hb h0
    exact run_convert_bytes_back w _ _ _ ad c l Try.underlying22 Try.underlying5 Try.underlying9 (fun j hj => hc j _ (by simp [bvals, bval, hj]))
theorem Str.below {w w' : World} {v : Value} {l : List UInt8} (h : Str w v l) (hb : Below w.heap.size w w') : Str w' v l := by
  obtain ⟨A, c, rfl, hz, hy⟩ := h
  exact ⟨A, c, rfl, hz, hy.below hb⟩

theorem below_rdr {w w' : World} {b : Nat} {l : List UInt8} {er : Int} (h : Rdr w b l er) (hb : Below w.heap.size w w') : Rdr w' b l er := Blk.below h hb (Blk.lt h)

set_option maxHeartbeats 1000000 in
theorem wakes_any {w : World} : Calls Try.prog 8 #[] w fun e w' => e = .returned (.bool true) ∧ Below w.heap.size w w' := by
  go_enter Try.func8, Try.ntmps8
  go_wp2_with fail
  refine (of_any [1, 2, 3]).mono ?_
  rintro e w1 ⟨rfl, h1, hb1⟩
  have HB1 := Lib.hid hb1
  clear hb1
  go_wp2_with fail
  refine (u16_any h1).mono ?_
  rintro e w2 ⟨rfl, h2, hc2⟩
  have h2' : Rdr w2 w.heap.size [3] 0 := h2
  have HC2 := Lib.hid hc2
  clear h1 h2 hc2
  rw [show num (tkV 2 [1, 2, 3] 0) = 258 from rfl]
  go_wp2_with fail
  refine (u16_any h2').mono ?_
  rintro e w3 ⟨rfl, h3, hc3⟩
  have h3' : Rdr w3 w.heap.size [3] 3 := h3
  have HC3 := Lib.hid hc3
  clear h2' h3 hc3
  rw [show num (tkV 2 [3] 0) = 0 from rfl]
  go_wp2_with fail
  refine (put16_any none 0 [] 258 (Byt.nil_ _ _) (fun _ => rfl) (by simp) (by omega) (by omega)).mono ?_
  rintro e w4 ⟨v, rfl, ho4, hb4⟩
  have hv4 : (convert 22 9 v).run Try.prog w4 = .ok (.string ⟨#[1, 2]⟩) w4 := ho4.str.conv
  have HB4 := Lib.hid hb4
  clear ho4 hb4
  go_wp2_with fail
  refine (put64_any (some ⟨w4.heap.size, 0, none⟩) 1 [9] 1 (Byt.one _ _ _ _ rfl) (fun h => by cases h) (by simp) (by omega) (by omega)).mono ?_
  rintro e w5 ⟨v5, rfl, ho5, hb5⟩
  have hv5 : (convert 22 9 v5).run Try.prog w5 = .ok (.string ⟨#[9, 0, 0, 0, 0, 0, 0, 0, 1]⟩) w5 := ho5.str.conv
  have HB5 := Lib.hid hb5
  clear ho5 hb5
  have h5 : Rdr w5 w.heap.size [3] 3 := by
    have a := below_rdr h3' HB4.out
    exact Blk.below (Blk.alloc a _) HB5.out (by have := Blk.lt a; simp; omega)
  clear h3'
  go_wp2_with fail
  refine (err_any h5).mono ?_
  rintro e w6 ⟨rfl, rfl⟩
  go_wp2
  go_ret
  refine ⟨rfl, ?_⟩
  have a1 := HB1.out
  have a2 : Below w.heap.size w1 w2 := HC2.out.below a1.size (fun k hk e => by unfold only at e; omega)
  have a3 : Below w.heap.size w2 w3 := HC3.out.below (a1.trans a2).size (fun k hk e => by unfold only at e; omega)
  have b3 := (a1.trans a2).trans a3
  have a4 := b3.trans (HB4.out.mono b3.size)
  exact (a4.alloc a4.size _).trans (HB5.out.mono (by have := a4.size; simp; omega))
end Go.Proofs.Ytjcgnclhickfgaa
