/- Layer 8: the laws' wakes. -/
import Derived.Test.YtlofaahckdfeiaaDb
namespace Go.Proofs.Ytlofaahckdfeiaa
open Go.RowKit
set_option linter.unusedVariables false
set_option linter.unusedSimpArgs false
set_option maxRecDepth 100000

def WakesC (n : Nat) : Prop := ∀ w : World, Calls Try.prog n #[] w fun r w' => r = .returned (.bool true) ∧ Below w.heap.size w w'
def wkA : Mc := ⟨2, 0, 0, 0, 0, 1⟩
def wkK : Pl := ⟨1, wkA⟩
/-- a table, and an address in memory beside it -/
structure WkS (W : World) (w : World) (t : Nat) (X : Nat → Prop) (g : Nat) (L : List En) (S : List (Pl × UInt8)) : Prop where
  db : Db w t X L S
  mc : Blk w g 25 #[.int .u8 2, .int .u8 0, .int .u8 0, .int .u8 0, .int .u8 0, .int .u8 1]
  bl : Below W.heap.size W w
  up : ∀ k, X k → W.heap.size ≤ k
  ng : ¬ X g
theorem WkS.to {W w w' : World} {t g : Nat} {X : Nat → Prop} {L L' : List En} {S S' : List (Pl × UInt8)} (h : WkS W w t X g L S) (d : DbTo w w' t X L' S') : ∃ X', WkS W w' t X' g L' S' := by
  obtain ⟨X', h', hc, hk⟩ := d
  exact ⟨X', h', h.mc.chg hc h.ng, h.bl.trans (hc.below h.bl.size (fun k hk e => by have := h.up k e; omega)), fun k e => (hk k e).elim (h.up k) (fun e => Nat.le_trans h.bl.size e), fun e => (hk g e).elim h.ng (fun e => by have := h.mc.lt; omega)⟩
theorem WkS.gro {W w w' : World} {t g : Nat} {X : Nat → Prop} {L : List En} {S : List (Pl × UInt8)} (h : WkS W w t X g L S) (d : Gro w w') : WkS W w' t X g L S :=
  ⟨h.db.gro d, d.blk h.mc, h.bl.trans (d.below.mono h.bl.size), h.up, h.ng⟩
theorem WkS.cells {W w : World} {t g : Nat} {X : Nat → Prop} {L : List En} {S : List (Pl × UInt8)} (h : WkS W w t X g L S) : w.cell? ⟨g, 0, none⟩ = some (.int .u8 2) ∧ w.cell? ⟨g, 1, none⟩ = some (.int .u8 0) ∧ w.cell? ⟨g, 2, none⟩ = some (.int .u8 0) ∧ w.cell? ⟨g, 3, none⟩ = some (.int .u8 0) ∧ w.cell? ⟨g, 4, none⟩ = some (.int .u8 0) ∧ w.cell? ⟨g, 5, none⟩ = some (.int .u8 1) :=
  ⟨h.mc.cell 0, h.mc.cell 1, h.mc.cell 2, h.mc.cell 3, h.mc.cell 4, h.mc.cell 5⟩
section
variable {w : World} {t : Nat} {X : Nat → Prop}
theorem wk_l1 (h : Db w t X [] []) : Calls Try.prog 16 #[.pointer (some ⟨t, 0, none⟩), .int .u16 1, .agg #[.int .u8 2, .int .u8 0, .int .u8 0, .int .u8 0, .int .u8 0, .int .u8 1], .int .u8 2] w fun e w' => e = .returned (.tuple #[]) ∧ DbTo w w' t X [⟨wkK, 2, 0⟩] [] := by
  have := learn_db h 1 wkA 2
  rw [show llearn [] [] ⟨1, wkA⟩ 2 = [⟨wkK, 2, 0⟩] by decide] at this
  exact this
theorem wk_l2 (h : Db w t X [⟨wkK, 2, 0⟩] []) : Calls Try.prog 16 #[.pointer (some ⟨t, 0, none⟩), .int .u16 1, .agg #[.int .u8 2, .int .u8 0, .int .u8 0, .int .u8 0, .int .u8 0, .int .u8 1], .int .u8 3] w fun e w' => e = .returned (.tuple #[]) ∧ DbTo w w' t X [⟨wkK, 3, 0⟩] [] := by
  have := learn_db h 1 wkA 3
  rw [show llearn [⟨wkK, 2, 0⟩] [] ⟨1, wkA⟩ 3 = [⟨wkK, 3, 0⟩] by decide] at this
  exact this
theorem wk_s (h : Db w t X [⟨wkK, 3, 0⟩] []) : Calls Try.prog 12 #[.pointer (some ⟨t, 0, none⟩), .int .u16 1, .agg #[.int .u8 2, .int .u8 0, .int .u8 0, .int .u8 0, .int .u8 0, .int .u8 1], .int .u8 5] w fun e w' => e = .returned (.int .i64 0) ∧ DbTo w w' t X [] [(wkK, 5)] := by
  have := set_db h 1 wkA 5
  rw [show setL [⟨wkK, 3, 0⟩] [] ⟨1, wkA⟩ = [] by decide] at this
  rw [show setS [] ⟨1, wkA⟩ 5 = [(wkK, 5)] by decide] at this
  rw [show sete [] ⟨1, wkA⟩ = 0 by decide] at this
  exact this
theorem wk_d (h : Db w t X [] [(wkK, 5)]) : Calls Try.prog 14 #[.pointer (some ⟨t, 0, none⟩), .int .u16 1, .agg #[.int .u8 2, .int .u8 0, .int .u8 0, .int .u8 0, .int .u8 0, .int .u8 1]] w fun e w' => e = .returned (.int .i64 0) ∧ DbTo w w' t X [] [] := by
  have := drop_db h 1 wkA
  rw [show dropS [(wkK, 5)] ⟨1, wkA⟩ = [] by decide] at this
  rw [show drope [(wkK, 5)] ⟨1, wkA⟩ = 0 by decide] at this
  exact this
theorem wk_k1 (h : Db w t X [⟨wkK, 3, 0⟩] []) : Calls Try.prog 18 #[.pointer (some ⟨t, 0, none⟩), .int .u16 1, .agg #[.int .u8 2, .int .u8 0, .int .u8 0, .int .u8 0, .int .u8 0, .int .u8 1]] w fun e w' => e = .returned (.tuple #[.int .u8 8, .bool true]) ∧ Gro w w' := by
  have := look_db h 1 wkA
  rw [show lookP [⟨wkK, 3, 0⟩] [] ⟨1, wkA⟩ = 8 by decide, show lookB [⟨wkK, 3, 0⟩] [] ⟨1, wkA⟩ = true by decide] at this
  exact this
theorem wk_k2 (h : Db w t X [] [(wkK, 5)]) : Calls Try.prog 18 #[.pointer (some ⟨t, 0, none⟩), .int .u16 1, .agg #[.int .u8 2, .int .u8 0, .int .u8 0, .int .u8 0, .int .u8 0, .int .u8 1]] w fun e w' => e = .returned (.tuple #[.int .u8 5, .bool true]) ∧ Gro w w' := by
  have := look_db h 1 wkA
  rw [show lookP [] [(wkK, 5)] ⟨1, wkA⟩ = 5 by decide, show lookB [] [(wkK, 5)] ⟨1, wkA⟩ = true by decide] at this
  exact this
theorem wk_k3 (h : Db w t X [] []) : Calls Try.prog 18 #[.pointer (some ⟨t, 0, none⟩), .int .u16 1, .agg #[.int .u8 2, .int .u8 0, .int .u8 0, .int .u8 0, .int .u8 0, .int .u8 1]] w fun e w' => e = .returned (.tuple #[.int .u8 0, .bool false]) ∧ Gro w w' := by
  have := look_db h 1 wkA
  rw [show lookP [] [] ⟨1, wkA⟩ = 0 by decide, show lookB [] [] ⟨1, wkA⟩ = false by decide] at this
  exact this
end
set_option maxHeartbeats 4000000 in
theorem wakes_any : WakesC 6 := by
  intro w
  go_enter Try.func6, Try.ntmps6
  go_wp2_with fail
  refine (new_db _).mono ?_
  rintro e w1 ⟨t, X, rfl, hD, hup, hG⟩
  obtain ⟨g, hg⟩ : ∃ g, w1.heap.size = g := ⟨_, rfl⟩
  obtain ⟨w2, hw2⟩ : ∃ w2, w1.alloc (.cells #[.int .u8 2, .int .u8 0, .int .u8 0, .int .u8 0, .int .u8 0, .int .u8 1] 25) = w2 := ⟨_, rfl⟩
  have HS : Hid (WkS w w2 t X g [] []) := Lib.hid ⟨by rw [← hw2]; exact hD.gro ((Gro.refl _).alloc _), by rw [← hw2, ← hg]; exact Blk.new w1 _ _, by rw [← hw2]; exact hG.below.alloc hG.size _, hup, fun e => by have := hD.lt g e; omega⟩
  clear hD hup hG
  obtain ⟨m0, m1, m2, m3, m4, m5⟩ := HS.out.cells
  go_upto_region 3 with fail
  clear hg hw2
  go_wp2_with fail
  refine (wk_l1 HS.out.db).mono ?_
  rintro e w3 ⟨rfl, hd⟩
  obtain ⟨X3, hd'⟩ := HS.out.to hd
  have HS' := Lib.hid hd'
  clear hd hd' HS m0 m1 m2 m3 m4 m5
  have HS := HS'
  clear HS'
  obtain ⟨m0, m1, m2, m3, m4, m5⟩ := HS.out.cells
  go_wp2_with fail
  refine (wk_l2 HS.out.db).mono ?_
  rintro e w4 ⟨rfl, hd⟩
  obtain ⟨X4, hd'⟩ := HS.out.to hd
  have HS' := Lib.hid hd'
  clear hd hd' HS m0 m1 m2 m3 m4 m5
  have HS := HS'
  clear HS'
  obtain ⟨m0, m1, m2, m3, m4, m5⟩ := HS.out.cells
  go_wp2_with fail
  refine (wk_k1 HS.out.db).mono ?_
  rintro e w5 ⟨rfl, hd⟩
  have HS' := Lib.hid (HS.out.gro hd)
  clear hd HS m0 m1 m2 m3 m4 m5
  have HS := HS'
  clear HS'
  obtain ⟨m0, m1, m2, m3, m4, m5⟩ := HS.out.cells
  go_wp2_with fail
  refine (wk_s HS.out.db).mono ?_
  rintro e w6 ⟨rfl, hd⟩
  obtain ⟨X6, hd'⟩ := HS.out.to hd
  have HS' := Lib.hid hd'
  clear hd hd' HS m0 m1 m2 m3 m4 m5
  have HS := HS'
  clear HS'
  obtain ⟨m0, m1, m2, m3, m4, m5⟩ := HS.out.cells
  go_wp2_with fail
  refine (wk_k2 HS.out.db).mono ?_
  rintro e w7 ⟨rfl, hd⟩
  have HS' := Lib.hid (HS.out.gro hd)
  clear hd HS m0 m1 m2 m3 m4 m5
  have HS := HS'
  clear HS'
  obtain ⟨m0, m1, m2, m3, m4, m5⟩ := HS.out.cells
  go_wp2_with fail
  refine (wk_d HS.out.db).mono ?_
  rintro e w8 ⟨rfl, hd⟩
  obtain ⟨X8, hd'⟩ := HS.out.to hd
  have HS' := Lib.hid hd'
  clear hd hd' HS m0 m1 m2 m3 m4 m5
  have HS := HS'
  clear HS'
  obtain ⟨m0, m1, m2, m3, m4, m5⟩ := HS.out.cells
  go_wp2_with fail
  refine (wk_k3 HS.out.db).mono ?_
  rintro e w9 ⟨rfl, hd⟩
  have HS' := Lib.hid (HS.out.gro hd)
  clear hd HS m0 m1 m2 m3 m4 m5
  have HS := HS'
  clear HS'
  obtain ⟨m0, m1, m2, m3, m4, m5⟩ := HS.out.cells
  clear m0 m1 m2 m3 m4 m5
  go_wp2_with fail
  refine (list_db HS.out.db).mono ?_
  rintro e w10 ⟨A, c, rfl, hE, hb⟩
  have HB := Lib.hid (HS.out.bl.trans (hb.mono HS.out.bl.size))
  clear hE hb HS
  go_wp2
  go_ret
  exact ⟨rfl, HB.out⟩
end Go.Proofs.Ytlofaahckdfeiaa
