/- MacBack: numbers and addresses, texts and addresses answer each other: for every two addresses, every number and every text, without a condition. -/
import Derived.Test.YtabdhokcgedomaaWakes
import Derived.Test.YtabdhokcgedomaaRefParse
import Derived.Test.YtabdhokcgedomaaMacNum
import Derived.Test.YtabdhokcgedomaaOpenMac
import Derived.OpenShut
import Derived.ShutString
import Derived.ChangeOld
import Derived.Deep.RegionHeld3
namespace Go.Proofs.Ytabdhokcgedomaa.macBack
open Go.ChangeShapes Go.WideShapes Go.ChangeAt Go.RowKit
open Go.ChangeMaps (open_string shut_string)
set_option linter.unusedVariables false
set_option linter.unusedSimpArgs false

theorem keep6 {w w' : World} {g : Nat} {a b c d e f : UInt8} (h0 : w.cell? ⟨g, 0, none⟩ = some (.int .u8 a.toNat)) (h1 : w.cell? ⟨g, 1, none⟩ = some (.int .u8 b.toNat)) (h2 : w.cell? ⟨g, 2, none⟩ = some (.int .u8 c.toNat))
    (h3 : w.cell? ⟨g, 3, none⟩ = some (.int .u8 d.toNat)) (h4 : w.cell? ⟨g, 4, none⟩ = some (.int .u8 e.toNat)) (h5 : w.cell? ⟨g, 5, none⟩ = some (.int .u8 f.toNat)) (hb : Below w.heap.size w w') :
    w'.cell? ⟨g, 0, none⟩ = some (.int .u8 a.toNat) ∧ w'.cell? ⟨g, 1, none⟩ = some (.int .u8 b.toNat) ∧ w'.cell? ⟨g, 2, none⟩ = some (.int .u8 c.toNat) ∧
    w'.cell? ⟨g, 3, none⟩ = some (.int .u8 d.toNat) ∧ w'.cell? ⟨g, 4, none⟩ = some (.int .u8 e.toNat) ∧ w'.cell? ⟨g, 5, none⟩ = some (.int .u8 f.toNat) := by
  have hg := World.block_lt_of_cell? w _ h0
  refine ⟨?_, ?_, ?_, ?_, ?_, ?_⟩
  · rw [hb.cell (p := ⟨g, 0, none⟩) hg]; exact h0
  · rw [hb.cell (p := ⟨g, 1, none⟩) hg]; exact h1
  · rw [hb.cell (p := ⟨g, 2, none⟩) hg]; exact h2
  · rw [hb.cell (p := ⟨g, 3, none⟩) hg]; exact h3
  · rw [hb.cell (p := ⟨g, 4, none⟩) hg]; exact h4
  · rw [hb.cell (p := ⟨g, 5, none⟩) hg]; exact h5
theorem keepB {W w w' : World} (hB : Hid (Below W.heap.size W w)) (hb : Below w.heap.size w w') : Hid (Below W.heap.size W w') := Lib.hid (hB.out.trans (hb.mono hB.out.size))
theorem num_inj (l r : List UInt8) (h : l.length = r.length) : (l == r) = ((num l : Int) == (num r : Int)) := by
  rw [Bool.eq_iff_iff]
  simp only [beq_iff_eq]
  constructor
  · intro e; rw [e]
  · intro e
    have e2 : num l = num r := by omega
    rw [← dig_num l, ← dig_num r, e2, h]
theorem txt_inj (a b c d e f a' b' c' d' e' f' : UInt8) : (txt a b c d e f == txt a' b' c' d' e' f') = ([a, b, c, d, e, f] == [a', b', c', d', e', f']) := by
  rw [Bool.eq_iff_iff]
  simp only [beq_iff_eq]
  constructor
  · intro h
    have h1 := prsV_txt a b c d e f
    rw [h, prsV_txt] at h1
    simp only [Value.tuple.injEq, Array.mk.injEq, List.cons.injEq, Value.agg.injEq, Value.int.injEq, true_and, and_true] at h1
    obtain ⟨h0, h1, h2, h3, h4, h5⟩ := h1
    have g : ∀ u v : UInt8, ((u.toNat : Int) = (v.toNat : Int)) → v = u := fun u v e => UInt8.toNat_inj.1 (by omega)
    rw [g _ _ h0, g _ _ h1, g _ _ h2, g _ _ h3, g _ _ h4, g _ _ h5]
  · intro h
    simp only [List.cons.injEq, and_true] at h
    obtain ⟨rfl, rfl, rfl, rfl, rfl, rfl⟩ := h
    rfl
set_option maxRecDepth 100000 in
set_option maxHeartbeats 8000000 in
theorem walkB (W : World) (a0 a1 a2 a3 a4 a5 b0 b1 b2 b3 b4 b5 : UInt8) (n : Nat) (hn64 : n < 18446744073709551616) (s : List UInt8) :
    Calls Try.prog 6 #[MA a0 a1 a2 a3 a4 a5, MA b0 b1 b2 b3 b4 b5, .int .u64 n, .string ⟨s.toArray⟩] W fun e w' => e = .returned (.bool true) ∧ Below W.heap.size W w' := by
  by_cases hlen : 100 < s.length
  · have h3 : decide ((100 : Int) < (s.length : Int)) = true := by simp; omega
    clear hn64
    go_enter Try.func6, Try.ntmps6
    go_wp2_with fail
    refine (wakes_any _).mono ?_
    rintro r w1 ⟨rfl, hb1⟩
    go_wp2
    go_ret
    exact ⟨rfl, (((Below.refl _ _).alloc (Nat.le_refl _) _).alloc (by simp) _).trans (hb1.mono (by simp; omega))⟩
  have h3 : decide ((100 : Int) < (s.length : Int)) = false := by simp; omega
  obtain ⟨nA, hnA⟩ : ∃ nA, num [a0, a1, a2, a3, a4, a5] = nA := ⟨_, rfl⟩
  obtain ⟨nB, hnB⟩ : ∃ nB, num [b0, b1, b2, b3, b4, b5] = nB := ⟨_, rfl⟩
  obtain ⟨tA, htA⟩ : ∃ t, txt a0 a1 a2 a3 a4 a5 = t := ⟨_, rfl⟩
  obtain ⟨tB, htB⟩ : ∃ t, txt b0 b1 b2 b3 b4 b5 = t := ⟨_, rfl⟩
  obtain ⟨q, hq⟩ : ∃ q, ([a0, a1, a2, a3, a4, a5] == [b0, b1, b2, b3, b4, b5]) = q := ⟨_, rfl⟩
  have hAn : nA < 281474976710656 := by rw [← hnA]; exact Nat.lt_of_lt_of_le (num_lt [a0, a1, a2, a3, a4, a5]) (by show 256 ^ 6 ≤ 281474976710656; decide)
  have hdA : dig 6 nA = [a0, a1, a2, a3, a4, a5] := by rw [← hnA]; exact dig_num [a0, a1, a2, a3, a4, a5]
  have hpA : prsV tA = .tuple #[MA a0 a1 a2 a3 a4 a5, .bool true] := by rw [← htA]; exact prsV_txt a0 a1 a2 a3 a4 a5
  have hnn : ((nA : Int) == (nB : Int)) = q := by rw [← hq, ← hnA, ← hnB, ← num_inj [a0, a1, a2, a3, a4, a5] [b0, b1, b2, b3, b4, b5] rfl]
  have htt : (tA == tB) = q := by rw [← hq, ← htA, ← htB, txt_inj]
  have eA : ∀ w, (Op.equalIn 10000 23 (.agg #[.int .u8 a0.toNat, .int .u8 a1.toNat, .int .u8 a2.toNat, .int .u8 a3.toNat, .int .u8 a4.toNat, .int .u8 a5.toNat]) (.agg #[.int .u8 a0.toNat, .int .u8 a1.toNat, .int .u8 a2.toNat, .int .u8 a3.toNat, .int .u8 a4.toNat, .int .u8 a5.toNat])).run Try.prog w = .ok true w := fun w => by have := run_eq6 a0 a1 a2 a3 a4 a5 a0 a1 a2 a3 a4 a5 w; rw [beq_self_eq_true] at this; exact this
  have eAB : ∀ w, (Op.equalIn 10000 23 (.agg #[.int .u8 a0.toNat, .int .u8 a1.toNat, .int .u8 a2.toNat, .int .u8 a3.toNat, .int .u8 a4.toNat, .int .u8 a5.toNat]) (.agg #[.int .u8 b0.toNat, .int .u8 b1.toNat, .int .u8 b2.toNat, .int .u8 b3.toNat, .int .u8 b4.toNat, .int .u8 b5.toNat])).run Try.prog w = .ok q w := fun w => by have := run_eq6 a0 a1 a2 a3 a4 a5 b0 b1 b2 b3 b4 b5 w; rw [hq] at this; exact this
  have HNA := Lib.hid hnA
  have HNB := Lib.hid hnB
  have HTA := Lib.hid htA
  have HTB := Lib.hid htB
  have HDA := Lib.hid hdA
  have HPA := Lib.hid hpA
  have HAN := Lib.hid hAn
  have H64 := Lib.hid hn64
  clear hnA hnB htA htB hq hdA hpA hAn hn64
  go_enter Try.func6, Try.ntmps6
  go_wp2_with fail
  refine (number_any _ a0 a1 a2 a3 a4 a5).mono ?_
  rw [HNA.out]
  rintro r w1 ⟨rfl, hb1⟩
  have HB1 : Hid (Below W.heap.size W w1) := Lib.hid ((((Below.refl W.heap.size W).alloc (Nat.le_refl _) _).alloc (by simp) _).trans (hb1.mono (by simp; omega)))
  have A1 := Lib.hid (((Arr.new W a0 a1 a2 a3 a4 a5).alloc _).next hb1)
  have B1 : Hid (Arr w1 (W.heap.size + 1) b0 b1 b2 b3 b4 b5) := Lib.hid (by have := (Arr.new (W.alloc _) b0 b1 b2 b3 b4 b5).next hb1; simpa using this)
  clear hb1
  go_wp2_with fail
  refine (macof_in _ nA HAN.out a0 a1 a2 a3 a4 a5 HDA.out).mono ?_
  rintro r w2 ⟨rfl, hb2⟩
  have HB2 : Hid (Below W.heap.size W w2) := Lib.hid (HB1.out.trans (hb2.mono HB1.out.size))
  have A2 := A1.out.next hb2
  have B2 := Lib.hid (B1.out.next hb2)
  have hl2 := A2.lt
  obtain ⟨c0, c1, c2, c3, c4, c5⟩ := A2.cells
  have HA2 := Lib.hid A2
  clear hb2 HB1 A1 B1 A2
  go_wp2_with fail
  refine (text_mac _ a0 a1 a2 a3 a4 a5).mono ?_
  rw [HTA.out]
  rintro r w3 ⟨rfl, hb3⟩
  have HB3 : Hid (Below W.heap.size W w3) := Lib.hid ((HB2.out.alloc HB2.out.size _).trans (hb3.mono (by have := HB2.out.size; simp; omega)))
  have A3 := Lib.hid ((HA2.out.alloc _).next hb3)
  have B3 := Lib.hid ((B2.out.alloc _).next hb3)
  have X3 := Lib.hid ((Arr.new w2 a0 a1 a2 a3 a4 a5).next hb3)
  clear hb3 HB2 HA2 B2 c0 c1 c2 c3 c4 c5 hl2
  go_wp2_with fail
  refine (parse_any _ tA).mono ?_
  rw [HPA.out]
  rintro r w4 ⟨rfl, hb4⟩
  have HB4 : Hid (Below W.heap.size W w4) := Lib.hid (HB3.out.trans (hb4.mono HB3.out.size))
  have A4 := (A3.out.next hb4).alloc (.cells #[.int .u8 a0.toNat, .int .u8 a1.toNat, .int .u8 a2.toNat, .int .u8 a3.toNat, .int .u8 a4.toNat, .int .u8 a5.toNat] 23)
  have B4 := (B3.out.next hb4).alloc (.cells #[.int .u8 a0.toNat, .int .u8 a1.toNat, .int .u8 a2.toNat, .int .u8 a3.toNat, .int .u8 a4.toNat, .int .u8 a5.toNat] 23)
  have X4 := (X3.out.next hb4).alloc (.cells #[.int .u8 a0.toNat, .int .u8 a1.toNat, .int .u8 a2.toNat, .int .u8 a3.toNat, .int .u8 a4.toNat, .int .u8 a5.toNat] 23)
  have Y4 := Arr.new w4 a0 a1 a2 a3 a4 a5
  have HB5 : Hid (Below W.heap.size W (w4.alloc (.cells #[.int .u8 a0.toNat, .int .u8 a1.toNat, .int .u8 a2.toNat, .int .u8 a3.toNat, .int .u8 a4.toNat, .int .u8 a5.toNat] 23))) := Lib.hid (HB4.out.alloc HB4.out.size _)
  clear hb4 HB3 A3 B3 X3 HB4
  go_wp2_with fail
  generalize w4.alloc (.cells #[.int .u8 a0.toNat, .int .u8 a1.toNat, .int .u8 a2.toNat, .int .u8 a3.toNat, .int .u8 a4.toNat, .int .u8 a5.toNat] 23) = w5 at *
  obtain ⟨c0, c1, c2, c3, c4, c5⟩ := A4.cells
  obtain ⟨d0, d1, d2, d3, d4, d5⟩ := B4.cells
  obtain ⟨x0, x1, x2, x3, x4, x5⟩ := X4.cells
  obtain ⟨y0, y1, y2, y3, y4, y5⟩ := Y4.cells
  have HBd : Hid (Below W.heap.size W w5.drew) := Lib.hid (Below.drew HB5.out)
  clear A4 B4 X4 Y4
  go_region_held3 (fun w_ => w_.cell? ⟨W.heap.size, 0, none⟩ = some (.int .u8 a0.toNat) ∧ w_.cell? ⟨W.heap.size, 1, none⟩ = some (.int .u8 a1.toNat) ∧ w_.cell? ⟨W.heap.size, 2, none⟩ = some (.int .u8 a2.toNat) ∧ w_.cell? ⟨W.heap.size, 3, none⟩ = some (.int .u8 a3.toNat) ∧ w_.cell? ⟨W.heap.size, 4, none⟩ = some (.int .u8 a4.toNat) ∧ w_.cell? ⟨W.heap.size, 5, none⟩ = some (.int .u8 a5.toNat) ∧ w_.cell? ⟨(W.heap.size + 1), 0, none⟩ = some (.int .u8 b0.toNat) ∧ w_.cell? ⟨(W.heap.size + 1), 1, none⟩ = some (.int .u8 b1.toNat) ∧ w_.cell? ⟨(W.heap.size + 1), 2, none⟩ = some (.int .u8 b2.toNat) ∧ w_.cell? ⟨(W.heap.size + 1), 3, none⟩ = some (.int .u8 b3.toNat) ∧ w_.cell? ⟨(W.heap.size + 1), 4, none⟩ = some (.int .u8 b4.toNat) ∧ w_.cell? ⟨(W.heap.size + 1), 5, none⟩ = some (.int .u8 b5.toNat) ∧ w_.cell? ⟨w2.heap.size, 0, none⟩ = some (.int .u8 a0.toNat) ∧ w_.cell? ⟨w2.heap.size, 1, none⟩ = some (.int .u8 a1.toNat) ∧ w_.cell? ⟨w2.heap.size, 2, none⟩ = some (.int .u8 a2.toNat) ∧ w_.cell? ⟨w2.heap.size, 3, none⟩ = some (.int .u8 a3.toNat) ∧ w_.cell? ⟨w2.heap.size, 4, none⟩ = some (.int .u8 a4.toNat) ∧ w_.cell? ⟨w2.heap.size, 5, none⟩ = some (.int .u8 a5.toNat) ∧ w_.cell? ⟨w4.heap.size, 0, none⟩ = some (.int .u8 a0.toNat) ∧ w_.cell? ⟨w4.heap.size, 1, none⟩ = some (.int .u8 a1.toNat) ∧ w_.cell? ⟨w4.heap.size, 2, none⟩ = some (.int .u8 a2.toNat) ∧ w_.cell? ⟨w4.heap.size, 3, none⟩ = some (.int .u8 a3.toNat) ∧ w_.cell? ⟨w4.heap.size, 4, none⟩ = some (.int .u8 a4.toNat) ∧ w_.cell? ⟨w4.heap.size, 5, none⟩ = some (.int .u8 a5.toNat) ∧ Hid (Below W.heap.size W w_)) (go_keep)
    (first
      | (go_at_call_of 13 a0; refine (number_any _ a0 a1 a2 a3 a4 a5).mono ?_; rw [HNA.out]; rintro r w_ ⟨rfl, hb_⟩; obtain ⟨k00, k01, k02, k03, k04, k05⟩ := keep6 (g := W.heap.size) (a := a0) (b := a1) (c := a2) (d := a3) (e := a4) (f := a5) (by assumption) (by assumption) (by assumption) (by assumption) (by assumption) (by assumption) hb_; obtain ⟨k10, k11, k12, k13, k14, k15⟩ := keep6 (g := (W.heap.size + 1)) (a := b0) (b := b1) (c := b2) (d := b3) (e := b4) (f := b5) (by assumption) (by assumption) (by assumption) (by assumption) (by assumption) (by assumption) hb_; obtain ⟨k20, k21, k22, k23, k24, k25⟩ := keep6 (g := w2.heap.size) (a := a0) (b := a1) (c := a2) (d := a3) (e := a4) (f := a5) (by assumption) (by assumption) (by assumption) (by assumption) (by assumption) (by assumption) hb_; obtain ⟨k30, k31, k32, k33, k34, k35⟩ := keep6 (g := w4.heap.size) (a := a0) (b := a1) (c := a2) (d := a3) (e := a4) (f := a5) (by assumption) (by assumption) (by assumption) (by assumption) (by assumption) (by assumption) hb_; have kB_ := keepB (by assumption) hb_; clear hb_)
      | (go_at_call_of 13 b0; refine (number_any _ b0 b1 b2 b3 b4 b5).mono ?_; rw [HNB.out]; rintro r w_ ⟨rfl, hb_⟩; obtain ⟨k00, k01, k02, k03, k04, k05⟩ := keep6 (g := W.heap.size) (a := a0) (b := a1) (c := a2) (d := a3) (e := a4) (f := a5) (by assumption) (by assumption) (by assumption) (by assumption) (by assumption) (by assumption) hb_; obtain ⟨k10, k11, k12, k13, k14, k15⟩ := keep6 (g := (W.heap.size + 1)) (a := b0) (b := b1) (c := b2) (d := b3) (e := b4) (f := b5) (by assumption) (by assumption) (by assumption) (by assumption) (by assumption) (by assumption) hb_; obtain ⟨k20, k21, k22, k23, k24, k25⟩ := keep6 (g := w2.heap.size) (a := a0) (b := a1) (c := a2) (d := a3) (e := a4) (f := a5) (by assumption) (by assumption) (by assumption) (by assumption) (by assumption) (by assumption) hb_; obtain ⟨k30, k31, k32, k33, k34, k35⟩ := keep6 (g := w4.heap.size) (a := a0) (b := a1) (c := a2) (d := a3) (e := a4) (f := a5) (by assumption) (by assumption) (by assumption) (by assumption) (by assumption) (by assumption) hb_; have kB_ := keepB (by assumption) hb_; clear hb_)
      | (go_at_call_of 15 a0; refine (text_mac _ a0 a1 a2 a3 a4 a5).mono ?_; rw [HTA.out]; rintro r w_ ⟨rfl, hb_⟩; obtain ⟨k00, k01, k02, k03, k04, k05⟩ := keep6 (g := W.heap.size) (a := a0) (b := a1) (c := a2) (d := a3) (e := a4) (f := a5) (by assumption) (by assumption) (by assumption) (by assumption) (by assumption) (by assumption) hb_; obtain ⟨k10, k11, k12, k13, k14, k15⟩ := keep6 (g := (W.heap.size + 1)) (a := b0) (b := b1) (c := b2) (d := b3) (e := b4) (f := b5) (by assumption) (by assumption) (by assumption) (by assumption) (by assumption) (by assumption) hb_; obtain ⟨k20, k21, k22, k23, k24, k25⟩ := keep6 (g := w2.heap.size) (a := a0) (b := a1) (c := a2) (d := a3) (e := a4) (f := a5) (by assumption) (by assumption) (by assumption) (by assumption) (by assumption) (by assumption) hb_; obtain ⟨k30, k31, k32, k33, k34, k35⟩ := keep6 (g := w4.heap.size) (a := a0) (b := a1) (c := a2) (d := a3) (e := a4) (f := a5) (by assumption) (by assumption) (by assumption) (by assumption) (by assumption) (by assumption) hb_; have kB_ := keepB (by assumption) hb_; clear hb_)
      | (go_at_call_of 15 b0; refine (text_mac _ b0 b1 b2 b3 b4 b5).mono ?_; rw [HTB.out]; rintro r w_ ⟨rfl, hb_⟩; obtain ⟨k00, k01, k02, k03, k04, k05⟩ := keep6 (g := W.heap.size) (a := a0) (b := a1) (c := a2) (d := a3) (e := a4) (f := a5) (by assumption) (by assumption) (by assumption) (by assumption) (by assumption) (by assumption) hb_; obtain ⟨k10, k11, k12, k13, k14, k15⟩ := keep6 (g := (W.heap.size + 1)) (a := b0) (b := b1) (c := b2) (d := b3) (e := b4) (f := b5) (by assumption) (by assumption) (by assumption) (by assumption) (by assumption) (by assumption) hb_; obtain ⟨k20, k21, k22, k23, k24, k25⟩ := keep6 (g := w2.heap.size) (a := a0) (b := a1) (c := a2) (d := a3) (e := a4) (f := a5) (by assumption) (by assumption) (by assumption) (by assumption) (by assumption) (by assumption) hb_; obtain ⟨k30, k31, k32, k33, k34, k35⟩ := keep6 (g := w4.heap.size) (a := a0) (b := a1) (c := a2) (d := a3) (e := a4) (f := a5) (by assumption) (by assumption) (by assumption) (by assumption) (by assumption) (by assumption) hb_; have kB_ := keepB (by assumption) hb_; clear hb_))
  have HB6 : Hid (Below W.heap.size W w_) := by assumption
  clear eA eAB hnn htt c0 c1 c2 c3 c4 c5 d0 d1 d2 d3 d4 d5 x0 x1 x2 x3 x4 x5 y0 y1 y2 y3 y4 y5 HBd
  obtain ⟨m0, m1, m2, m3, m4, m5, hm⟩ := list6 (dig_len 6 n)
  have HM := Lib.hid hm
  clear hm
  go_wp2_with fail
  by_cases hn : n < 281474976710656
  · have hnm : num [m0, m1, m2, m3, m4, m5] = n := by rw [← HM.out, num_dig]; omega
    have HNM := Lib.hid hnm
    clear hnm
    refine (macof_in _ n hn m0 m1 m2 m3 m4 m5 HM.out).mono ?_
    rintro r w7 ⟨rfl, hb7⟩
    have HB7 : Hid (Below W.heap.size W w7) := Lib.hid (HB6.out.trans (hb7.mono HB6.out.size))
    clear hb7 HB6
    have HNN := Lib.hid hn
    clear hn
    go_wp2_with fail
    refine (number_any _ m0 m1 m2 m3 m4 m5).mono ?_
    rw [HNM.out]
    rintro r w8 ⟨rfl, hb8⟩
    have HB8 : Hid (Below W.heap.size W w8) := Lib.hid ((HB7.out.alloc HB7.out.size _).trans (hb8.mono (by have := HB7.out.size; simp; omega)))
    clear hb8 HB7
    go_upto_region 10 with (fail)
    · exfalso
      rename_i h
      have e : (n : Int) / 281474976710656 = 0 := by have := HNN.out; omega
      rw [e] at h
      simp at h
    · skip
      cases hq : (pt s == s)
      · have hv : prsV s = .tuple #[MZ, .bool false] := by unfold prsV; rw [hq]; rfl
        have HV := Lib.hid hv
        clear hv hq
        go_wp2_with fail
        refine (parse_any _ s).mono ?_
        rw [HV.out]
        rintro r w9 ⟨rfl, hb9⟩
        have HB9 : Hid (Below W.heap.size W w9) := Lib.hid (HB8.out.trans (hb9.mono HB8.out.size))
        clear hb9
        go_wp2_with fail
        refine (wakes_any _).mono ?_
        rintro r wA ⟨rfl, hbA⟩
        have HBA : Hid (Below W.heap.size W wA) := Lib.hid ((HB9.out.alloc HB9.out.size _).trans (hbA.mono (by have := HB9.out.size; simp; omega)))
        clear hbA
        go_wp2
        go_ret
        exact ⟨rfl, HBA.out⟩
      · have hv : prsV s = .tuple #[MA (pm s 0) (pm s 1) (pm s 2) (pm s 3) (pm s 4) (pm s 5), .bool true] := by unfold prsV; rw [hq]; rfl
        have HV := Lib.hid hv
        have HQQ := Lib.hid hq
        clear hv hq
        have hpt : txt (pm s 0) (pm s 1) (pm s 2) (pm s 3) (pm s 4) (pm s 5) = pt s := rfl
        have HPT := Lib.hid hpt
        clear hpt
        go_wp2_with fail
        refine (parse_any _ s).mono ?_
        rw [HV.out]
        rintro r w9 ⟨rfl, hb9⟩
        have HB9 : Hid (Below W.heap.size W w9) := Lib.hid (HB8.out.trans (hb9.mono HB8.out.size))
        clear hb9
        go_wp2_with fail
        refine (text_mac _ (pm s 0) (pm s 1) (pm s 2) (pm s 3) (pm s 4) (pm s 5)).mono ?_
        rw [HPT.out]
        rintro r wA ⟨rfl, hbA⟩
        have HBA : Hid (Below W.heap.size W wA) := Lib.hid ((HB9.out.alloc HB9.out.size _).trans (hbA.mono (by have := HB9.out.size; simp; omega)))
        clear hbA
        have hqq := HQQ.out
        go_wp2_with fail
        refine (wakes_any _).mono ?_
        rintro r wC ⟨rfl, hbC⟩
        have HBC : Hid (Below W.heap.size W wC) := Lib.hid (HBA.out.trans (hbC.mono HBA.out.size))
        clear hbC
        go_wp2
        go_ret
        exact ⟨rfl, HBC.out⟩
  · refine (macof_out _ n H64.out (by omega)).mono ?_
    rintro r w7 ⟨rfl, hb7⟩
    have HB7 : Hid (Below W.heap.size W w7) := Lib.hid (HB6.out.trans (hb7.mono HB6.out.size))
    clear hb7 HB6
    have HNN := Lib.hid hn
    clear hn
    go_upto_region 10 with (fail)
    · exfalso
      rename_i h
      have e := eq_of_beq h
      have := HNN.out
      omega
    · skip
      cases hq : (pt s == s)
      · have hv : prsV s = .tuple #[MZ, .bool false] := by unfold prsV; rw [hq]; rfl
        have HV := Lib.hid hv
        clear hv hq
        go_wp2_with fail
        refine (parse_any _ s).mono ?_
        rw [HV.out]
        rintro r w9 ⟨rfl, hb9⟩
        have HB9 : Hid (Below W.heap.size W w9) := Lib.hid ((HB7.out.alloc HB7.out.size _).trans (hb9.mono (by have := HB7.out.size; simp; omega)))
        clear hb9
        go_wp2_with fail
        refine (wakes_any _).mono ?_
        rintro r wA ⟨rfl, hbA⟩
        have HBA : Hid (Below W.heap.size W wA) := Lib.hid ((HB9.out.alloc HB9.out.size _).trans (hbA.mono (by have := HB9.out.size; simp; omega)))
        clear hbA
        go_wp2
        go_ret
        exact ⟨rfl, HBA.out⟩
      · have hv : prsV s = .tuple #[MA (pm s 0) (pm s 1) (pm s 2) (pm s 3) (pm s 4) (pm s 5), .bool true] := by unfold prsV; rw [hq]; rfl
        have HV := Lib.hid hv
        have HQQ := Lib.hid hq
        clear hv hq
        have hpt : txt (pm s 0) (pm s 1) (pm s 2) (pm s 3) (pm s 4) (pm s 5) = pt s := rfl
        have HPT := Lib.hid hpt
        clear hpt
        go_wp2_with fail
        refine (parse_any _ s).mono ?_
        rw [HV.out]
        rintro r w9 ⟨rfl, hb9⟩
        have HB9 : Hid (Below W.heap.size W w9) := Lib.hid ((HB7.out.alloc HB7.out.size _).trans (hb9.mono (by have := HB7.out.size; simp; omega)))
        clear hb9
        go_wp2_with fail
        refine (text_mac _ (pm s 0) (pm s 1) (pm s 2) (pm s 3) (pm s 4) (pm s 5)).mono ?_
        rw [HPT.out]
        rintro r wA ⟨rfl, hbA⟩
        have HBA : Hid (Below W.heap.size W wA) := Lib.hid ((HB9.out.alloc HB9.out.size _).trans (hbA.mono (by have := HB9.out.size; simp; omega)))
        clear hbA
        have hqq := HQQ.out
        go_wp2_with fail
        refine (wakes_any _).mono ?_
        rintro r wC ⟨rfl, hbC⟩
        have HBC : Hid (Below W.heap.size W wC) := Lib.hid (HBA.out.trans (hbC.mono HBA.out.size))
        clear hbC
        go_wp2
        go_ret
        exact ⟨rfl, HBC.out⟩
set_option maxRecDepth 100000 in
set_option maxHeartbeats 4000000 in
theorem walk {H : Type} {enc : TypeId × Value → H} (W : World) (base : Nat) {v0 v1 v2 v3 : Value} {d0 d1 d2 d3 : DataW H} {p0 p1 p2 p3 : List MemPlace}
    (o0 : Value.okWide Try.prog W .any base 23 v0) (h0 : DataW.Trod enc Try.prog W 0 (fun _ => true) true 23 v0 d0 p0) (o1 : Value.okWide Try.prog W .any base 23 v1) (h1 : DataW.Trod enc Try.prog W 0 (fun _ => true) true 23 v1 d1 p1) (o2 : Value.okWide Try.prog W .any base 27 v2) (h2 : DataW.Trod enc Try.prog W 0 (fun _ => true) true 27 v2 d2 p2) (o3 : Value.okWide Try.prog W .any base 9 v3) (h3 : DataW.Trod enc Try.prog W 0 (fun _ => true) true 9 v3 d3 p3) :
    Calls Try.prog 6 #[v0, v1, v2, v3] W fun e w' => e = .returned (.bool true) ∧ Below W.heap.size W w' := by
  obtain ⟨a0, a1, a2, a3, a4, a5, rfl⟩ := open_mac o0 h0
  obtain ⟨b0, b1, b2, b3, b4, b5, rfl⟩ := open_mac o1 h1
  obtain ⟨n0, rfl, rfl, rfl, wn0⟩ := open_int Try.underlying27 o2 h2
  obtain ⟨sb, rfl, rfl, rfl, hs⟩ := open_string Try.underlying9 o3 h3
  simp [Lit.wf, IntKind.min, IntKind.max, IntKind.signed, IntKind.bits] at wn0
  obtain ⟨n, rfl⟩ := Int.eq_ofNat_of_zero_le wn0.1
  have hn64 : n < 18446744073709551616 := by omega
  clear o0 o1 o2 o3 h0 h1 h2 h3 wn0
  obtain ⟨s, rfl⟩ : ∃ l : List UInt8, sb = ⟨l.toArray⟩ := ⟨sb.data.toList, by simp⟩
  exact walkB W a0 a1 a2 a3 a4 a5 b0 b1 b2 b3 b4 b5 n hn64 s

theorem own : ownKnob Try.prog.godebug = none := by kernel_rfl
theorem laidOut : laidOutB Try.prog = true := by kernel_rfl
set_option maxRecDepth 100000 in
theorem lifted (os : Os) (started : os.Started) (H : Type) (enc : TypeId × Value → H) :
    ReturnsInHanded {} Try.checked os 6 .any (Rows.macBackSpec.pre6 enc Try.prog Try.f6 Rows.macBackRow.domain false) (Rows.macBackSpec.post enc Try.prog Try.f6 false true false false) := by
  refine returnsInHanded_of_change (C := Try.checked) own started (by kernel_rfl) Try.func6
    (ChangeSpec.witness6 (enc := enc) (C := Try.checked) false ⟨#[], #[.agg #[.int .u8 0, .int .u8 0, .int .u8 0, .int .u8 0, .int .u8 0, .int .u8 0], .agg #[.int .u8 0, .int .u8 0, .int .u8 0, .int .u8 0, .int .u8 0, .int .u8 0], .int .u64 0, .string ⟨#[]⟩], []⟩ 8 (by kernel_rfl) (by kernel_rfl) (by kernel_rfl) (by kernel_rfl)) ?_
  intro W base args ds gs before hval0 hW hcnd _
  have hval : ∀ (j : Nat) t v, Try.f6.params[j]? = some t → args[j]? = some v → Value.okWide Try.prog W .any base t v := hval0
  have hW' := hW
  obtain ⟨p, q, hA0, hV, rfl, hfz, hnd⟩ := hW
  have hA : DataW.TrodAll enc Try.prog W 0 (fun _ => true) true Try.f6.params.toList args.toList ds p := hA0
  rw [Try.params6] at hA hval
  obtain ⟨v0, vs0, d0, ds0, p0, q0, hargs, rfl, rfl, h0, r0⟩ := trodAll_cons hA
  obtain ⟨v1, vs1, d1, ds1, p1, q1, rfl, rfl, rfl, h1, r1⟩ := trodAll_cons r0
  obtain ⟨v2, vs2, d2, ds2, p2, q2, rfl, rfl, rfl, h2, r2⟩ := trodAll_cons r1
  obtain ⟨v3, vs3, d3, ds3, p3, q3, rfl, rfl, rfl, h3, r3⟩ := trodAll_cons r2
  obtain ⟨rfl, rfl, rfl⟩ := trodAll_nil r3
  obtain rfl : args = #[v0, v1, v2, v3] := by cases args; simp_all
  obtain ⟨rfl, rfl⟩ := trodVars_none hV
  have o0 := hval 0 23 v0 rfl rfl
  have lt0 : ∀ x ∈ p0, x.block < W.heap.size := by obtain ⟨m, hm⟩ := h0; exact DataW.trod_lt m _ _ _ hm
  have o1 := hval 1 23 v1 rfl rfl
  have lt1 : ∀ x ∈ p1, x.block < W.heap.size := by obtain ⟨m, hm⟩ := h1; exact DataW.trod_lt m _ _ _ hm
  have o2 := hval 2 27 v2 rfl rfl
  have lt2 : ∀ x ∈ p2, x.block < W.heap.size := by obtain ⟨m, hm⟩ := h2; exact DataW.trod_lt m _ _ _ hm
  have o3 := hval 3 9 v3 rfl rfl
  have lt3 : ∀ x ∈ p3, x.block < W.heap.size := by obtain ⟨m, hm⟩ := h3; exact DataW.trod_lt m _ _ _ hm
  clear hA0 hval0
  refine (walk W base o0 h0 o1 h1 o2 h2 o3 h3).mono fun e W' ⟨he, bel⟩ => ?_
  subst he
  exact ⟨_, rfl, _, _, _, [], _, [], hW', trodAll_mk1 (shut_bool Try.underlying4 _), (trodAll_cons_mk (Below.trod laidOut (by kernel_rfl) (of_decide_eq_true (by kernel_rfl)) h0 bel lt0) (trodAll_cons_mk (Below.trod laidOut (by kernel_rfl) (of_decide_eq_true (by kernel_rfl)) h1 bel lt1) (trodAll_cons_mk (Below.trod laidOut (by kernel_rfl) (of_decide_eq_true (by kernel_rfl)) h2 bel lt2) (trodAll_cons_mk (Below.trod laidOut (by kernel_rfl) (of_decide_eq_true (by kernel_rfl)) h3 bel lt3) trodAll_mk0)))), rfl, bel.frame _, fun h => by cases h⟩

theorem over : Rows.macBackRow.holds Try.pinned (OpenSpec.ofChange Rows.macBackSpec) :=
  OpenClaim.holds_of_wide 6 Try.f6 rfl rfl rfl rfl rfl rfl rfl ⟨rfl, rfl, rfl, rfl, rfl⟩ rfl rfl rfl rfl rfl (by kernel_rfl) Try.func6 (by kernel_rfl)
    (of_decide_eq_true (by kernel_rfl)) (by unfold Func.isWrapper; first | (rw [if_pos (by decide +kernel)]; kernel_rfl) | (rw [if_neg (by decide +kernel)]; exact ⟨rfl, rfl⟩))
    (fun os started H enc _ => lifted os started H enc)

/-- THE STATEMENT -/
theorem proved : Rows.MacBackSaid := over
end Go.Proofs.Ytabdhokcgedomaa.macBack
