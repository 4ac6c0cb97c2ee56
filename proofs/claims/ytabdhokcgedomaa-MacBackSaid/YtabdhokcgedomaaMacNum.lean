/- package mac's Number and Of. -/
import Derived.Test.YtabdhokcgedomaaText
import Derived.Test.YtabdhokcgedomaaDig
import Derived.Lib.LazyBuf
import Derived.Deep.RegionLaw
namespace Go.Proofs.Ytabdhokcgedomaa
open Go.RowKit
set_option linter.unusedVariables false
set_option linter.unusedSimpArgs false

theorem Chg.belows {w w' : World} {b B : Nat} (h : Chg (only b) w w') (hB : B ≤ w.heap.size) (hb : B ≤ b) : Below B w w' := h.below hB (fun k hk hs => by unfold only at hs; omega)

theorem happ (a b c d e f : UInt8) : (⟨#[0, 0]⟩ : ByteArray) ++ ⟨#[a, b, c, d, e, f]⟩ = ⟨[0, 0, a, b, c, d, e, f].toArray⟩ := by
  apply ByteArray.ext
  simp
set_option maxHeartbeats 1000000 in
theorem number_any (w : World) (a b c d e f : UInt8) :
    Calls Try.prog 13 #[MA a b c d e f] w fun r w' => r = .returned (.int .u64 (num [a, b, c, d, e, f])) ∧ Below w.heap.size w w' := by
  have hcv : (convert 47 9 (.slice (some ⟨w.heap.size, 0, none⟩) 6 6)).run Try.prog (w.alloc (.cells #[.int .u8 a.toNat, .int .u8 b.toNat, .int .u8 c.toNat, .int .u8 d.toNat, .int .u8 e.toNat, .int .u8 f.toNat] 23)) = .ok (.string ⟨[a, b, c, d, e, f].toArray⟩) (w.alloc (.cells #[.int .u8 a.toNat, .int .u8 b.toNat, .int .u8 c.toNat, .int .u8 d.toNat, .int .u8 e.toNat, .int .u8 f.toNat] 23)) :=
    (Blk.str (l := [a, b, c, d, e, f]) (Arr.new w a b c d e f) 6).conv
  go_enter Try.func13, Try.ntmps13
  go_wp2_with fail
  rw [happ a b c d e f]
  refine (of_any [0, 0, a, b, c, d, e, f]).mono ?_
  rintro r w1 ⟨rfl, hr1, hb1⟩
  have HB1 : Below w.heap.size w w1 := ((Below.refl _ _).alloc (Nat.le_refl _) _).trans (hb1.mono (by simp))
  simp only [World.size_alloc] at hr1
  clear hb1 hcv
  go_wp2_with fail
  refine (u64_any hr1).mono ?_
  rw [show tkV 8 [0, 0, a, b, c, d, e, f] 0 = [0, 0, a, b, c, d, e, f] from rfl, show num [0, 0, a, b, c, d, e, f] = num [a, b, c, d, e, f] from by simp [num]]
  rintro r w2 ⟨rfl, hr2, hc2⟩
  have HB2 : Below w.heap.size w w2 := HB1.trans (hc2.belows HB1.size (by simp))
  clear hr1 hr2 hc2 HB1
  go_wp2
  go_ret
  exact ⟨rfl, HB2⟩

/-- copying six bytes of a text over an array -/
theorem step_copy_mac {ops : Array Oper} {o : Oper} {a : Act} {w : World} {K : Act → World → Prop} {Q : Exit → Act → World → Prop} {E : Prop}
    (hg : o.guard = none) (d x : Operand) (hop : o.op = Op.call { callee := Callee.builtin Builtin.copy, args := #[d, x], argTypes := #[47, 9] })
    (b : Nat) (hd : a.eval d = .slice (some ⟨b, 0, none⟩) 6 6) (x0 x1 x2 x3 x4 x5 : UInt8) (hx : a.eval x = .string ⟨#[x0, x1, x2, x3, x4, x5]⟩)
    (y0 y1 y2 y3 y4 y5 : UInt8) (ha : Arr w b y0 y1 y2 y3 y4 y5)
    (hK : ∀ w', Arr w' b x0 x1 x2 x3 x4 x5 → Chg (only b) w w' → K (a.put o.dst (goInt 6)) w') :
    if Region.wanted o (yielded ops a.tmps) = true then Oper.wp Try.prog o a w K Q else E := by
  refine step_copy_string hg d x 47 9 hop 5 Try.underlying47 Try.sizeOf5 b 0 6 6 hd ⟨#[x0, x1, x2, x3, x4, x5]⟩ hx (Nat.le_refl 6) ?_ ?_ ?_
  · intro j hj
    have hj6 : j < 6 := hj
    rw [Nat.zero_add, ha.at j hj6]
    rfl
  · intro j hj
    exact Blk.frozen ha _
  · have hh : ∀ {i : Nat}, w.heap.size ≤ (Addr.mk b i none).block ∨ only b (Addr.mk b i none).block := fun {i} => .inr (show b = b from rfl)
    exact hK _ (put6_arr ha x0 x1 x2 x3 x4 x5) ((((((Chg.refl (only b) w).setCell hh _).setCell hh _).setCell hh _).setCell hh _).setCell hh _ |>.setCell hh _)

theorem of_high (n : Nat) (hn : n < 18446744073709551616) : num (tkV 2 (dig 8 n) 0) = n / 281474976710656 := by
  have h : tkV 2 (dig 8 n) 0 = dig 2 (n / 256 ^ 6) := by
    unfold tkV
    rw [if_pos ⟨rfl, by rw [dig_len]; omega⟩, show dig 8 n = dig 2 (n / 256 ^ 6) ++ dig 6 n from dig_add 2 6 n, List.take_append_of_le_length (by rw [dig_len]; omega), List.take_of_length_le (by rw [dig_len]; omega)]
  rw [h, num_dig]
  omega
theorem of_low (n : Nat) : tkV (tkL 2 (dig 8 n) 0).length (tkL 2 (dig 8 n) 0) (tkE 2 (dig 8 n) 0) = dig 6 n := by
  have e : tkE 2 (dig 8 n) 0 = 0 := by unfold tkE; rw [if_neg (by rw [dig_len]; omega)]
  have h : tkL 2 (dig 8 n) 0 = dig 6 n := by
    unfold tkL
    rw [if_pos ⟨rfl, by rw [dig_len]; omega⟩, show dig 8 n = dig 2 (n / 256 ^ 6) ++ dig 6 n from dig_add 2 6 n, List.drop_append_of_le_length (by rw [dig_len]; omega)]
    rw [List.drop_of_length_le (by rw [dig_len]; omega)]
    rfl
  rw [e, h]
  unfold tkV
  rw [if_pos ⟨rfl, Nat.le_refl _⟩, List.take_of_length_le (Nat.le_refl _)]
set_option maxHeartbeats 1000000 in
theorem macof_in (w : World) (n : Nat) (hlt : n < 281474976710656) (a b c d e f : UInt8) (hd : dig 6 n = [a, b, c, d, e, f]) :
    Calls Try.prog 21 #[.int .u64 n] w fun r w' => r = .returned (.tuple #[MA a b c d e f, .bool true]) ∧ Below w.heap.size w w' := by
  have hn : n < 18446744073709551616 := by omega
  have hq := of_high n hn
  have hl := of_low n
  rw [hd] at hl
  have HQ := Lib.hid hq
  have HL := Lib.hid hl
  clear hq hl hd
  go_enter Try.func21, Try.ntmps21
  go_wp2_with fail
  refine (put64_any none 0 [] n (Byt.nil_ _ _) (fun _ => rfl) (by simp) (by omega) (by omega)).mono ?_
  rintro r w1 ⟨v1, rfl, ho1, hb1⟩
  rw [Int.toNat_natCast, List.nil_append] at ho1
  have hc1 := ho1.str.conv
  have A1 : Arr w1 w.heap.size 0 0 0 0 0 0 := (Arr.zero w).next hb1
  have B1 : Below w.heap.size w w1 := ((Below.refl _ _).alloc (Nat.le_refl _) _).trans (hb1.mono (by simp))
  have HA1 := Lib.hid A1
  have HB1 := Lib.hid B1
  clear ho1 hb1 A1 B1
  go_wp2_with fail
  refine (of_any (dig 8 n)).mono ?_
  rintro r w2 ⟨rfl, hr2, hb2⟩
  have HA2 := Lib.hid (HA1.out.next hb2)
  have HB2 := Lib.hid (HB1.out.trans (hb2.mono HB1.out.size))
  have hs2 : w.heap.size < w1.heap.size := HA1.out.lt
  clear hc1 hb2 HA1
  go_wp2_with fail
  refine (u16_any hr2).mono ?_
  rw [HQ.out]
  rintro r w3 ⟨rfl, hr3, hc3⟩
  have HA3 : Hid (Arr w3 w.heap.size 0 0 0 0 0 0) := Lib.hid (Blk.chg HA2.out hc3 (by unfold only; omega))
  have HB3 := Lib.hid (HB2.out.trans (hc3.belows HB2.out.size (by omega)))
  have HR3 := Lib.hid hr3
  have hs3 : w1.heap.size < w3.heap.size := hr3.lt
  clear hr2 hr3 hc3 HA2 HB2
  have h0 : n / 281474976710656 = 0 := by omega
  rw [h0]
  have HRR : Hid (Rdr (w3.alloc (.cells #[.int .u8 0, .int .u8 0, .int .u8 0, .int .u8 0, .int .u8 0, .int .u8 0] 23)).drew w1.heap.size (tkL 2 (dig 8 n) 0) (tkE 2 (dig 8 n) 0)) := Lib.hid (Blk.drew (Blk.alloc HR3.out _))
  have HMM : Hid (Arr (w3.alloc (.cells #[.int .u8 0, .int .u8 0, .int .u8 0, .int .u8 0, .int .u8 0, .int .u8 0] 23)).drew w3.heap.size 0 0 0 0 0 0) := Lib.hid (Arr.drew (Arr.zero w3))
  have HAA : Hid (Arr (w3.alloc (.cells #[.int .u8 0, .int .u8 0, .int .u8 0, .int .u8 0, .int .u8 0, .int .u8 0] 23)).drew w.heap.size 0 0 0 0 0 0) := Lib.hid (Arr.drew (HA3.out.alloc _))
  have HBB : Hid (Below w.heap.size w (w3.alloc (.cells #[.int .u8 0, .int .u8 0, .int .u8 0, .int .u8 0, .int .u8 0, .int .u8 0] 23)).drew) := Lib.hid (Below.drew (HB3.out.alloc HB3.out.size _))
  clear HR3 HA3 HB3 HB1 HQ
  go_wp2_with fail
  go_region_law (first
    | (refine step_copy_mac rfl (.tmp 14) (.tmp 16) rfl w3.heap.size (by simp [Act.eval, Act.put]) a b c d e f (by simp [Act.eval, Act.put]) 0 0 0 0 0 0 HM5.out ?_; intro w6 hm6 hc6; have HM6 := Lib.hid hm6; have HA6 : Hid (Arr w6 w.heap.size 0 0 0 0 0 0) := Lib.hid (Blk.chg HA5.out hc6 (by unfold only; omega)); have HB6 : Hid (Below w.heap.size w w6) := Lib.hid (HB5.out.trans (hc6.belows HB5.out.size (by omega))); clear hm6 hc6)
    | (go_simp; go_at_call 34; refine (rest_any HRR.out).mono ?_; rw [HL.out]; rintro r w5 ⟨rfl, hr5, hc5⟩; have HM5 : Hid (Arr w5 w3.heap.size 0 0 0 0 0 0) := Lib.hid (Blk.chg HMM.out hc5 (by unfold only; omega)); have HA5 : Hid (Arr w5 w.heap.size 0 0 0 0 0 0) := Lib.hid (Blk.chg HAA.out hc5 (by unfold only; omega)); have HB5 : Hid (Below w.heap.size w w5) := Lib.hid (HBB.out.trans (hc5.belows HBB.out.size (by omega))); clear hr5 hc5))
  all_goals (
    have ha := HA6.out
    have hm := HM6.out
    obtain ⟨f0, f1, f2, f3, f4, f5⟩ := ha.frozens
    obtain ⟨c0, c1, c2, c3, c4, c5⟩ := ha.cells
    obtain ⟨d0, d1, d2, d3, d4, d5⟩ := hm.cells
    clear ha hm
    go_wp2
    exact bodyPost_ret (v := .tuple #[MA a b c d e f, .bool true]) (by simp [results, Try.results21, go_sem, c0, c1, c2, c3, c4, c5]) rfl ⟨rfl, put6_below HB6.out (Nat.le_refl _) _ _ _ _ _ _⟩)
set_option maxHeartbeats 1000000 in
theorem macof_out (w : World) (n : Nat) (hn : n < 18446744073709551616) (hlt : 281474976710656 ≤ n) :
    Calls Try.prog 21 #[.int .u64 n] w fun r w' => r = .returned (.tuple #[MZ, .bool false]) ∧ Below w.heap.size w w' := by
  have hq := of_high n hn
  have HQ := Lib.hid hq
  clear hq
  go_enter Try.func21, Try.ntmps21
  go_wp2_with fail
  refine (put64_any none 0 [] n (Byt.nil_ _ _) (fun _ => rfl) (by simp) (by omega) (by omega)).mono ?_
  rintro r w1 ⟨v1, rfl, ho1, hb1⟩
  rw [Int.toNat_natCast, List.nil_append] at ho1
  have hc1 := ho1.str.conv
  have A1 : Arr w1 w.heap.size 0 0 0 0 0 0 := (Arr.zero w).next hb1
  have B1 : Below w.heap.size w w1 := ((Below.refl _ _).alloc (Nat.le_refl _) _).trans (hb1.mono (by simp))
  have HA1 := Lib.hid A1
  have HB1 := Lib.hid B1
  clear ho1 hb1 A1 B1
  go_wp2_with fail
  refine (of_any (dig 8 n)).mono ?_
  rintro r w2 ⟨rfl, hr2, hb2⟩
  have HA2 := Lib.hid (HA1.out.next hb2)
  have HB2 := Lib.hid (HB1.out.trans (hb2.mono HB1.out.size))
  have hs2 : w.heap.size < w1.heap.size := HA1.out.lt
  clear hc1 hb2 HA1
  go_wp2_with fail
  refine (u16_any hr2).mono ?_
  rw [HQ.out]
  rintro r w3 ⟨rfl, hr3, hc3⟩
  have HA3 : Hid (Arr w3 w.heap.size 0 0 0 0 0 0) := Lib.hid (Blk.chg HA2.out hc3 (by unfold only; omega))
  have HB3 := Lib.hid (HB2.out.trans (hc3.belows HB2.out.size (by omega)))
  have HR3 := Lib.hid hr3
  have hs3 : w1.heap.size < w3.heap.size := hr3.lt
  clear hr2 hr3 hc3 HA2 HB2
  have h0 : ((((n / 281474976710656 : Nat) : Int)) != 0) = true := by simp; omega
  have ha := HA3.out
  obtain ⟨f0, f1, f2, f3, f4, f5⟩ := ha.frozens
  obtain ⟨c0, c1, c2, c3, c4, c5⟩ := ha.cells
  clear ha
  go_wp2
  exact bodyPost_ret (v := .tuple #[MZ, .bool false]) (by simp [results, Try.results21, go_sem, c0, c1, c2, c3, c4, c5]) rfl ⟨rfl, put6_below HB3.out (Nat.le_refl _) _ _ _ _ _ _⟩
end Go.Proofs.Ytabdhokcgedomaa
