/- slices.Concat over slices of bytes. -/
import Derived.Test.YtieopgmmjpmflaaStr
import Derived.Lib.AppendZeros
import Derived.IntWalk
namespace Go.Proofs.Ytieopgmmjpmflaa
open Go.RowKit
set_option linter.unusedVariables false
set_option linter.unusedSimpArgs false
set_option maxRecDepth 100000

set_option maxHeartbeats 1000000 in
theorem grow_some {w : World} (n : Nat) (h0 : 0 < n) (hn : n ≤ 70368744177664) :
    Calls Try.prog 39 #[.slice none 0 0, .int .i64 n] w fun e w' => ∃ v, e = .returned v ∧ OwnB w' w.heap.size v [] ∧ Below w.heap.size w w' := by
  obtain ⟨i, hi, hz0, hz1, hz2⟩ := info_parts u8_info
  have hrz : ∀ ty, (Builtin.append_ #[58, 3] ty #[.slice none 0 0, .int .i64 n]).run Try.prog w = _ := fun ty =>
    Lib.run_append_nil_zeros w _ _ ty 5 i _ .i64 .i64 Try.underlying58 Try.underlying3 hi hz0 n h0 (by omega) (by omega) (by rw [hz2]; omega)
  have hGn : n ≤ grownCap w n 0 5 := grownCap_ge w _ _ _
  have hGm : grownCap w n 0 5 ≤ maxLen := grownCap_le_maxLen w n 0 5 (by unfold maxLen; omega)
  obtain ⟨G, hG⟩ : ∃ G, G = grownCap w n 0 5 := ⟨_, rfl⟩
  rw [← hG] at hrz hGn hGm
  have hown : OwnB (w.drew.alloc (.cells (Builtin.zeroCells (Value.int .u8 0).cells n ++ Builtin.zeroCells (Value.int .u8 0).cells (G - n)) 5)) w.heap.size (.slice (some ⟨w.heap.size, 0, none⟩) 0 G) [] := by
    have hsz : (Builtin.zeroCells (Value.int .u8 0).cells n ++ Builtin.zeroCells (Value.int .u8 0).cells (G - n)).size = G * 1 := by
      simp [Builtin.zeroCells, Value.cells]
      omega
    exact World.ownsRow_made (base := w.heap.size) (e := 5) (size := 1) w.drew _ G (Nat.le_refl _) hGm hsz
  have HO := Lib.hid hown
  have h63 : G ≤ 9223372036854775807 := by unfold maxLen at hGm; omega
  have t1 : ((n : Int) < 0) = False := by simp
  clear hG hown
  go_enter Try.func39, Try.ntmps39
  go_wp2_with (at_builtin; refine Lib.wpList_append_run _ rfl _ _ _ _ rfl _ _ rfl rfl _ _ (hrz _) ?_)
  go_ret
  exact ⟨_, rfl, HO.out, (Below.refl _ _).drew.alloc (Nat.le_refl _) _⟩
set_option maxHeartbeats 1000000 in
theorem grow_none {w : World} :
    Calls Try.prog 39 #[.slice none 0 0, .int .i64 0] w fun e w' => ∃ v, e = .returned v ∧ OwnB w' w.heap.size v [] ∧ Below w.heap.size w w' := by
  go_enter Try.func39, Try.ntmps39
  go_wp2
  go_ret
  exact ⟨_, rfl, World.ownsRow_nil w w.heap.size 5 1, Below.refl _ _⟩
theorem grow_nil {w : World} (n : Nat) (hn : n ≤ 70368744177664) :
    Calls Try.prog 39 #[.slice none 0 0, .int .i64 n] w fun e w' => ∃ v, e = .returned v ∧ OwnB w' w.heap.size v [] ∧ Below w.heap.size w w' := by
  rcases Nat.eq_zero_or_pos n with rfl | h0
  · exact grow_none
  · exact grow_some n h0 hn

theorem flat_snoc (ls : List (List UInt8)) (k : Nat) (hk : k < ls.length) : (ls.take (k + 1)).flatten = (ls.take k).flatten ++ ls[k] := by
  rw [List.take_succ_eq_append_getElem hk]
  simp only [List.flatten_append, List.flatten_cons, List.flatten_nil, List.append_nil]
theorem flat_le (ls : List (List UInt8)) (k : Nat) : (ls.take k).flatten.length ≤ ls.flatten.length := by
  have h : ls.flatten = (ls.take k).flatten ++ (ls.drop k).flatten := by rw [← List.flatten_append, List.take_append_drop]
  rw [h, List.length_append]
  omega
set_option maxHeartbeats 2000000 in
theorem concat_any {w : World} (b c : Nat) (ls : List (List UInt8)) (hc : ∀ k (h : k < ls.length), ∃ v, w.cell? ⟨b, k, none⟩ = some v ∧ Str w v ls[k]) (hl : ls.flatten.length ≤ 70368744177664) (hn : ls.length ≤ 70368744177664) :
    Calls Try.prog 20 #[.slice (some ⟨b, 0, none⟩) ls.length c] w fun e w' => ∃ v, e = .returned v ∧ OwnB w' w.heap.size v ls.flatten ∧ Below w.heap.size w w' := by
  have HC := Lib.hid hc
  clear hc
  go_enter Try.func20, Try.ntmps20
  go_wp2
  go_loop [3, 11] (fun n i => ∃ k : Nat, k ≤ ls.length ∧ i = .int .i64 k ∧ n = .int .i64 ((ls.take k).flatten.length : Nat)) (fun _ i => ls.length - (intOf i).toNat)
  case atStart => exact ⟨0, Nat.zero_le _, rfl, rfl⟩
  case round =>
    obtain ⟨k, hk, rfl, rfl⟩ := hrel
    by_cases hlt : k < ls.length
    · obtain ⟨v, hcell, A, cc, rfl, hz, hy⟩ := HC.out k hlt
      have hs := flat_snoc ls k hlt
      have hle := flat_le ls (k + 1)
      have hls : (ls.take (k + 1)).flatten.length = (ls.take k).flatten.length + ls[k].length := by rw [hs, List.length_append]
      obtain ⟨m, hm⟩ : ∃ m, (ls.take k).flatten.length = m := ⟨_, rfl⟩
      obtain ⟨m', hm'⟩ : ∃ m, (ls.take (k + 1)).flatten.length = m := ⟨_, rfl⟩
      obtain ⟨q, hq⟩ : ∃ q, ls[k].length = q := ⟨_, rfl⟩
      rw [hq] at hcell
      rw [hm, hm', hq] at hls
      rw [hm'] at hle
      rw [hm]
      have HM' := Lib.hid hm'
      have HLS := Lib.hid hls
      have hb : m + q ≤ 70368744177664 := by omega
      have hneg : ((m : Int) + (q : Int) < 0) = False := by simp; omega
      clear hs hm hm' hq hy hz hls
      go_wp2
      go_round
      case rel => exact ⟨k + 1, by omega, by go_num, by rw [HM'.out, HLS.out]; go_num⟩
      case measure => simp [intOf]; omega
    · have hkk : k = ls.length := by omega
      subst hkk
      rw [List.take_of_length_le (Nat.le_refl _)]
      have hl' := hl
      obtain ⟨N, hN⟩ : ∃ N, ls.flatten.length = N := ⟨_, rfl⟩
      rw [hN] at hl' ⊢
      have HN := Lib.hid hN
      have HL := Lib.hid hl
      clear hN hl
      go_wp2_with fail
      refine (grow_nil N hl').mono ?_
      rintro e w1 ⟨v1, rfl, ho1, hb1⟩
      have HO1 := Lib.hid ho1
      have HB1 := Lib.hid hb1
      clear ho1 hb1
      go_wp2
      go_loopw [6, 27] (fun v i wr => ∃ k : Nat, k ≤ ls.length ∧ i = .int .i64 k ∧ OwnB wr w.heap.size v (ls.take k).flatten ∧ Below w.heap.size w wr) (fun _ i _ => ls.length - (intOf i).toNat)
      case atStart => exact ⟨0, Nat.zero_le _, rfl, by simpa using HO1.out, HB1.out⟩
      case round =>
        obtain ⟨k, hk, rfl, hown, hb⟩ := hrel
        have HO := Lib.hid hown
        have HB := Lib.hid hb
        clear hown hb
        by_cases hlt : k < ls.length
        · obtain ⟨v, hcell, A, cc, rfl, hz, hy⟩ := HC.out k hlt
          have hbl := World.block_lt_of_cell? w _ hcell
          have hcell' := (HB.out.cell (p := ⟨b, k, none⟩) hbl).trans hcell
          have HS := Lib.hid (flat_snoc ls k hlt)
          have hle := flat_le ls (k + 1)
          rw [HS.out, List.length_append, HN.out] at hle
          have HY := Lib.hid (hy.below HB.out)
          have HZ := Lib.hid hz
          clear hcell hy hz
          go_wp2_with (at_builtin; refine append_bytes rfl (.tmp 31) (.tmp 32) rfl w.heap.size _ _ rfl HO.out A ls[k].length cc ls[k] rfl rfl HZ.out HY.out (by omega) HB.out.size ?_)
          intro v2 w2 hown2 hg2
          have hb2 : Below w.heap.size w w2 := HB.out.grown hg2 HB.out.size (fun k hk => (HO.out.lt k hk).1)
          have HO2 := Lib.hid hown2
          have HB2 := Lib.hid hb2
          clear hown2 hg2 hb2
          go_wp2
          go_roundw
          case rel => exact ⟨k + 1, by omega, by go_num, by rw [HS.out]; exact HO2.out, HB2.out⟩
          case measure => simp [intOf]; omega
        · have hkk : k = ls.length := by omega
          subst hkk
          rw [List.take_of_length_le (Nat.le_refl _)] at HO
          go_wp2
          go_ret
          exact ⟨_, rfl, HO.out, HB.out⟩
end Go.Proofs.Ytieopgmmjpmflaa
