/- Layer 17: the document's Passes, Levels, Fate. -/
import Derived.Test.YtpoeamamdiomkaaLvSpec
import Derived.Test.YtpoeamamdiomkaaRow
import Derived.Test.YtpoeamamdiomkaaGro
import Derived.Test.YtpoeamamdiomkaaOpenS
import Derived.Deep.DeepCutAuto
import Derived.BigQuiet
namespace Go.Proofs.Ytpoeamamdiomkaa
open Go.RowKit
set_option linter.unusedVariables false
set_option linter.unusedSimpArgs false
set_option maxRecDepth 100000

theorem results_cell_one {P : Program} {fn : Func} {p : Tmp} {ty : TypeId} (h : fn.results = #[.cell p ty]) (tmps : Array Value) (w : World) (g : Nat) (t : TypeId) (cs : Array Value) (d : TypeDesc)
    (hp : tmps.getD p undef = .pointer (some ⟨g, 0, none⟩)) (hg : Blk w g t cs)
    (hu : P.underlying ty = some d) (hd : (match d with | .struct _ | .array _ _ => true | _ => false) = true) (hi : (P.info? ty).map (·.size) = some cs.size) :
    (results fn tmps).run P w = .ok (.agg cs) w := by
  have hp' : tmps[p]?.getD undef = .pointer (some ⟨g, 0, none⟩) := by simpa using hp
  simp [results, h, hp', asAddr, run_loadVar_row w g t ty cs (0, 0) d hg hu hd hi]

/-- a set's levels, as eight cells -/
abbrev L8 (s : UInt8) : Array Value := #[.bool (bt s 0), .bool (bt s 1), .bool (bt s 2), .bool (bt s 3), .bool (bt s 4), .bool (bt s 5), .bool (bt s 6), .bool (bt s 7)]
def arr8 (s : UInt8) (k : Nat) : Array Value := #[.bool (decide (0 < k) && bt s 0), .bool (decide (1 < k) && bt s 1), .bool (decide (2 < k) && bt s 2), .bool (decide (3 < k) && bt s 3), .bool (decide (4 < k) && bt s 4), .bool (decide (5 < k) && bt s 5), .bool (decide (6 < k) && bt s 6), .bool (decide (7 < k) && bt s 7)]
theorem arr8_zero (s : UInt8) : arr8 s 0 = #[.bool false, .bool false, .bool false, .bool false, .bool false, .bool false, .bool false, .bool false] := by simp [arr8]
theorem arr8_all (s : UInt8) : arr8 s 8 = L8 s := by simp [arr8]
theorem arr8_put (s : UInt8) (k : Nat) (h : k < 8) : (arr8 s k).setIfInBounds k (.bool (bt s k)) = arr8 s (k + 1) := by
  match k, h with
  | 0, _ => simp [arr8]
  | 1, _ => simp [arr8]
  | 2, _ => simp [arr8]
  | 3, _ => simp [arr8]
  | 4, _ => simp [arr8]
  | 5, _ => simp [arr8]
  | 6, _ => simp [arr8]
  | 7, _ => simp [arr8]
theorem arr8_at (s : UInt8) (k : Nat) (h : k < 8) : (arr8 s k)[k]? = some (.bool false) := by
  match k, h with
  | 0, _ => simp [arr8]
  | 1, _ => simp [arr8]
  | 2, _ => simp [arr8]
  | 3, _ => simp [arr8]
  | 4, _ => simp [arr8]
  | 5, _ => simp [arr8]
  | 6, _ => simp [arr8]
  | 7, _ => simp [arr8]
theorem l8_at (s : UInt8) (k : Nat) (h : k < 8) : (L8 s)[k]? = some (.bool (bt s k)) := by
  match k, h with
  | 0, _ => rfl
  | 1, _ => rfl
  | 2, _ => rfl
  | 3, _ => rfl
  | 4, _ => rfl
  | 5, _ => rfl
  | 6, _ => rfl
  | 7, _ => rfl
def pas (l v : Nat) (f : Bool) : Nat := if v > l then 2 else if v = l ∧ f = true then 1 else 0
theorem passes_any (l v : Nat) (f : Bool) (w : World) :
    Calls Try.prog 13 #[.int .i64 (l : Int), .int .i64 (v : Int), .bool f] w fun e w' => e = .returned (.int .i64 (pas l v f : Nat)) ∧ w = w' := by
  by_cases h1 : l < v
  · have p1 : (l : Int) < (v : Int) := by omega
    have e : pas l v f = 2 := by unfold pas; rw [if_pos h1]
    rw [e]
    clear h1 e
    go_enter Try.func13, Try.ntmps13
    go_wp2
    go_ret
    exact ⟨rfl, rfl⟩
  · have p1 : ¬ (l : Int) < (v : Int) := by omega
    by_cases h2 : v = l
    · subst h2
      cases f
      · have e : pas v v false = 0 := by unfold pas; simp
        rw [e]
        clear h1 e
        go_enter Try.func13, Try.ntmps13
        go_wp2
        go_ret
        exact ⟨rfl, rfl⟩
      · have e : pas v v true = 1 := by unfold pas; simp
        rw [e]
        clear h1 e
        go_enter Try.func13, Try.ntmps13
        go_wp2
        go_ret
        exact ⟨rfl, rfl⟩
    · have p2 : ((v : Int) == (l : Int)) = false := by rw [beq_eq_false_iff_ne]; omega
      have e : pas l v f = 0 := by unfold pas; rw [if_neg h1, if_neg (fun h => h2 h.1)]
      rw [e]
      clear h1 h2 e
      go_enter Try.func13, Try.ntmps13
      go_wp2
      go_ret
      exact ⟨rfl, rfl⟩
theorem half8 (s : UInt8) (k : Nat) : ((s.toNat / 2 ^ k / 2 : Nat) : Int) = ((s.toNat / 2 ^ (k + 1) : Nat) : Int) := by rw [Nat.div_div_eq_div_mul, ← Nat.pow_succ]
set_option maxHeartbeats 2000000 in
theorem levels_any (s : UInt8) (w : World) :
    Calls Try.prog 5 #[.int .u8 s.toNat] w fun e w' => e = .returned (.agg (L8 s)) ∧ Below w.heap.size w w' := by
  obtain ⟨w0, hw0⟩ : ∃ w0, ((w.alloc (.cells #[.bool false, .bool false, .bool false, .bool false, .bool false, .bool false, .bool false, .bool false] 24)).alloc (.cells #[.bool false, .bool false, .bool false, .bool false, .bool false, .bool false, .bool false, .bool false] 24)) = w0 := ⟨_, rfl⟩
  have HB0 : Hid (Below w.heap.size w w0) := Lib.hid (by rw [← hw0]; exact ((Below.refl _ _).alloc (Nat.le_refl _) _).alloc (by simp) _)
  have HR0 : Hid (Blk w0 w.heap.size 24 (arr8 s 0)) := Lib.hid (by rw [← hw0, arr8_zero]; exact (Blk.new _ _ _).alloc _)
  have HC0 : Hid (Blk w0 (w.heap.size + 1) 24 (arr8 s 0)) := Lib.hid (by
    have := Blk.new (w.alloc (.cells #[.bool false, .bool false, .bool false, .bool false, .bool false, .bool false, .bool false, .bool false] 24)) 24 #[.bool false, .bool false, .bool false, .bool false, .bool false, .bool false, .bool false, .bool false]
    rw [← hw0, arr8_zero]
    simpa using this)
  go_enter Try.func5, Try.ntmps5
  go_wp2
  try rw [hw0]
  clear hw0
  go_loopw [0, 4] (fun v i wr => ∃ k : Nat, k ≤ 8 ∧ v = .int .u8 ((s.toNat / 2 ^ k : Nat) : Int) ∧ i = .int .i64 k ∧ Hid (Blk wr w.heap.size 24 (arr8 s 0)) ∧ Hid (Blk wr (w.heap.size + 1) 24 (arr8 s k)) ∧ Hid (Below w.heap.size w wr)) (fun _ i _ => 8 - (intOf i).toNat)
  case atStart => exact ⟨0, Nat.zero_le _, by simp, rfl, HR0, HC0, HB0⟩
  case round =>
    obtain ⟨k, hk, rfl, rfl, HR, HC, HB⟩ := hrel
    by_cases hlt : k < 8
    · have hki : (k : Int) < 8 := by omega
      obtain ⟨x, hx⟩ : ∃ x, s.toNat / 2 ^ k = x := ⟨_, rfl⟩
      obtain ⟨y, hy⟩ : ∃ x, s.toNat / 2 ^ (k + 1) = x := ⟨_, rfl⟩
      have hxl : x < 256 := by rw [← hx]; exact Nat.lt_of_le_of_lt (Nat.div_le_self _ _) s.toNat_lt
      have hxy : x / 2 = y := by rw [← hx, ← hy, Nat.div_div_eq_div_mul, ← Nat.pow_succ]
      have hb : bt s k = (x % 2 == 1) := by unfold bt; rw [hx]
      obtain ⟨q, hq⟩ : ∃ q, bt s k = q := ⟨_, rfl⟩
      have c1 := (HC.out.cell k).trans (arr8_at s k hlt)
      have f1 := HC.out.frozen k
      have HC2 := HC.out.put k (.bool (bt s k))
      rw [arr8_put s k hlt, hq] at HC2
      have HCn := Lib.hid HC2
      have HY := Lib.hid hy
      rw [hx]
      have r1 : ((x : Int) % 2 == 1) = q := by
        rw [← hq, hb, Bool.eq_iff_iff]
        simp only [beq_iff_eq]
        omega
      have r2 : (x : Int) / 2 % 256 = (y : Int) := by omega
      have HRR := Lib.hid (And.intro r1 r2)
      clear hx hy hxl hxy hb hq HC2 r1 r2
      go_wp2_with fail
      go_roundw
      case rel =>
        rw [HRR.out.1, HRR.out.2]
        exact ⟨k + 1, by omega, by rw [HY.out], by go_num, Lib.hid (HR.out.far (p := ⟨w.heap.size + 1, k, none⟩) (by show w.heap.size ≠ w.heap.size + 1; omega) _), HCn, Lib.hid (HB.out.setCell (p := ⟨w.heap.size + 1, k, none⟩) (by show w.heap.size ≤ w.heap.size + 1; omega) _)⟩
      case measure => simp [intOf]; omega
    · obtain rfl : k = 8 := by omega
      rw [arr8_all] at HC
      rw [arr8_zero] at HR
      have c0 := HC.out.cell 0
      have c1 := HC.out.cell 1
      have c2 := HC.out.cell 2
      have c3 := HC.out.cell 3
      have c4 := HC.out.cell 4
      have c5 := HC.out.cell 5
      have c6 := HC.out.cell 6
      have c7 := HC.out.cell 7
      simp only [List.getElem?_toArray, List.getElem?_cons_succ, List.getElem?_cons_zero] at c0 c1 c2 c3 c4 c5 c6 c7
      go_wp2_with (refine wpList_store_row rfl 24 (.tmp 2) (.tmp 16) rfl w.heap.size rfl _ rfl 24 _ HR.out (by kernel_rfl) rfl (by kernel_rfl) ?_)
      refine bodyPost_ret (v := .agg (L8 s)) (results_cell_one (p := 2) (by kernel_rfl) _ _ w.heap.size 24 _ _ rfl (Blk.row HR.out _) Try.underlying24 rfl (by kernel_rfl)) rfl ?_
      exact ⟨rfl, below_row HB.out (Nat.le_refl _) _⟩
theorem fa_take {f o : UInt8} {m : Int} {l : Nat} (h : l < 8) (hb : bt f l = true) : fa f o m l = 2 := by unfold fa; rw [if_neg (by omega), if_pos hb]
theorem fa_drop {f o : UInt8} {m : Int} {l : Nat} (h : l < 8) (hb : bt f l = false) (hh : hi f l = true) : fa f o m l = 0 := by unfold fa; rw [if_neg (by omega), hb, hh]; simp
theorem fa_other {f o : UInt8} {m : Int} {l : Nat} (h : l < 8) (hb : bt f l = false) (hf : hi f l = false) (ho : hi o l = true) : fa f o m l = 0 := by unfold fa; rw [if_neg (by omega), hb, hf, ho]; simp
set_option maxHeartbeats 4000000 in
theorem reffate_any (f o : UInt8) (m : Int) (l : Nat) (w : World) :
    Calls Try.prog 7 #[.agg (L8 f), .agg (L8 o), .int .i64 m, .int .i64 (l : Int)] w fun e w' => e = .returned (.int .i64 (fa f o m l : Nat)) ∧ Below w.heap.size w w' := by
  obtain ⟨w0, hw0⟩ : ∃ w0, ((w.alloc (.cells (L8 f) 24)).alloc (.cells (L8 o) 24)) = w0 := ⟨_, rfl⟩
  have HB0 : Hid (Below w.heap.size w w0) := Lib.hid (by rw [← hw0]; exact ((Below.refl _ _).alloc (Nat.le_refl _) _).alloc (by simp) _)
  have HF0 : Hid (Blk w0 w.heap.size 24 (L8 f)) := Lib.hid (by rw [← hw0]; exact (Blk.new _ _ _).alloc _)
  have HO0 : Hid (Blk w0 (w.heap.size + 1) 24 (L8 o)) := Lib.hid (by
    have := Blk.new (w.alloc (.cells (L8 f) 24)) 24 (L8 o)
    rw [← hw0]
    simpa using this)
  by_cases hl : 7 < l
  · have p7 : (7 : Int) < (l : Int) := by omega
    rw [fa_far hl]
    clear hl
    go_enter Try.func7, Try.ntmps7
    go_wp2
    go_ret
    try rw [hw0]
    exact ⟨rfl, HB0.out⟩
  · have p7 : ¬ (7 : Int) < (l : Int) := by omega
    have hl8 : l < 8 := by omega
    have HL8 := Lib.hid hl8
    clear hl hl8
    go_enter Try.func7, Try.ntmps7
    go_wp2
    try rw [hw0]
    clear hw0
    go_loopw [9] (fun i wr => ∃ k : Nat, k ≤ 8 ∧ i = .int .i64 k ∧ Hid (∀ j, j < k → bt f j = true → j < l) ∧ wr = w0) (fun i _ => 8 - (intOf i).toNat)
    case atStart => exact ⟨0, Nat.zero_le _, rfl, Lib.hid (fun j hj => absurd hj (by omega)), rfl⟩
    case round =>
      obtain ⟨k, hk, rfl, HI, rfl⟩ := hrel
      by_cases hlt : k < 8
      · have hki : (k : Int) < 8 := by omega
        have c1 := (HF0.out.cell k).trans (l8_at f k hlt)
        have HLT := Lib.hid hlt
        by_cases hb : bt f k = true
        · rw [hb] at c1
          have HBK := Lib.hid hb
          clear hb hlt
          go_wp2_with fail
          refine (passes_any k l true _).mono ?_
          rintro e w' ⟨rfl, rfl⟩
          by_cases h1 : k < l
          · have e : pas k l true = 2 := by unfold pas; rw [if_pos h1]
            rw [e]
            have HI2 : Hid (∀ j, j < k + 1 → bt f j = true → j < l) := Lib.hid (fun j hj hb => by
              by_cases h : j < k
              · exact HI.out j h hb
              · omega)
            clear e h1
            go_wp2
            go_roundw
            case rel => exact ⟨k + 1, by have := HLT.out; omega, by go_num, HI2, by first | exact rfl | trivial⟩
            case measure => have := HLT.out; simp [intOf]; omega
          · by_cases h2 : l = k
            · have e : pas k l true = 1 := by unfold pas; rw [if_neg h1, if_pos ⟨h2, rfl⟩]
              rw [e]
              have HR : Hid (fa f o m l = 2) := Lib.hid (fa_take HL8.out (by rw [h2]; exact HBK.out))
              clear e h1 h2
              go_wp2
              go_ret
              exact ⟨by rw [HR.out]; rfl, HB0.out⟩
            · have e : pas k l true = 0 := by unfold pas; rw [if_neg h1, if_neg (fun h => h2 h.1)]
              rw [e]
              have HR : Hid (fa f o m l = 0) := Lib.hid (fa_drop HL8.out (by
                rw [← Bool.not_eq_true]
                intro hh
                have := HI.out l (by omega) hh
                omega) (bt_hi f l k HLT.out (by omega) HBK.out))
              clear e h1 h2
              go_wp2
              go_ret
              exact ⟨by rw [HR.out]; rfl, HB0.out⟩
        · have hb' : bt f k = false := by simpa using hb
          rw [hb'] at c1
          have HI2 : Hid (∀ j, j < k + 1 → bt f j = true → j < l) := Lib.hid (fun j hj hh => by
            by_cases h : j < k
            · exact HI.out j h hh
            · obtain rfl : j = k := by omega
              exact absurd hh hb)
          clear hb hb' hlt
          go_wp2
          go_roundw
          case rel => exact ⟨k + 1, by have := HLT.out; omega, by go_num, HI2, by first | exact rfl | trivial⟩
          case measure => have := HLT.out; simp [intOf]; omega
      · have hk8 : k = 8 := by omega
        have hge : ¬ (k : Int) < 8 := by omega
        rw [hk8] at HI
        have HHF : Hid (hi f l = false) := Lib.hid (hi_no f l HL8.out (fun j hj hh => HI.out j hj hh))
        have HBF : Hid (bt f l = false) := Lib.hid (by
          rw [← Bool.not_eq_true]
          intro hh
          have := HI.out l HL8.out hh
          omega)
        clear HI hk hlt hk8
        go_wp2
        clear hge
        go_loopw [11] (fun i wx => ∃ k : Nat, k ≤ 8 ∧ i = .int .i64 k ∧ Hid (∀ j, j < k → bt o j = true → j < l) ∧ wx = wr) (fun i _ => 8 - (intOf i).toNat)
        case atStart => exact ⟨0, Nat.zero_le _, rfl, Lib.hid (fun j hj => absurd hj (by omega)), rfl⟩
        case round =>
          obtain ⟨k, hk, rfl, HI, rfl⟩ := hrel
          by_cases hlt : k < 8
          · have hki : (k : Int) < 8 := by omega
            have c1 := (HO0.out.cell k).trans (l8_at o k hlt)
            have HLT := Lib.hid hlt
            by_cases hb : bt o k = true
            · rw [hb] at c1
              have HBK := Lib.hid hb
              clear hb hlt
              go_wp2_with fail
              refine (passes_any k l false _).mono ?_
              rintro e w' ⟨rfl, rfl⟩
              by_cases h1 : k < l
              · have e : pas k l false = 2 := by unfold pas; rw [if_pos h1]
                rw [e]
                have HI2 : Hid (∀ j, j < k + 1 → bt o j = true → j < l) := Lib.hid (fun j hj hb => by
                  by_cases h : j < k
                  · exact HI.out j h hb
                  · omega)
                clear e h1
                go_wp2
                go_roundw
                case rel => exact ⟨k + 1, by have := HLT.out; omega, by go_num, HI2, by first | exact rfl | trivial⟩
                case measure => have := HLT.out; simp [intOf]; omega
              · have e : pas k l false = 0 := by unfold pas; rw [if_neg h1, if_neg (fun h => by cases h.2)]
                rw [e]
                have HR : Hid (fa f o m l = 0) := Lib.hid (fa_other HL8.out HBF.out HHF.out (bt_hi o l k HLT.out (by omega) HBK.out))
                clear e h1
                go_wp2
                go_ret
                exact ⟨by rw [HR.out]; rfl, HB0.out⟩
            · have hb' : bt o k = false := by simpa using hb
              rw [hb'] at c1
              have HI2 : Hid (∀ j, j < k + 1 → bt o j = true → j < l) := Lib.hid (fun j hj hh => by
                by_cases h : j < k
                · exact HI.out j h hh
                · obtain rfl : j = k := by omega
                  exact absurd hh hb)
              clear hb hb' hlt
              go_wp2
              go_roundw
              case rel => exact ⟨k + 1, by have := HLT.out; omega, by go_num, HI2, by first | exact rfl | trivial⟩
              case measure => have := HLT.out; simp [intOf]; omega
          · obtain rfl : k = 8 := by omega
            have HHO : Hid (hi o l = false) := Lib.hid (hi_no o l HL8.out (fun j hj hh => HI.out j hj hh))
            have HFF : Hid (fa f o m l = if m = (l : Int) then 3 else 1) := Lib.hid (fa_free HL8.out HHF.out HHO.out)
            by_cases hm : m = (l : Int)
            · have q : (m == (l : Int)) = true := by simpa using hm
              have HR : Hid (fa f o m l = 3) := Lib.hid (by rw [HFF.out, if_pos hm])
              clear hm
              go_wp2
              go_ret
              exact ⟨by rw [HR.out]; rfl, HB0.out⟩
            · have q : (m == (l : Int)) = false := by simpa using hm
              have HR : Hid (fa f o m l = 1) := Lib.hid (by rw [HFF.out, if_neg hm])
              clear hm
              go_wp2
              go_ret
              exact ⟨by rw [HR.out]; rfl, HB0.out⟩
end Go.Proofs.Ytpoeamamdiomkaa
