/- Layer 16, the program: slices.Index, Contains at numbers; Clone at numbers and end points; Delete at end points. -/
import Derived.Test.YtfdiolfelecccaaZzPc16
import Derived.Test.YtfdiolfelecccaaZz
namespace Go.Proofs.Ytfdiolfelecccaa
open Go.RowKit
open Go.Sort (grow)
set_option linter.unusedVariables false
set_option linter.unusedSimpArgs false
set_option maxRecDepth 100000

theorem has_idx (l : List UInt16) (x : UInt16) : decide (0 ≤ (match l.findIdx? (fun y => y == x) with | some k => (k : Int) | none => -1)) = l.contains x := by
  cases h : l.findIdx? (fun y => y == x) with
  | none =>
    rw [List.findIdx?_eq_none_iff] at h
    simp only
    rw [Bool.eq_iff_iff, List.contains_iff_mem]
    simp only [decide_eq_true_eq]
    constructor
    · intro h'; omega
    · intro hm
      have := h x hm
      simp at this
  | some k =>
    rw [List.findIdx?_eq_some_iff_getElem] at h
    obtain ⟨hk, h1, _⟩ := h
    simp only
    rw [Bool.eq_iff_iff, List.contains_iff_mem]
    simp only [decide_eq_true_eq]
    exact ⟨fun _ => by rw [beq_iff_eq] at h1; exact h1 ▸ List.getElem_mem hk, fun _ => by omega⟩
set_option maxHeartbeats 2000000 in
theorem idxU_any (w : World) (l : List UInt16) (x : UInt16) (A : Option Addr) (c : Nat) (hl : l.length ≤ 1000) (hE : Els 1 u16c w A l) :
    Calls Try.prog 60 #[.slice A l.length c, .int .u16 x.toNat] w fun e w' => e = .returned (.int .i64 (match l.findIdx? (fun y => y == x) with | some k => (k : Int) | none => -1)) ∧ w' = w := by
  have HE := Lib.hid hE
  obtain ⟨n, hn⟩ : ∃ n, l.length = n := ⟨_, rfl⟩
  have HN := Lib.hid hn
  rw [hn] at hl
  rw [hn]
  clear hn hE
  obtain ⟨r, hr⟩ : ∃ r, (match l.findIdx? (fun y => y == x) with | some k => (k : Int) | none => -1) = r := ⟨_, rfl⟩
  rw [hr]
  have HR := Lib.hid hr
  clear hr
  go_enter Try.func60, Try.ntmps60
  go_wp2
  go_loopw [5, 8] (fun _ i wr => ∃ k : Nat, k ≤ n ∧ i = .int .i64 k ∧ Hid (∀ j (h : j < l.length), j < k → (l[j] == x) = false) ∧ wr = w) (fun _ i _ => n - (intOf i).toNat)
  case atStart => exact ⟨0, Nat.zero_le _, rfl, Lib.hid (fun j h hj => absurd hj (Nat.not_lt_zero _)), by first | exact rfl | trivial⟩
  case round =>
    obtain ⟨k, hk, rfl, HF, rfl⟩ := hrel
    by_cases hlt : k < n
    · have hkd : k < l.length := by rw [HN.out]; exact hlt
      have hltz : (k : Int) < (n : Int) := by omega
      obtain ⟨y, hy⟩ : ∃ y, l[k] = y := ⟨_, rfl⟩
      have hy' : l[k]? = some y := by rw [List.getElem?_eq_getElem hkd, hy]
      obtain ⟨b, off, rfl, _, e0⟩ := u16c_at HE.out hy'
      have HY := Lib.hid hy
      clear hy hy'
      obtain ⟨q, hq⟩ : ∃ q, (y == x) = q := ⟨_, rfl⟩
      have hqe : ((x.toNat : Int) == (y.toNat : Int)) = q := by rw [u16_eqP, Bool.beq_comm, hq]
      have HQ := Lib.hid hq
      clear hq
      cases q with
      | true =>
        have HV : Hid (r = (k : Int)) := Lib.hid (by
          rw [← HR.out]
          have : l.findIdx? (fun y => y == x) = some k := by
            rw [List.findIdx?_eq_some_iff_getElem]
            exact ⟨hkd, by rw [HY.out]; exact HQ.out, fun j hj => by simpa using HF.out j (by omega) hj⟩
          rw [this])
        go_wp2
        go_ret
        exact ⟨by rw [HV.out]; rfl, by first | exact rfl | trivial⟩
      | false =>
        go_wp2
        go_roundw
        case rel =>
          exact ⟨k + 1, by omega, by go_num, Lib.hid (fun j h hj => by
            rcases Nat.lt_or_ge j k with h1 | h1
            · exact HF.out j h h1
            · obtain rfl : j = k := by omega
              rw [HY.out]; exact HQ.out), by first | exact rfl | trivial⟩
        case measure => simp [intOf]; omega
    · obtain rfl : k = n := by omega
      have HV : Hid (r = -1) := Lib.hid (by
        rw [← HR.out]
        have : l.findIdx? (fun y => y == x) = none := by
          rw [List.findIdx?_eq_none_iff]
          intro z hz
          obtain ⟨j, hj, rfl⟩ := List.mem_iff_getElem.1 hz
          simpa using HF.out j hj (by rw [← HN.out]; exact hj)
        rw [this])
      clear hk hlt
      go_wp2
      go_ret
      exact ⟨by rw [HV.out]; rfl, by first | exact rfl | trivial⟩
set_option maxHeartbeats 1000000 in
theorem contU_any (w : World) (l : List UInt16) (x : UInt16) (A : Option Addr) (c : Nat) (hl : l.length ≤ 1000) (hE : Els 1 u16c w A l) :
    Calls Try.prog 53 #[.slice A l.length c, .int .u16 x.toNat] w fun e w' => e = .returned (.bool (l.contains x)) ∧ w' = w := by
  have K := Lib.hid (idxU_any w l x A c hl hE)
  have HA := Lib.hid (has_idx l x)
  obtain ⟨n, hn⟩ : ∃ n, l.length = n := ⟨_, rfl⟩
  obtain ⟨i, hi⟩ : ∃ r, (match l.findIdx? (fun y => y == x) with | some k => (k : Int) | none => -1) = r := ⟨_, rfl⟩
  obtain ⟨q, hq⟩ : ∃ q, l.contains x = q := ⟨_, rfl⟩
  rw [hn, hi] at K
  rw [hi, hq] at HA
  rw [hn, hq]
  clear hn hi hq hl hE
  go_enter Try.func53, Try.ntmps53
  go_wp2_with fail
  refine K.out.mono ?_
  rintro e w1 ⟨rfl, rfl⟩
  clear K
  go_wp2
  go_ret
  refine ⟨ret_ (congrArg Value.bool ?_), by first | exact rfl | trivial⟩
  first | exact HA.out | (rw [← HA.out]; simp)
theorem cloU_info : (Try.prog.info? 23).map (fun i => (i.zero, i.size, i.bytes)) = some (some ((.int .u16 0)), 1, 2) := by kernel_rfl
theorem cloU_one (x : UInt16) : ∀ u ∈ u16c x, u.oneCell' = true := by
  intro u hu
  simp only [u16c, List.mem_cons, List.not_mem_nil, or_false] at hu
  rw [hu]; rfl
set_option maxHeartbeats 2000000 in
theorem cloU_any (w : World) (l : List UInt16) (A : Option Addr) (c : Nat) (hl : l.length ≤ 1000) (hz : A = none → c = 0) (hE : Els 1 u16c w A l) :
    Calls Try.prog 33 #[.slice A l.length c] w fun e w' => ∃ A' c', e = .returned (.slice A' l.length c') ∧ w'.ownsRow w.heap.size 23 1 (.slice A' l.length c') l.length (l.flatMap u16c) ∧ Below w.heap.size w w' := by
  cases A with
  | none =>
    obtain rfl := hz rfl
    have hl0 : l = [] := by
      cases l with
      | nil => rfl
      | cons x r =>
        obtain ⟨b, off, e, _⟩ := hE (by simp)
        cases e
    subst hl0
    have q := fun (w : World) => Lib.run_eql_slice_nil (P := Try.prog) w 35 23 none 0 0 0 0 Try.underlying35
    go_enter Try.func33, Try.ntmps33
    go_wp2
    go_ret
    exact ⟨none, 0, rfl, World.ownsRow_nil _ _ _ _, Below.refl _ _⟩
  | some ad =>
    obtain ⟨i0, hi⟩ := info_parts cloU_info
    have HI := Lib.hid hi
    obtain ⟨n, hn⟩ : ∃ n, l.length = n := ⟨_, rfl⟩
    have HN := Lib.hid hn
    have HE := Lib.hid (hE.next (w' := w.alloc (.cells #[] 23)) ((Below.refl _ w).alloc (Nat.le_refl _) _))
    rw [hn] at hl ⊢
    clear hn hE hi hz
    have q := fun (w : World) => Lib.run_eql_slice_nil (P := Try.prog) w 35 23 (some ad) n c 0 0 Try.underlying35
    go_enter Try.func33, Try.ntmps33
    go_wp2_with (at_builtin; refine wpl_appL rfl (.tmp 5) (.tmp 6) 35 rfl u16c_lenP cloU_one (by decide) w.heap.size 23 i0 (.int .u16 0) 2 Try.underlying35 HI.out rfl (.slice (some ⟨w.heap.size, 0, none⟩) 0 0) [] rfl (World.ownsRow_made w #[] 0 (Nat.le_refl _) (Nat.zero_le _) (by simp)) (some ad) n c l HN.out rfl (fun e => by cases e) HE.out (by rw [HN.out]; simp; omega) (by omega) (by simp) ?_; intro v6 w6 ho6 hg6 _)
    rw [List.nil_append] at ho6
    have HO := Lib.hid ho6
    have HB : Hid (Below w.heap.size w w6) := Lib.hid (((Below.refl _ w).alloc (Nat.le_refl _) _).grown hg6 (by simp) (by intro k hk; simp [Value.ownBlock] at hk; omega))
    clear ho6 hg6
    go_wp2
    go_ret
    obtain ⟨A', c', hv, _⟩ := own_elsB (k := 1) (enc := u16c) u16c_lenP HO.out
    have HO2 := HO.out
    rw [hv, HN.out] at HO2
    rw [HN.out] at hv
    exact ⟨A', c', ret_ hv, HO2, HB.out⟩
theorem cloM_info : (Try.prog.info? 59).map (fun i => (i.zero, i.size, i.bytes)) = some (some ((.agg #[.int .i64 0, .int .u16 0, .int .u8 0, .bool false])), 4, 16) := by kernel_rfl
theorem cloM_one (x : Mp) : ∀ u ∈ mpE x, u.oneCell' = true := by
  intro u hu
  simp only [mpE, List.mem_cons, List.not_mem_nil, or_false] at hu
  rcases hu with rfl | rfl | rfl | rfl <;> rfl
set_option maxHeartbeats 2000000 in
theorem cloM_any (w : World) (l : List Mp) (A : Option Addr) (c : Nat) (hl : l.length ≤ 1000) (hz : A = none → c = 0) (hE : Els 4 mpE w A l) :
    Calls Try.prog 34 #[.slice A l.length c] w fun e w' => ∃ A' c', e = .returned (.slice A' l.length c') ∧ w'.ownsRow w.heap.size 59 4 (.slice A' l.length c') l.length (l.flatMap mpE) ∧ Below w.heap.size w w' := by
  cases A with
  | none =>
    obtain rfl := hz rfl
    have hl0 : l = [] := by
      cases l with
      | nil => rfl
      | cons x r =>
        obtain ⟨b, off, e, _⟩ := hE (by simp)
        cases e
    subst hl0
    have q := fun (w : World) => Lib.run_eql_slice_nil (P := Try.prog) w 53 59 none 0 0 0 0 Try.underlying53
    go_enter Try.func34, Try.ntmps34
    go_wp2
    go_ret
    exact ⟨none, 0, rfl, World.ownsRow_nil _ _ _ _, Below.refl _ _⟩
  | some ad =>
    obtain ⟨i0, hi⟩ := info_parts cloM_info
    have HI := Lib.hid hi
    obtain ⟨n, hn⟩ : ∃ n, l.length = n := ⟨_, rfl⟩
    have HN := Lib.hid hn
    have HE := Lib.hid (hE.next (w' := w.alloc (.cells #[] 59)) ((Below.refl _ w).alloc (Nat.le_refl _) _))
    rw [hn] at hl ⊢
    clear hn hE hi hz
    have q := fun (w : World) => Lib.run_eql_slice_nil (P := Try.prog) w 53 59 (some ad) n c 0 0 Try.underlying53
    go_enter Try.func34, Try.ntmps34
    go_wp2_with (at_builtin; refine wpl_appL rfl (.tmp 5) (.tmp 6) 53 rfl mpE_len cloM_one (by decide) w.heap.size 59 i0 (.agg #[.int .i64 0, .int .u16 0, .int .u8 0, .bool false]) 16 Try.underlying53 HI.out rfl (.slice (some ⟨w.heap.size, 0, none⟩) 0 0) [] rfl (World.ownsRow_made w #[] 0 (Nat.le_refl _) (Nat.zero_le _) (by simp)) (some ad) n c l HN.out rfl (fun e => by cases e) HE.out (by rw [HN.out]; simp; omega) (by omega) (by simp) ?_; intro v6 w6 ho6 hg6 _)
    rw [List.nil_append] at ho6
    have HO := Lib.hid ho6
    have HB : Hid (Below w.heap.size w w6) := Lib.hid (((Below.refl _ w).alloc (Nat.le_refl _) _).grown hg6 (by simp) (by intro k hk; simp [Value.ownBlock] at hk; omega))
    clear ho6 hg6
    go_wp2
    go_ret
    obtain ⟨A', c', hv, _⟩ := own_elsB (k := 4) (enc := mpE) mpE_len HO.out
    have HO2 := HO.out
    rw [hv, HN.out] at HO2
    rw [HN.out] at hv
    exact ⟨A', c', ret_ hv, HO2, HB.out⟩
end Go.Proofs.Ytfdiolfelecccaa
