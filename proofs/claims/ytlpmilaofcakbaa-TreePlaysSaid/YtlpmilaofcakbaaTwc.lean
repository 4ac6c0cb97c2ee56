/- Layer 9: New. -/
import Derived.Test.YtlpmilaofcakbaaTwb
namespace Go.Proofs.Ytlpmilaofcakbaa
open Go.RowKit Go.Shelf
open Go.Sort (grow)
set_option linter.unusedVariables false
set_option linter.unusedSimpArgs false
set_option maxRecDepth 100000

def encC (x : Int) : List Value := [.int .u32 x]
/-- may there be a machine of such ports? -/
def mayC (cs : List Int) : Bool := decide (0 < cs.length) && decide (cs.length ≤ 8) && cs.all fun x => decide (x ≤ 65535)
def Sd.of (x : Int) : Sd := { Sd.zero with cost := x }
/-- a new machine, with the costs of the first k ports -/
def newTo (id : Int) (cs : List Int) (k : Nat) : Mch := ⟨id, (cs.take k).map Sd.of ++ List.replicate (cs.length - k) Sd.zero, 0, 0, 0, 0, 1, List.replicate cs.length false⟩
def newM (id : Int) (cs : List Int) : Mch := ⟨id, cs.map Sd.of, id, 0, 8, 0, 1, List.replicate cs.length false⟩
theorem newTo_len (id : Int) (cs : List Int) (k : Nat) (hk : k ≤ cs.length) : (newTo id cs k).ps.length = cs.length := by
  simp only [newTo, List.length_append, List.length_map, List.length_take, List.length_replicate]
  omega
theorem newTo_succ (id : Int) (cs : List Int) (k : Nat) (hk : k < cs.length) : newTo id cs (k + 1) = (newTo id cs k).setP k (Sd.of cs[k]) := by
  unfold newTo Mch.setP
  simp only
  congr 1
  rw [List.set_append_right _ _ (by rw [List.length_map, List.length_take]; omega), List.length_map, List.length_take]
  have e : k - min k cs.length = 0 := by omega
  have e2 : cs.length - k = (cs.length - (k + 1)) + 1 := by omega
  rw [e, e2, List.replicate_succ, List.take_succ_eq_append_getElem hk, List.map_append]
  simp
theorem newTo_port (id : Int) (cs : List Int) (k : Nat) (hk : k < cs.length) : (newTo id cs k).port k = Sd.zero := by
  unfold newTo Mch.port
  simp only [List.getD_eq_getElem?_getD]
  rw [List.getElem?_append_right (by rw [List.length_map, List.length_take]; omega), List.length_map, List.length_take, List.getElem?_replicate]
  rw [if_pos (by omega)]
  rfl
theorem flN_rep (n : Nat) : flN (List.replicate n false) = 0 := by
  induction n with
  | zero => rfl
  | succ n ih => rw [List.replicate_succ, flN, ih]; rfl
theorem newTo_zero (id : Int) (cs : List Int) (h8 : cs.length ≤ 8) : mchV (newTo id cs 0) = [.int .u64 id, .int .u8 (cs.length : Nat)] ++ (List.replicate 8 Sd.zero).flatMap sdV ++ [.int .u64 0, .int .u32 0, .int .u8 0, .int .u8 0, .int .u64 1, .int .u8 0] := by
  have hp : (newTo id cs 0).pad = List.replicate 8 Sd.zero := by
    unfold Mch.pad
    rw [newTo_len id cs 0 (Nat.zero_le _)]
    show List.replicate (cs.length - 0) Sd.zero ++ _ = _
    rw [List.replicate_append_replicate]
    congr 1
    omega
  unfold mchV
  rw [hp, newTo_len id cs 0 (Nat.zero_le _)]
  show _ ++ ([.int .u64 0, .int .u32 0, .int .u8 0, .int .u8 0, .int .u64 1, .int .u8 (flN (List.replicate cs.length false) : Nat)] : List Value) = _
  rw [flN_rep]
  rfl
theorem newM_best (id : Int) (cs : List Int) : (newTo id cs cs.length).put = newM id cs := by
  have hp : (newTo id cs cs.length).ps = cs.map Sd.of := by simp [newTo]
  have h0 : ∀ (l : List Int) (k : Nat), pathsFrom id k (l.map Sd.of) = [] := by
    intro l
    induction l with
    | nil => intro k; rfl
    | cons x l ih => intro k; simp [pathsFrom, Sd.okFar, Sd.of, Sd.zero, ih]
  have hpp : (newTo id cs cs.length).paths = [] := by
    unfold Mch.paths
    rw [hp]
    exact h0 cs 0
  have hf : (newTo id cs cs.length).fit = false := by unfold Mch.fit; rw [hpp]; rfl
  unfold Mch.put Mch.bRoot Mch.bCost Mch.bIn Mch.bHops
  rw [hf]
  unfold newM newTo
  simp
theorem newM_fits (id : Int) (cs : List Int) (h : mayC cs = true) (h0 : ∀ x ∈ cs, 0 ≤ x) : (newM id cs).fits := by
  simp only [mayC, Bool.and_eq_true, decide_eq_true_eq, List.all_eq_true] at h
  refine Mch.fits_iff.2 ⟨by simpa [newM] using h.1.2, fun p hp => ?_, by simp [newM]⟩
  obtain ⟨x, hx, rfl⟩ := List.mem_map.1 hp
  exact ⟨Bp.zero_fit, ⟨h0 x hx, h.2 x hx⟩, (show (0 : Int) ≤ 0 ∧ (0 : Int) ≤ 3 by decide), (show (0 : Int) ≤ 0 ∧ (0 : Int) ≤ 4 by decide)⟩
theorem newTo_fits (id : Int) (cs : List Int) (h8 : cs.length ≤ 8) (h0 : ∀ x ∈ cs, 0 ≤ x ∧ x ≤ 65535) : (newTo id cs cs.length).fits := by
  refine Mch.fits_iff.2 ⟨by rw [newTo_len _ _ _ (Nat.le_refl _)]; exact h8, fun p hp => ?_, by rw [newTo_len _ _ _ (Nat.le_refl _)]; simp [newTo]⟩
  have hp' : p ∈ cs.map Sd.of := by simpa [newTo] using hp
  obtain ⟨x, hx, rfl⟩ := List.mem_map.1 hp'
  exact ⟨Bp.zero_fit, h0 x hx, (show (0 : Int) ≤ 0 ∧ (0 : Int) ≤ 3 by decide), (show (0 : Int) ≤ 0 ∧ (0 : Int) ≤ 4 by decide)⟩
theorem new_bad {w : World} {A : Option Addr} {c n : Nat} {id : Int} (hn : n = 0 ∨ 8 < n) (h63 : n ≤ maxLen) :
    Calls Try.prog 8 #[.int .u64 id, .slice A n c] w fun e w' => e = .returned (.tuple #[.pointer none, .int .i64 2]) ∧ Below w.heap.size w w' := by
  unfold maxLen at h63
  by_cases h0 : n = 0
  · subst h0
    clear hn h63
    go_enter Try.func8, Try.ntmps8
    go_wp2
    go_ret2
    exact ⟨rfl, Below.refl _ _⟩
  · have d0 : ((n : Int) == 0) = false := by simp; omega
    have d1 : decide ((8 : Int) < (n : Int)) = true := by simp; omega
    clear hn h0
    go_enter Try.func8, Try.ntmps8
    go_wp2
    go_ret2
    exact ⟨rfl, Below.refl _ _⟩
set_option maxRecDepth 100000 in
set_option maxHeartbeats 4000000 in
theorem new_go {w : World} {A : Option Addr} {c : Nat} {id : Int} {cs : List Int} (h0 : 0 < cs.length) (h8 : cs.length ≤ 8) (hE : Els 1 encC w A cs) (hcs : ∀ x ∈ cs, 0 ≤ x) :
    Calls Try.prog 8 #[.int .u64 id, .slice A cs.length c] w fun e w' => (mayC cs = true → ∃ g, e = .returned (.tuple #[.pointer (some ⟨g, 0, none⟩), .int .i64 0]) ∧ MaP w' g (newM id cs) ∧ w.heap.size ≤ g) ∧ (mayC cs = false → e = .returned (.tuple #[.pointer none, .int .i64 2])) ∧ Below w.heap.size w w' := by
  obtain ⟨n, hn⟩ : ∃ n, cs.length = n := ⟨_, rfl⟩
  obtain ⟨ba, off, rfl, hba, hc⟩ := hE h0
  have HC := Lib.hid hc
  have HBA := Lib.hid hba
  have HN := Lib.hid hn
  have HCS := Lib.hid hcs
  rw [hn] at h0 h8
  rw [hn]
  have d0 : ((n : Int) == 0) = false := by simp; omega
  have d1 : decide ((8 : Int) < (n : Int)) = false := by simp; omega
  have hu8 : IntKind.u8.wrap (n : Int) = (n : Int) := by
    have : n = 0 ∨ n = 1 ∨ n = 2 ∨ n = 3 ∨ n = 4 ∨ n = 5 ∨ n = 6 ∨ n = 7 ∨ n = 8 := by omega
    rcases this with h | h | h | h | h | h | h | h | h <;> subst h <;> rfl
  have HMA : Hid (MaP (w.alloc (.cells (((Try.zeroCells90.setIfInBounds 0 (.int .u64 id)).setIfInBounds 1 (.int .u8 (n : Nat))).setIfInBounds 134 (.int .u64 1)) 90)) w.heap.size (newTo id cs 0)) := Lib.hid (by
    have e : (((Try.zeroCells90.setIfInBounds 0 (.int .u64 id)).setIfInBounds 1 (.int .u8 (n : Nat))).setIfInBounds 134 (.int .u64 1)) = (mchV (newTo id cs 0)).toArray := by
      rw [newTo_zero id cs (by rw [HN.out]; exact h8), HN.out]
      kernel_rfl
    rw [e]
    exact Blk.new _ _ _)
  have HB0 : Hid (Below w.heap.size w (w.alloc (.cells (((Try.zeroCells90.setIfInBounds 0 (.int .u64 id)).setIfInBounds 1 (.int .u8 (n : Nat))).setIfInBounds 134 (.int .u64 1)) 90))) := Lib.hid ((Below.refl _ w).alloc (Nat.le_refl _) _)
  obtain ⟨w1, hw1⟩ : ∃ w1, w.alloc (.cells (((Try.zeroCells90.setIfInBounds 0 (.int .u64 id)).setIfInBounds 1 (.int .u8 (n : Nat))).setIfInBounds 134 (.int .u64 1)) 90) = w1 := ⟨_, rfl⟩
  obtain ⟨g, hg⟩ : ∃ g, w.heap.size = g := ⟨_, rfl⟩
  have HW := Lib.hid (And.intro hw1 hg)
  rw [hw1, hg] at HMA HB0
  clear hE hc hba hn hcs hw1 hg
  go_enter Try.func8, Try.ntmps8
  go_upto_region 4 with fail
  rw [HW.out.1, HW.out.2]
  go_wp2_with fail
  go_loopw [25] (fun i wr => ∃ k : Nat, k ≤ n ∧ i = .int .i64 k ∧ Hid (MaP wr g (newTo id cs k)) ∧ Hid (Below g w wr) ∧ Hid (∀ x ∈ cs.take k, x ≤ 65535)) (fun i _ => n - (intOf i).toNat)
  case atStart => exact ⟨0, Nat.zero_le _, rfl, HMA, HB0, Lib.hid (by simp)⟩
  case round =>
    obtain ⟨k, hk, rfl, hS, hB, hA⟩ := hrel
    by_cases hlt : k < n
    · have hlt' : k < cs.length := by rw [HN.out]; exact hlt
      obtain ⟨x, hx⟩ : ∃ x, cs[k] = x := ⟨_, rfl⟩
      have cx : wr.cell? ⟨ba, off + k, none⟩ = some (.int .u32 x) := by
        have := (hB.out.cell (p := ⟨ba, off + k, none⟩) (by have := HBA.out; have := HW.out.2; show ba < g; omega)).trans (by have := HC.out k hlt' 0 _ rfl; simpa using this)
        rw [this, hx]
      have hx0 : 0 ≤ x := by rw [← hx]; exact HCS.out _ (List.getElem_mem hlt')
      have HKL : Hid (k < cs.length) := Lib.hid hlt'
      have HXX : Hid (∀ h : k < cs.length, cs[k]'h = x) := Lib.hid (fun _ => hx)
      clear hx hlt'
      by_cases h6 : 65535 < x
      · have d6 : decide ((65535 : Int) < x) = true := by simpa using h6
        have HNO : Hid (mayC cs = false) := Lib.hid (by
          unfold mayC
          rw [Bool.and_eq_false_iff]
          right
          rw [List.all_eq_false]
          exact ⟨x, by have := List.getElem_mem HKL.out; rw [HXX.out HKL.out] at this; exact this, by simpa using h6⟩)
        have HBw : Hid (Below w.heap.size w wr) := Lib.hid (by rw [HW.out.2]; exact hB.out)
        clear h6 hS hA
        go_wp2_with fail
        go_ret2
        exact ⟨fun h => (by rw [HNO.out] at h; cases h), fun _ => rfl, HBw.out⟩
      · have d6 : decide ((65535 : Int) < x) = false := by simpa using h6
        have h6' : x ≤ 65535 := by omega
        have hk8 : k < 8 := by omega
        have hk8' : (k : Int) < 8 := by omega
        have hl8 : (newTo id cs k).ps.length ≤ 8 := by rw [newTo_len _ _ _ (by rw [HN.out]; omega), HN.out]; exact h8
        have hkl : k < (newTo id cs k).ps.length := by rw [newTo_len _ _ _ (by rw [HN.out]; omega), HN.out]; exact hlt
        have s0 := (hS.out.sd hl8 hkl).c0
        have f0 := hS.out.fz (2 + k * 16)
        have HP : Hid (MaP (wr.setCell ⟨g, 2 + k * 16, none⟩ (.int .u32 x)) g (newTo id cs (k + 1))) := Lib.hid (by
          rw [newTo_succ _ _ _ HKL.out, HXX.out HKL.out]
          exact hS.out.put hl8 hkl 0 (by omega) (.int .u32 x) (Sd.of x) (by rw [newTo_port _ _ _ HKL.out]; rfl))
        have HB2 : Hid (Below g w (wr.setCell ⟨g, 2 + k * 16, none⟩ (.int .u32 x))) := Lib.hid (hB.out.setCell (p := ⟨g, 2 + k * 16, none⟩) (Nat.le_refl _) _)
        have HA2 : Hid (∀ x ∈ cs.take (k + 1), x ≤ 65535) := Lib.hid (fun y hy => by
          rw [List.take_succ_eq_append_getElem HKL.out, HXX.out HKL.out] at hy
          rcases List.mem_append.1 hy with h | h
          · exact hA.out y h
          · rw [List.mem_singleton.1 h]; exact h6')
        clear h6 hl8 hkl hS hB hA
        go_wp2_with fail
        go_roundw
        case rel => exact ⟨k + 1, by omega, by go_num, HP, HB2, HA2⟩
        case measure => simp [intOf]; omega
    · obtain rfl : k = n := by omega
      have HYES : Hid (mayC cs = true) := Lib.hid (by
        unfold mayC
        simp only [Bool.and_eq_true, decide_eq_true_eq, List.all_eq_true]
        refine ⟨⟨by rw [HN.out]; exact h0, by rw [HN.out]; exact h8⟩, fun x hx => ?_⟩
        have := hA.out
        rw [← HN.out, List.take_length] at this
        exact this x hx)
      have HF : Hid ((newTo id cs k).fits) := Lib.hid (by
        have h1 := hA.out
        rw [← HN.out, List.take_length] at h1
        rw [← HN.out]
        exact newTo_fits id cs (by rw [HN.out]; exact h8) (fun x hx => ⟨HCS.out x hx, h1 x hx⟩))
      obtain ⟨N, hN⟩ : ∃ N, newTo id cs k = N := ⟨_, rfl⟩
      have HNN : Hid (N.put = newM id cs) := Lib.hid (by rw [← hN, ← HN.out]; exact newM_best id cs)
      rw [hN] at HF hS
      have H1 : Hid (N.bRoot = (newM id cs).root ∧ N.bCost = (newM id cs).cost ∧ N.bIn = (newM id cs).inn ∧ N.bHops = (newM id cs).hops) := Lib.hid (by rw [← HNN.out]; exact ⟨rfl, rfl, rfl, rfl⟩)
      clear hA hN hlt
      go_wp2_with fail
      refine (best_any hS.out HF.out).mono ?_
      rintro e w3 ⟨rfl, hb⟩
      have HM3 := Lib.hid (hS.out.next hb)
      have HB3 : Hid (Below g w w3) := Lib.hid (hB.out.trans (hb.mono (Nat.le_of_lt hS.out.lt)))
      clear hb hS hB
      have H := HM3.out.hd HF.out.n8
      have c130 := H.c130
      have c131 := H.c131
      have c132 := H.c132
      have c133 := H.c133
      have f := fun i => HM3.out.fz i
      clear H
      have HM4 := Lib.hid ((((HM3.out.putT HF.out.n8 0 (.int .u64 N.bRoot) { N with root := N.bRoot } rfl rfl rfl).putT HF.out.n8 1 (.int .u32 N.bCost) { N with root := N.bRoot, cost := N.bCost } rfl rfl rfl).putT HF.out.n8 2 (.int .u8 N.bIn) { N with root := N.bRoot, cost := N.bCost, inn := N.bIn } rfl rfl rfl).putT HF.out.n8 3 (.int .u8 N.bHops) N.put rfl rfl rfl)
      have HB4 := Lib.hid ((((HB3.out.setCell (p := ⟨g, 130, none⟩) (Nat.le_refl _) (.int .u64 N.bRoot)).setCell (p := ⟨g, 131, none⟩) (Nat.le_refl _) (.int .u32 N.bCost)).setCell (p := ⟨g, 132, none⟩) (Nat.le_refl _) (.int .u8 N.bIn)).setCell (p := ⟨g, 133, none⟩) (Nat.le_refl _) (.int .u8 N.bHops))
      simp only [Nat.add_zero, Nat.reduceAdd] at HM4
      rw [HNN.out] at HM4
      go_wp2_with fail
      go_ret2
      exact ⟨fun _ => ⟨g, rfl, HM4.out, Nat.le_of_eq HW.out.2⟩, fun h => (by rw [HYES.out] at h; cases h), by rw [HW.out.2]; exact HB4.out⟩
end Go.Proofs.Ytlpmilaofcakbaa
