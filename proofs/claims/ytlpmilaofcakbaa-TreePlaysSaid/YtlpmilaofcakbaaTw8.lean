/- Layer 9: send. -/
import Derived.Test.YtlpmilaofcakbaaTw7
namespace Go.Proofs.Ytlpmilaofcakbaa
open Go.RowKit Go.Shelf
open Go.Sort (grow)
set_option linter.unusedVariables false
set_option linter.unusedSimpArgs false
set_option maxRecDepth 100000

/-- a word that is sent, as cells -/
def encS (s : Nat × Bp) : List Value := .int .u8 (s.1 : Nat) :: encBp s.2
theorem encS_len (s : Nat × Bp) : (encS s).length = 12 := rfl
theorem encS_one (s : Nat × Bp) : ∀ u ∈ encS s, u.oneCell' = true := by
  intro u hu
  simp only [encS, encBp, List.mem_cons, List.mem_nil_iff, or_false] at hu
  rcases hu with rfl | rfl | rfl | rfl | rfl | rfl | rfl | rfl | rfl | rfl | rfl | rfl <;> rfl
theorem infoS : (Try.prog.info? 83).map (fun i => (i.zero, i.size, i.bytes)) = some (some (.agg #[.int .u8 0, .int .u64 0, .int .u32 0, .int .u64 0, .int .u8 0, .int .u8 0, .int .u64 0, .int .u8 0, .bool false, .bool false, .bool false, .int .u64 0]), 12, 72) := by kernel_rfl
/-- the words of the first k ports -/
def Mch.sendTo (M : Mch) (f : Nat → Bool) (k : Nat) : List (Nat × Bp) := ((List.range k).filter fun i => (M.port i).live && f i).map fun i => (i, M.word i)
theorem Mch.sendTo_succ (M : Mch) (f : Nat → Bool) (k : Nat) : M.sendTo f (k + 1) = M.sendTo f k ++ (if (M.port k).live && f k then [(k, M.word k)] else []) := by
  unfold Mch.sendTo
  rw [List.range_succ, List.filter_append, List.map_append]
  congr 1
  by_cases h : ((M.port k).live && f k) = true
  · simp [h]
  · simp [h]
theorem Mch.sendTo_len (M : Mch) (f : Nat → Bool) (k : Nat) : (M.sendTo f k).length ≤ k := by
  unfold Mch.sendTo
  rw [List.length_map]
  exact Nat.le_trans (List.length_filter_le _ _) (by simp)
/-- what a round of send keeps -/
structure SnS (w0 : World) (g : Nat) (M : Mch) (f : Nat → Bool) (k : Nat) (v : Value) (w : World) : Prop where
  row : w.ownsRow w0.heap.size 83 12 v (M.sendTo f k).length ((M.sendTo f k).flatMap encS)
  mac : MaP w g M
  bel : Below w0.heap.size w0 w
theorem SnS.next {w0 w w' : World} {g k : Nat} {M : Mch} {f : Nat → Bool} {v : Value} (h : SnS w0 g M f k v w) (hb : Below w.heap.size w w') : SnS w0 g M f k v w' := ⟨own_below h.row hb, h.mac.next hb, h.bel.trans (hb.mono h.bel.size)⟩
set_option maxRecDepth 100000 in
set_option maxHeartbeats 4000000 in
theorem send_tick {w : World} {g : Nat} {M : Mch} (hM : MaP w g M) (h8 : M.ps.length ≤ 8) (f : Nat → Bool) 
    (hf : ∀ i, i < M.ps.length → ∀ W, Below w.heap.size w W → Calls Try.prog 40 #[.int .u8 (i : Nat)] W fun e w' => e = .returned (.bool (f i)) ∧ W = w') :
    Calls Try.prog 39 #[.pointer (some ⟨g, 0, none⟩), .func (.func 40) #[] #[]] w fun e w' => ∃ A c, e = .returned (.slice A (M.send f).length c) ∧ Els 12 encS w' A (M.send f) ∧ Below w.heap.size w w' ∧ ∀ b off, A = some ⟨b, off, none⟩ → w.heap.size ≤ b := by
  obtain ⟨n, hn⟩ : ∃ n, M.ps.length = n := ⟨_, rfl⟩
  obtain ⟨i0, hi, hz0, hz1, hz2⟩ := info_partsT infoS
  have HI := Lib.hid (And.intro hi (And.intro hz0 (And.intro hz1 hz2)))
  have c1 := (hM.hd h8).c1
  rw [hn] at c1 h8
  have HM := Lib.hid hM
  have HN := Lib.hid hn
  have HFF := Lib.hid hf
  clear hi hz0 hz1 hz2 hM hn hf
  go_enter Try.func39, Try.ntmps39
  go_wp2_with fail
  clear c1
  go_loopw [5, 11] (fun v i wr => ∃ k : Nat, k ≤ n ∧ i = .int .u8 k ∧ Hid (SnS w g M f k v wr)) (fun _ i _ => n - (intOf i).toNat)
  case atStart => exact ⟨0, Nat.zero_le _, rfl, Lib.hid ⟨World.ownsRow_nil _ _ _ _, HM.out, Below.refl _ _⟩⟩
  case round =>
    obtain ⟨k, hk, rfl, hS⟩ := hrel
    by_cases hlt : k < n
    · have hlt' : k < M.ps.length := by rw [HN.out]; exact hlt
      have hk8 : k < 8 := by omega
      have hk8' : (k : Int) < 8 := by omega
      obtain ⟨p, hp⟩ : ∃ p, M.port k = p := ⟨_, rfl⟩
      have kL := isLink_any (hS.out.mac.sd (i := k) (by rw [HN.out]; exact h8) hlt')
      rw [hp] at kL
      have HT : Hid (M.sendTo f (k + 1) = M.sendTo f k ++ (if p.live && f k then [(k, M.word k)] else [])) := Lib.hid (by rw [Mch.sendTo_succ, hp])
      have kF := HFF.out k hlt' wr hS.out.bel
      have HL := Lib.hid hlt'
      clear hp hlt'
      cases hl : p.live with
      | false =>
        rw [hl] at kL HT
        have HS3 : Hid (SnS w g M f (k + 1) u5 wr) := Lib.hid (by
          have e := HT.out
          simp only [Bool.false_and, Bool.false_eq_true, if_false, List.append_nil] at e
          exact ⟨by rw [e]; exact hS.out.row, hS.out.mac, hS.out.bel⟩)
        clear hl kF hS
        go_wp2_with fail
        refine kL.mono ?_
        rintro e w' ⟨rfl, rfl⟩
        clear kL
        go_wp2
        go_roundw
        case rel => exact ⟨k + 1, by omega, by go_num, HS3⟩
        case measure => simp [intOf]; omega
      | true =>
        rw [hl] at kL HT
        cases hq : f k with
        | false =>
          rw [hq] at kF HT
          have HS3 : Hid (SnS w g M f (k + 1) u5 wr) := Lib.hid (by
            have e := HT.out
            simp only [Bool.and_false, Bool.false_eq_true, if_false, List.append_nil] at e
            exact ⟨by rw [e]; exact hS.out.row, hS.out.mac, hS.out.bel⟩)
          clear hl hq hS
          go_wp2_with fail
          refine kL.mono ?_
          rintro e w' ⟨rfl, rfl⟩
          clear kL
          go_wp2_with fail
          refine kF.mono ?_
          rintro e w' ⟨rfl, rfl⟩
          clear kF
          go_wp2
          go_roundw
          case rel => exact ⟨k + 1, by omega, by go_num, HS3⟩
          case measure => simp [intOf]; omega
        | true =>
          rw [hq] at kF HT
          clear hl hq
          go_wp2_with fail
          refine kL.mono ?_
          rintro e w' ⟨rfl, rfl⟩
          clear kL
          go_wp2_with fail
          refine kF.mono ?_
          rintro e w' ⟨rfl, rfl⟩
          clear kF
          go_wp2_with fail
          refine (word_any hS.out.mac (by rw [HN.out]; exact h8) HL.out).mono ?_
          rintro e w2 ⟨rfl, hb⟩
          have HS2 := Lib.hid (hS.out.next hb)
          clear hb hS
          obtain ⟨x, hx⟩ : ∃ x, M.word k = x := ⟨_, rfl⟩
          rw [hx] at HT
          rw [hx]
          clear hx
          obtain ⟨m, hm⟩ : ∃ m, (M.sendTo f k).length = m := ⟨_, rfl⟩
          have HMM := Lib.hid hm
          have h8m : m ≤ 8 := by rw [← hm]; exact Nat.le_trans (Mch.sendTo_len _ _ _) (by omega)
          have HO1 : Hid (w2.ownsRow w.heap.size 83 12 u5 m ((M.sendTo f k).flatMap encS)) := Lib.hid (by rw [← hm]; exact HS2.out.row)
          have HCN := Lib.hid (newcells w2 (encS (k, x)) 83)
          clear hm
          go_wp2_with (at_builtin; refine wpl_append_own rfl (.tmp 25) (.tmp 31) 40 rfl w.heap.size 83 i0 (.agg #[.int .u8 0, .int .u64 0, .int .u32 0, .int .u64 0, .int .u8 0, .int .u8 0, .int .u64 0, .int .u8 0, .bool false, .bool false, .bool false, .int .u64 0]) 12 72 Try.underlying40 HI.out.1 HI.out.2.1 HI.out.2.2.1 HI.out.2.2.2 rfl (by decide) u5 m ((M.sendTo f k).flatMap encS) (by simp [Act.eval, Act.put]) (HO1.out.alloc _) ⟨w2.heap.size, 0, none⟩ 1 1 (encS (k, x)) (by simp [Act.eval, Act.put]) rfl HCN.out (encS_one _) (by simp only [maxLen]; omega) (by omega) (by have := HS2.out.bel.size; simp; omega) ?_; intro v6 w6 ho6 hg6; have HO6 := Lib.hid ho6; have HG6 := Lib.hid hg6; clear ho6 hg6)
          have HS6 : Hid (SnS w g M f (k + 1) v6 w6) := Lib.hid (by
            have e := HT.out
            simp only [Bool.and_self, if_true] at e
            have hba := (Below.refl w2.heap.size w2).alloc (Nat.le_refl _) (.cells (encS (k, x)).toArray 83)
            have hS3 := HS2.out.next hba
            have hne : ∀ j, u5.ownBlock = some j → w.heap.size ≤ j ∧ j < w2.heap.size := fun j ej => HO1.out.lt j ej
            refine ⟨?_, ?_, ?_⟩
            · rw [e, List.length_append, List.flatMap_append, HMM.out]
              simpa using HO6.out
            · exact (HG6.out.block _ hS3.mac.lt (fun ej => by have := (hne _ ej.symm).1; have := HM.out.lt; omega)).trans hS3.mac
            · exact grown_below (base := w.heap.size) hS3.bel (Nat.le_refl _) (HO1.out.alloc _) HG6.out)
          go_roundw
          case rel => exact ⟨k + 1, by omega, by go_num, HS6⟩
          case measure => simp [intOf]; omega
    · obtain rfl : k = n := by omega
      obtain ⟨A', c', hv, hE, hbs⟩ := own_elsB (k := 12) encS_len hS.out.row
      have e : M.sendTo f k = M.send f := by rw [← HN.out]; rfl
      rw [e] at hv hE
      have HE := Lib.hid (And.intro hE (And.intro hS.out.bel hbs))
      obtain ⟨L, hL⟩ : ∃ L, M.send f = L := ⟨_, rfl⟩
      rw [hL] at hv HE
      have HLL := Lib.hid hL
      subst hv
      clear hE hS e hL hlt hbs
      go_wp2
      go_ret
      rw [HLL.out]
      exact ⟨A', c', rfl, HE.out.1, HE.out.2.1, HE.out.2.2⟩
set_option maxRecDepth 100000 in
set_option maxHeartbeats 4000000 in
theorem send_hear {w : World} {g : Nat} {M : Mch} (hM : MaP w g M) (h8 : M.ps.length ≤ 8) (f : Nat → Bool) {a0 a1 a2 : Value}
    (hf : ∀ i, i < M.ps.length → ∀ W, Below w.heap.size w W → Calls Try.prog 46 #[.int .u8 (i : Nat), a0, a1, a2] W fun e w' => e = .returned (.bool (f i)) ∧ W = w') :
    Calls Try.prog 39 #[.pointer (some ⟨g, 0, none⟩), .func (.func 46) #[] #[a0, a1, a2]] w fun e w' => ∃ A c, e = .returned (.slice A (M.send f).length c) ∧ Els 12 encS w' A (M.send f) ∧ Below w.heap.size w w' ∧ ∀ b off, A = some ⟨b, off, none⟩ → w.heap.size ≤ b := by
  obtain ⟨n, hn⟩ : ∃ n, M.ps.length = n := ⟨_, rfl⟩
  obtain ⟨i0, hi, hz0, hz1, hz2⟩ := info_partsT infoS
  have HI := Lib.hid (And.intro hi (And.intro hz0 (And.intro hz1 hz2)))
  have c1 := (hM.hd h8).c1
  rw [hn] at c1 h8
  have HM := Lib.hid hM
  have HN := Lib.hid hn
  have HFF := Lib.hid hf
  clear hi hz0 hz1 hz2 hM hn hf
  go_enter Try.func39, Try.ntmps39
  go_wp2_with fail
  clear c1
  go_loopw [5, 11] (fun v i wr => ∃ k : Nat, k ≤ n ∧ i = .int .u8 k ∧ Hid (SnS w g M f k v wr)) (fun _ i _ => n - (intOf i).toNat)
  case atStart => exact ⟨0, Nat.zero_le _, rfl, Lib.hid ⟨World.ownsRow_nil _ _ _ _, HM.out, Below.refl _ _⟩⟩
  case round =>
    obtain ⟨k, hk, rfl, hS⟩ := hrel
    by_cases hlt : k < n
    · have hlt' : k < M.ps.length := by rw [HN.out]; exact hlt
      have hk8 : k < 8 := by omega
      have hk8' : (k : Int) < 8 := by omega
      obtain ⟨p, hp⟩ : ∃ p, M.port k = p := ⟨_, rfl⟩
      have kL := isLink_any (hS.out.mac.sd (i := k) (by rw [HN.out]; exact h8) hlt')
      rw [hp] at kL
      have HT : Hid (M.sendTo f (k + 1) = M.sendTo f k ++ (if p.live && f k then [(k, M.word k)] else [])) := Lib.hid (by rw [Mch.sendTo_succ, hp])
      have kF := HFF.out k hlt' wr hS.out.bel
      have HL := Lib.hid hlt'
      clear hp hlt'
      cases hl : p.live with
      | false =>
        rw [hl] at kL HT
        have HS3 : Hid (SnS w g M f (k + 1) u5 wr) := Lib.hid (by
          have e := HT.out
          simp only [Bool.false_and, Bool.false_eq_true, if_false, List.append_nil] at e
          exact ⟨by rw [e]; exact hS.out.row, hS.out.mac, hS.out.bel⟩)
        clear hl kF hS
        go_wp2_with fail
        refine kL.mono ?_
        rintro e w' ⟨rfl, rfl⟩
        clear kL
        go_wp2
        go_roundw
        case rel => exact ⟨k + 1, by omega, by go_num, HS3⟩
        case measure => simp [intOf]; omega
      | true =>
        rw [hl] at kL HT
        cases hq : f k with
        | false =>
          rw [hq] at kF HT
          have HS3 : Hid (SnS w g M f (k + 1) u5 wr) := Lib.hid (by
            have e := HT.out
            simp only [Bool.and_false, Bool.false_eq_true, if_false, List.append_nil] at e
            exact ⟨by rw [e]; exact hS.out.row, hS.out.mac, hS.out.bel⟩)
          clear hl hq hS
          go_wp2_with fail
          refine kL.mono ?_
          rintro e w' ⟨rfl, rfl⟩
          clear kL
          go_wp2_with fail
          refine kF.mono ?_
          rintro e w' ⟨rfl, rfl⟩
          clear kF
          go_wp2
          go_roundw
          case rel => exact ⟨k + 1, by omega, by go_num, HS3⟩
          case measure => simp [intOf]; omega
        | true =>
          rw [hq] at kF HT
          clear hl hq
          go_wp2_with fail
          refine kL.mono ?_
          rintro e w' ⟨rfl, rfl⟩
          clear kL
          go_wp2_with fail
          refine kF.mono ?_
          rintro e w' ⟨rfl, rfl⟩
          clear kF
          go_wp2_with fail
          refine (word_any hS.out.mac (by rw [HN.out]; exact h8) HL.out).mono ?_
          rintro e w2 ⟨rfl, hb⟩
          have HS2 := Lib.hid (hS.out.next hb)
          clear hb hS
          obtain ⟨x, hx⟩ : ∃ x, M.word k = x := ⟨_, rfl⟩
          rw [hx] at HT
          rw [hx]
          clear hx
          obtain ⟨m, hm⟩ : ∃ m, (M.sendTo f k).length = m := ⟨_, rfl⟩
          have HMM := Lib.hid hm
          have h8m : m ≤ 8 := by rw [← hm]; exact Nat.le_trans (Mch.sendTo_len _ _ _) (by omega)
          have HO1 : Hid (w2.ownsRow w.heap.size 83 12 u5 m ((M.sendTo f k).flatMap encS)) := Lib.hid (by rw [← hm]; exact HS2.out.row)
          have HCN := Lib.hid (newcells w2 (encS (k, x)) 83)
          clear hm
          go_wp2_with (at_builtin; refine wpl_append_own rfl (.tmp 25) (.tmp 31) 40 rfl w.heap.size 83 i0 (.agg #[.int .u8 0, .int .u64 0, .int .u32 0, .int .u64 0, .int .u8 0, .int .u8 0, .int .u64 0, .int .u8 0, .bool false, .bool false, .bool false, .int .u64 0]) 12 72 Try.underlying40 HI.out.1 HI.out.2.1 HI.out.2.2.1 HI.out.2.2.2 rfl (by decide) u5 m ((M.sendTo f k).flatMap encS) (by simp [Act.eval, Act.put]) (HO1.out.alloc _) ⟨w2.heap.size, 0, none⟩ 1 1 (encS (k, x)) (by simp [Act.eval, Act.put]) rfl HCN.out (encS_one _) (by simp only [maxLen]; omega) (by omega) (by have := HS2.out.bel.size; simp; omega) ?_; intro v6 w6 ho6 hg6; have HO6 := Lib.hid ho6; have HG6 := Lib.hid hg6; clear ho6 hg6)
          have HS6 : Hid (SnS w g M f (k + 1) v6 w6) := Lib.hid (by
            have e := HT.out
            simp only [Bool.and_self, if_true] at e
            have hba := (Below.refl w2.heap.size w2).alloc (Nat.le_refl _) (.cells (encS (k, x)).toArray 83)
            have hS3 := HS2.out.next hba
            have hne : ∀ j, u5.ownBlock = some j → w.heap.size ≤ j ∧ j < w2.heap.size := fun j ej => HO1.out.lt j ej
            refine ⟨?_, ?_, ?_⟩
            · rw [e, List.length_append, List.flatMap_append, HMM.out]
              simpa using HO6.out
            · exact (HG6.out.block _ hS3.mac.lt (fun ej => by have := (hne _ ej.symm).1; have := HM.out.lt; omega)).trans hS3.mac
            · exact grown_below (base := w.heap.size) hS3.bel (Nat.le_refl _) (HO1.out.alloc _) HG6.out)
          go_roundw
          case rel => exact ⟨k + 1, by omega, by go_num, HS6⟩
          case measure => simp [intOf]; omega
    · obtain rfl : k = n := by omega
      obtain ⟨A', c', hv, hE, hbs⟩ := own_elsB (k := 12) encS_len hS.out.row
      have e : M.sendTo f k = M.send f := by rw [← HN.out]; rfl
      rw [e] at hv hE
      have HE := Lib.hid (And.intro hE (And.intro hS.out.bel hbs))
      obtain ⟨L, hL⟩ : ∃ L, M.send f = L := ⟨_, rfl⟩
      rw [hL] at hv HE
      have HLL := Lib.hid hL
      subst hv
      clear hE hS e hL hlt hbs
      go_wp2
      go_ret
      rw [HLL.out]
      exact ⟨A', c', rfl, HE.out.1, HE.out.2.1, HE.out.2.2⟩
end Go.Proofs.Ytlpmilaofcakbaa
