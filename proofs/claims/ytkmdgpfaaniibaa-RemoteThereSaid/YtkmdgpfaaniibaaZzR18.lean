/- Layer 18: the document's Lasts, May, Kind. -/
import Derived.Test.YtkmdgpfaaniibaaZz
import Derived.Test.YtkmdgpfaaniibaaZzR13
import Derived.BigQuiet
import Derived.Deep.QuietTactic
import Derived.Deep.DeepCutAuto
namespace Go.Proofs.Ytkmdgpfaaniibaa
open Go.RowKit
set_option linter.unusedVariables false
set_option linter.unusedSimpArgs false
set_option maxRecDepth 100000

abbrev OnV (o : On) : Value := .agg #[.int .u8 o.lv.toNat, .int .u16 o.me.toNat, .int .u8 o.iv.toNat, .string ⟨o.ma.toArray⟩]
/-- a number as a cell; a check that was heard -/
def u16c (x : UInt16) : List Value := [.int .u16 x.toNat]
def hdE (e : Hd) : List Value := [.int .i64 e.1, .int .u8 e.2.l.toNat, .bool e.2.r, .int .u8 e.2.i.toNat, .int .u32 e.2.q.toNat, .int .u16 e.2.m.toNat, .string ⟨e.2.a.toArray⟩]
theorem bel18 {B : Nat} {a w : World} (h : Below B a w) (n : Nat) : Below B a (w.drewN n) := h.trans ⟨rfl, rfl, rfl, Nat.le_refl _, fun _ _ => rfl⟩
theorem u16c_len (x : UInt16) : (u16c x).length = 1 := rfl
theorem hdE_len (x : Hd) : (hdE x).length = 7 := rfl
theorem u16c_one : ∀ (x : UInt16), ∀ u ∈ u16c x, u.oneCell' = true := by intro x u hu; simp [u16c] at hu; subst hu; rfl
theorem hdE_one : ∀ (x : Hd), ∀ u ∈ hdE x, u.oneCell' = true := by intro x u hu; simp [hdE] at hu; rcases hu with rfl | rfl | rfl | rfl | rfl | rfl | rfl <;> rfl
theorem u16c_at {w : World} {A : Option Addr} {l : List UInt16} {i : Nat} {x : UInt16} (h : Els 1 u16c w A l) (hx : l[i]? = some x) : ∃ b off, A = some ⟨b, off, none⟩ ∧ b < w.heap.size ∧ w.cell? ⟨b, off + i, none⟩ = some (.int .u16 x.toNat) := by
  obtain ⟨hi, rfl⟩ := List.getElem?_eq_some_iff.1 hx
  obtain ⟨b, off, e, hlt, hc⟩ := h (by omega)
  refine ⟨b, off, e, hlt, ?_⟩
  have := hc i hi 0 _ rfl
  simpa using this
theorem u16c_two {w : World} {A : Option Addr} {l : List UInt16} {i j : Nat} {x y : UInt16} (h : Els 1 u16c w A l) (hx : l[i]? = some x) (hy : l[j]? = some y) : ∃ b off, A = some ⟨b, off, none⟩ ∧ b < w.heap.size ∧ w.cell? ⟨b, off + i, none⟩ = some (.int .u16 x.toNat) ∧ w.cell? ⟨b, off + j, none⟩ = some (.int .u16 y.toNat) := by
  obtain ⟨hi, rfl⟩ := List.getElem?_eq_some_iff.1 hx
  obtain ⟨hj, rfl⟩ := List.getElem?_eq_some_iff.1 hy
  obtain ⟨b, off, e, hlt, hc⟩ := h (by omega)
  refine ⟨b, off, e, hlt, ?_, ?_⟩
  · have := hc i hi 0 _ rfl
    simpa using this
  · have := hc j hj 0 _ rfl
    simpa using this
theorem hd_at {w : World} {A : Option Addr} {l : List Hd} {i : Nat} {x : Hd} (h : Els 7 hdE w A l) (hx : l[i]? = some x) : ∃ b off, A = some ⟨b, off, none⟩ ∧ b < w.heap.size ∧ w.cell? ⟨b, off + i * 7, none⟩ = some (.int .i64 x.1) ∧ w.cell? ⟨b, off + i * 7 + 1, none⟩ = some (.int .u8 x.2.l.toNat) ∧ w.cell? ⟨b, off + i * 7 + 2, none⟩ = some (.bool x.2.r) ∧ w.cell? ⟨b, off + i * 7 + 3, none⟩ = some (.int .u8 x.2.i.toNat) ∧ w.cell? ⟨b, off + i * 7 + 4, none⟩ = some (.int .u32 x.2.q.toNat) ∧ w.cell? ⟨b, off + i * 7 + 5, none⟩ = some (.int .u16 x.2.m.toNat) ∧ w.cell? ⟨b, off + i * 7 + 6, none⟩ = some (.string ⟨x.2.a.toArray⟩) := by
  obtain ⟨hi, rfl⟩ := List.getElem?_eq_some_iff.1 hx
  obtain ⟨b, off, e, hlt, hc⟩ := h (by omega)
  exact ⟨b, off, e, hlt, hc i hi 0 _ rfl, hc i hi 1 _ rfl, hc i hi 2 _ rfl, hc i hi 3 _ rfl, hc i hi 4 _ rfl, hc i hi 5 _ rfl, hc i hi 6 _ rfl⟩
theorem lasts_any (i : UInt8) (w : World) :
    Calls Try.prog 21 #[.int .u8 i.toNat] w fun e w' => e = .returned (.int .i64 (lsN i : Nat)) ∧ w = w' := by
  by_cases h4 : i = 4
  · subst h4
    go_enter Try.func21, Try.ntmps21
    go_wp2
    go_ret
    exact ⟨rfl, rfl⟩
  · by_cases h5 : i = 5
    · subst h5
      go_enter Try.func21, Try.ntmps21
      go_wp2
      go_ret
      exact ⟨rfl, rfl⟩
    · have e : lsN i = 0 := by unfold lsN; rw [if_neg h4, if_neg h5]
      have p4 : ¬ (i.toNat : Int) = 4 := fun hh => h4 (UInt8.toNat_inj.1 (by simpa using (by omega : i.toNat = 4)))
      have p5 : ¬ (i.toNat : Int) = 5 := fun hh => h5 (UInt8.toNat_inj.1 (by simpa using (by omega : i.toNat = 5)))
      rw [e]
      clear e h4 h5
      go_enter Try.func21, Try.ntmps21
      go_wp2
      go_ret
      exact ⟨rfl, rfl⟩
/-- the rows of others up to a place -/
theorem may_step {o : On} {os : List UInt16} {k : Nat} {x : UInt16} (hx : os[k]? = some x) (h1 : (os.take k).all (rmOne o) = true) (h2 : (os.take k).Nodup) (hx1 : rmOne o x = true) (hx2 : ∀ j, j < k → os[j]? ≠ some x) :
    (os.take (k + 1)).all (rmOne o) = true ∧ (os.take (k + 1)).Nodup := by
  obtain ⟨hk, he⟩ := List.getElem?_eq_some_iff.1 hx
  rw [List.take_succ_eq_append_getElem hk, he]
  refine ⟨by rw [List.all_append, h1]; simp [hx1], ?_⟩
  rw [List.nodup_append]
  refine ⟨h2, by simp, fun a ha b hb e => ?_⟩
  rw [List.mem_singleton] at hb
  subst hb e
  obtain ⟨j, hj, hja⟩ := List.mem_iff_getElem?.1 ha |>.imp fun j h => (⟨(List.getElem?_eq_some_iff.1 h).1, h⟩ : j < (os.take k).length ∧ (os.take k)[j]? = some a)
  rw [List.length_take] at hj
  rw [List.getElem?_take_of_lt (by omega)] at hja
  exact hx2 j (by omega) hja
theorem may_no1 {o : On} {os : List UInt16} {k : Nat} {x : UInt16} (hx : os[k]? = some x) (h : rmOne o x = false) : rmMay o os = false := by
  have : os.all (rmOne o) = false := by
    rw [List.all_eq_false]
    exact ⟨x, List.mem_of_getElem? hx, by rw [h]; decide⟩
  unfold rmMay
  rw [this]
  simp
theorem may_no2 {o : On} {os : List UInt16} {k j : Nat} {x : UInt16} (hx : os[k]? = some x) (hj : os[j]? = some x) (hjk : j < k) : rmMay o os = false := by
  have : ¬ os.Nodup := by
    intro h
    obtain ⟨h1, e1⟩ := List.getElem?_eq_some_iff.1 hx
    obtain ⟨h2, e2⟩ := List.getElem?_eq_some_iff.1 hj
    have := (List.nodup_iff_pairwise_ne.1 h)
    rw [List.pairwise_iff_getElem] at this
    exact this j k h2 h1 hjk (e2.trans e1.symm)
  unfold rmMay
  simp [this]
set_option maxHeartbeats 4000000 in
theorem may18_any (o : On) (A : Option Addr) (c : Nat) (os : List UInt16) (w : World) (hl : o.ma.length ≤ 1000000) (hE : Els 1 u16c w A os) :
    Calls Try.prog 10 #[.agg #[.int .u8 o.lv.toNat, .int .u16 o.me.toNat, .int .u8 o.iv.toNat, .string ⟨o.ma.toArray⟩], .slice A os.length c] w fun e w' => e = .returned (.bool (rmMay o os)) ∧ Below w.heap.size w w' := by
  have KM := Lib.hid (fun w => (refmay13_any (onC o) w hl : Calls Try.prog 27 #[.agg #[.int .u8 o.lv.toNat, .bool false, .int .u8 o.iv.toNat, .int .u32 0, .int .u16 o.me.toNat, .string ⟨o.ma.toArray⟩]] w _))
  have HBA : Hid (Below w.heap.size w (w.alloc (.cells #[.int .u8 o.lv.toNat, .int .u16 o.me.toNat, .int .u8 o.iv.toNat, .string ⟨o.ma.toArray⟩] 24))) := Lib.hid ((Below.refl _ _).alloc (Nat.le_refl _) _)
  have HKA : Hid (Blk (w.alloc (.cells #[.int .u8 o.lv.toNat, .int .u16 o.me.toNat, .int .u8 o.iv.toNat, .string ⟨o.ma.toArray⟩] 24)) w.heap.size 24 #[.int .u8 o.lv.toNat, .int .u16 o.me.toNat, .int .u8 o.iv.toNat, .string ⟨o.ma.toArray⟩]) := Lib.hid (Blk.new _ _ _)
  have HE := Lib.hid hE
  obtain ⟨n, hn⟩ : ∃ n, os.length = n := ⟨_, rfl⟩
  have HN := Lib.hid hn
  rw [hn]
  clear hE hn hl
  by_cases h8 : 8 < n
  · have q : (8 : Int) < (n : Int) := by omega
    have HF : Hid (rmMay o os = false) := Lib.hid (by unfold rmMay; rw [HN.out]; simp; omega)
    clear h8
    go_enter Try.func10, Try.ntmps10
    go_wp2
    go_ret
    exact ⟨by rw [HF.out]; rfl, HBA.out⟩
  have q8 : ¬ (8 : Int) < (n : Int) := by omega
  obtain ⟨M, hM⟩ : ∃ M, ckM (onC o) = M := ⟨_, rfl⟩
  rw [hM] at KM
  have HM := Lib.hid hM
  have H8 := Lib.hid h8
  clear hM h8
  have k0 := HKA.out.cell 0
  have k1 := HKA.out.cell 1
  have k2 := HKA.out.cell 2
  have k3 := HKA.out.cell 3
  simp only [List.getElem?_toArray, List.getElem?_cons_succ, List.getElem?_cons_zero] at k0 k1 k2 k3
  go_enter Try.func10, Try.ntmps10
  go_wp2_with fail
  refine (KM.out _).mono ?_
  rintro r w1 ⟨rfl, hb⟩
  have HB1 : Hid (Below w.heap.size w w1) := Lib.hid (HBA.out.trans (hb.mono HBA.out.size))
  have HK1 := Lib.hid (HKA.out.below hb HKA.out.lt)
  clear hb HBA HKA k0 k1 k2 k3
  cases M with
  | false =>
    go_wp2
    go_ret
    exact ⟨by unfold rmMay; rw [HM.out]; simp, HB1.out⟩
  | true =>
  go_wp2
  go_loopw [5] (fun i wr => ∃ k : Nat, k ≤ n ∧ i = .int .i64 k ∧ Hid ((os.take k).all (rmOne o) = true ∧ (os.take k).Nodup) ∧ Hid (Blk wr w.heap.size 24 #[.int .u8 o.lv.toNat, .int .u16 o.me.toNat, .int .u8 o.iv.toNat, .string ⟨o.ma.toArray⟩]) ∧ Hid (Below w.heap.size w wr)) (fun i _ => n - (intOf i).toNat)
  case atStart => exact ⟨0, Nat.zero_le _, rfl, Lib.hid ⟨rfl, List.nodup_nil⟩, HK1, HB1⟩
  case round =>
    obtain ⟨k, hk, rfl, HS, HK, HB⟩ := hrel
    clear HK1 HB1
    obtain ⟨wo, rfl⟩ : ∃ wo, wo = wr := ⟨_, rfl⟩
    by_cases hlt : k < n
    · obtain ⟨x, hx⟩ : ∃ x, os[k]? = some x := ⟨_, List.getElem?_eq_getElem (by rw [HN.out]; exact hlt)⟩
      have hki : (k : Int) < (n : Int) := by omega
      obtain ⟨bb, off, rfl, hbb, c0⟩ := u16c_at (HE.out.next HB.out) hx
      have HX := Lib.hid hx
      have HLT := Lib.hid hlt
      clear hx hlt
      have hb1 : x.toNat < 65536 := x.toNat_lt
      have k0 := HK.out.cell 0
      have k1 := HK.out.cell 1
      have k2 := HK.out.cell 2
      have k3 := HK.out.cell 3
      simp only [List.getElem?_toArray, List.getElem?_cons_succ, List.getElem?_cons_zero] at k0 k1 k2 k3
      clear k0 k2 k3
      by_cases p1 : x.toNat < 1
      · have HF : Hid (rmMay o os = false) := Lib.hid (may_no1 HX.out (by unfold rmOne; rw [decide_eq_false (by omega)]; rfl))
        have d1 : decide ((x.toNat : Int) < 1) = true := decide_eq_true (by omega)
        clear p1
        go_wp2_with fail
        go_quiet (fail)
        all_goals (
          go_wp2
          go_ret
          exact ⟨by rw [HF.out]; rfl, bel18 HB.out _⟩)
      have d1 : decide ((x.toNat : Int) < 1) = false := decide_eq_false (by omega)
      by_cases p2 : 8191 < x.toNat
      · have HF : Hid (rmMay o os = false) := Lib.hid (may_no1 HX.out (by unfold rmOne; rw [decide_eq_false (show ¬ x.toNat ≤ 8191 by omega)]; simp))
        have d2 : decide ((8191 : Int) < (x.toNat : Int)) = true := decide_eq_true (by omega)
        clear p1 p2
        go_wp2_with fail
        go_quiet (fail)
        all_goals (
          go_wp2
          go_ret
          exact ⟨by rw [HF.out]; rfl, bel18 HB.out _⟩)
      have d2 : decide ((8191 : Int) < (x.toNat : Int)) = false := decide_eq_false (by omega)
      by_cases p3 : x = o.me
      · have HF : Hid (rmMay o os = false) := Lib.hid (may_no1 HX.out (by unfold rmOne; rw [p3]; simp))
        have d3 : ((x.toNat : Int) == (o.me.toNat : Int)) = true := by rw [p3]; simp
        clear p1 p2 p3
        go_wp2_with fail
        go_quiet (fail)
        all_goals (
          go_wp2
          go_ret
          exact ⟨by rw [HF.out]; rfl, bel18 HB.out _⟩)
      have d3 : ((x.toNat : Int) == (o.me.toNat : Int)) = false := by
        rw [beq_eq_false_iff_ne]
        intro e
        exact p3 (UInt16.toNat_inj.1 (by omega))
      have H1 : Hid (rmOne o x = true) := Lib.hid (by unfold rmOne; rw [decide_eq_true (show 1 ≤ x.toNat by omega), decide_eq_true (show x.toNat ≤ 8191 by omega)]; simpa using p3)
      clear p1 p2 p3
      go_wp2_with fail
      go_quiet (fail)
      all_goals (
        clear d1 d2 d3 c0 k1
        go_wp2
        go_loopw [6] (fun i wr => ∃ j : Nat, j ≤ k ∧ i = .int .i64 j ∧ Hid (∀ i, i < j → os[i]? ≠ some x) ∧ Hid (Blk wr w.heap.size 24 #[.int .u8 o.lv.toNat, .int .u16 o.me.toNat, .int .u8 o.iv.toNat, .string ⟨o.ma.toArray⟩]) ∧ Hid (Below w.heap.size w wr)) (fun i _ => k - (intOf i).toNat)
        case atStart => exact ⟨0, Nat.zero_le _, rfl, Lib.hid (fun i h => absurd h (Nat.not_lt_zero _)), Lib.hid (HK.out.drewN _), Lib.hid (bel18 HB.out _)⟩
        case round =>
          obtain ⟨j, hj, rfl, HJ, HK2, HB2⟩ := hrel
          by_cases hjt : j < k
          · obtain ⟨y, hy⟩ : ∃ y, os[j]? = some y := ⟨_, List.getElem?_eq_getElem (by have := HLT.out; rw [HN.out]; omega)⟩
            have hji : (j : Int) < (k : Int) := by omega
            have hjn : (j : Int) < (n : Int) := by omega
            obtain ⟨b2, off2, he2, hb2, c1, c2⟩ := u16c_two (HE.out.next HB2.out) hy HX.out
            cases he2
            have HY := Lib.hid hy
            have HJT := Lib.hid hjt
            clear hy hjt
            by_cases p : y = x
            · have HF : Hid (rmMay o os = false) := Lib.hid (may_no2 HX.out (p ▸ HY.out) HJT.out)
              have d1 : ((y.toNat : Int) == (x.toNat : Int)) = true := by rw [p]; simp
              clear p
              go_wp2_with fail
              go_quiet (fail)
              all_goals (
                go_wp2
                go_ret
                exact ⟨by rw [HF.out]; rfl, bel18 HB2.out _⟩)
            · have d1 : ((y.toNat : Int) == (x.toNat : Int)) = false := by
                rw [beq_eq_false_iff_ne]
                intro e
                exact p (UInt16.toNat_inj.1 (by omega))
              have HNE := Lib.hid p
              clear p
              go_wp2_with fail
              go_quiet (fail)
              all_goals (
                go_wp2
                go_roundw
                case rel => exact ⟨j + 1, by have := HJT.out; omega, by go_num, Lib.hid (fun i hi => by
                    rcases Nat.lt_or_ge i j with h | h
                    · exact HJ.out i h
                    · have : i = j := by omega
                      subst this
                      rw [HY.out]
                      intro e
                      exact HNE.out (Option.some.inj e)), Lib.hid (HK2.out.drewN _), Lib.hid (bel18 HB2.out _)⟩
                case measure => have := HJT.out; simp [intOf]; omega)
          · obtain rfl : j = k := by omega
            go_wp2
            go_roundw
            case rel => exact ⟨j + 1, by have := HLT.out; omega, by go_num, Lib.hid (may_step HX.out HS.out.1 HS.out.2 H1.out HJ.out), HK2, HB2⟩
            case measure => have := HLT.out; simp [intOf]; omega)
    · obtain rfl : k = n := by omega
      go_wp2
      go_ret
      exact ⟨by
        have h := HS.out
        rw [List.take_of_length_le (by rw [HN.out]; exact Nat.le_refl _)] at h
        unfold rmMay
        rw [HM.out, h.1, HN.out, decide_eq_true h.2]
        have := H8.out
        simp; omega, HB.out⟩
end Go.Proofs.Ytkmdgpfaaniibaa
