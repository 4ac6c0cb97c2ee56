/- Layer 18: the document's Kind. -/
import Derived.Test.YtkmdgpfaaniibaaZzR18
import Derived.BigQuiet
import Derived.Deep.QuietTactic
import Derived.Deep.DeepCutAuto
namespace Go.Proofs.Ytkmdgpfaaniibaa
open Go.RowKit
set_option linter.unusedVariables false
set_option linter.unusedSimpArgs false
set_option maxRecDepth 100000

theorem any_take {α : Type} {p : α → Bool} {l : List α} {k : Nat} {x : α} (hx : l[k]? = some x) (h : (l.take k).any p = false) (hp : p x = false) : (l.take (k + 1)).any p = false := by
  obtain ⟨hk, he⟩ := List.getElem?_eq_some_iff.1 hx
  rw [List.take_succ_eq_append_getElem hk, he, List.any_append, h]
  simp [hp]
theorem any_yes {α : Type} {p : α → Bool} {l : List α} {k : Nat} {x : α} (hx : l[k]? = some x) (hp : p x = true) : l.any p = true := List.any_eq_true.2 ⟨x, List.mem_of_getElem? hx, hp⟩
set_option maxHeartbeats 4000000 in
theorem kind18_any (o : On) (A : Option Addr) (k : Nat) (os : List UInt16) (c : Ck) (w : World) (hl : c.a.length ≤ 1000000) (hos : os.length ≤ 1000000) (hE : Els 1 u16c w A os) :
    Calls Try.prog 38 #[.agg #[.int .u8 o.lv.toNat, .int .u16 o.me.toNat, .int .u8 o.iv.toNat, .string ⟨o.ma.toArray⟩], .slice A os.length k, .agg #[.int .u8 c.l.toNat, .bool c.r, .int .u8 c.i.toNat, .int .u32 c.q.toNat, .int .u16 c.m.toNat, .string ⟨c.a.toArray⟩]] w fun e w' => e = .returned (.int .i64 (rmKind o os c : Nat)) ∧ Below w.heap.size w w' := by
  have KM := Lib.hid (fun w => refmay13_any c w hl)
  have HBA : Hid (Below w.heap.size w ((w.alloc (.cells #[.int .u8 o.lv.toNat, .int .u16 o.me.toNat, .int .u8 o.iv.toNat, .string ⟨o.ma.toArray⟩] 24)).alloc (.cells #[.int .u8 c.l.toNat, .bool c.r, .int .u8 c.i.toNat, .int .u32 c.q.toNat, .int .u16 c.m.toNat, .string ⟨c.a.toArray⟩] 40))) := Lib.hid (((Below.refl _ _).alloc (Nat.le_refl _) _).alloc (by simp) _)
  have HKA : Hid (Blk ((w.alloc (.cells #[.int .u8 o.lv.toNat, .int .u16 o.me.toNat, .int .u8 o.iv.toNat, .string ⟨o.ma.toArray⟩] 24)).alloc (.cells #[.int .u8 c.l.toNat, .bool c.r, .int .u8 c.i.toNat, .int .u32 c.q.toNat, .int .u16 c.m.toNat, .string ⟨c.a.toArray⟩] 40)) w.heap.size 24 #[.int .u8 o.lv.toNat, .int .u16 o.me.toNat, .int .u8 o.iv.toNat, .string ⟨o.ma.toArray⟩]) := Lib.hid ((Blk.new _ _ _).alloc _)
  have HCA : Hid (Blk ((w.alloc (.cells #[.int .u8 o.lv.toNat, .int .u16 o.me.toNat, .int .u8 o.iv.toNat, .string ⟨o.ma.toArray⟩] 24)).alloc (.cells #[.int .u8 c.l.toNat, .bool c.r, .int .u8 c.i.toNat, .int .u32 c.q.toNat, .int .u16 c.m.toNat, .string ⟨c.a.toArray⟩] 40)) (w.heap.size + 1) 40 #[.int .u8 c.l.toNat, .bool c.r, .int .u8 c.i.toNat, .int .u32 c.q.toNat, .int .u16 c.m.toNat, .string ⟨c.a.toArray⟩]) := Lib.hid (by
    have := Blk.new (w.alloc (.cells #[.int .u8 o.lv.toNat, .int .u16 o.me.toNat, .int .u8 o.iv.toNat, .string ⟨o.ma.toArray⟩] 24)) 40 #[.int .u8 c.l.toNat, .bool c.r, .int .u8 c.i.toNat, .int .u32 c.q.toNat, .int .u16 c.m.toNat, .string ⟨c.a.toArray⟩]
    simpa using this)
  have HE := Lib.hid hE
  obtain ⟨n, hn⟩ : ∃ n, os.length = n := ⟨_, rfl⟩
  have HN := Lib.hid hn
  obtain ⟨M, hM⟩ : ∃ M, ckM c = M := ⟨_, rfl⟩
  obtain ⟨D, hD⟩ : ∃ D, (c.a == o.ma) = D := ⟨_, rfl⟩
  have hD2 := tl_strbeq c.a o.ma
  rw [hD] at hD2
  rw [hM] at KM
  have HM := Lib.hid hM
  have HD := Lib.hid hD
  have HD2 := Lib.hid hD2
  obtain ⟨R, hR⟩ : ∃ R, rmKind o os c = R := ⟨_, rfl⟩
  have HR := Lib.hid hR
  rw [hn] at hos
  rw [hn, hR]
  clear hE hn hl hM hD hD2 hR
  have hb1 := o.lv.toNat_lt
  have hb2 := c.l.toNat_lt
  have k0 := HKA.out.cell 0
  have k1 := HKA.out.cell 1
  have k2 := HKA.out.cell 2
  have k3 := HKA.out.cell 3
  simp only [List.getElem?_toArray, List.getElem?_cons_succ, List.getElem?_cons_zero] at k0 k1 k2 k3
  have c0 := HCA.out.cell 0
  have c1 := HCA.out.cell 1
  have c2 := HCA.out.cell 2
  have c3 := HCA.out.cell 3
  have c4 := HCA.out.cell 4
  have c5 := HCA.out.cell 5
  simp only [List.getElem?_toArray, List.getElem?_cons_succ, List.getElem?_cons_zero] at c0 c1 c2 c3 c4 c5
  go_enter Try.func38, Try.ntmps38
  go_wp2_with fail
  refine (KM.out _).mono ?_
  rintro r w1 ⟨rfl, hb⟩
  have HB1 : Hid (Below w.heap.size w w1) := Lib.hid (HBA.out.trans (hb.mono HBA.out.size))
  have HK1 := Lib.hid (HKA.out.below hb HKA.out.lt)
  have HC1 := Lib.hid (HCA.out.below hb HCA.out.lt)
  clear hb HBA HKA HCA k0 k1 k2 k3 c0 c1 c2 c3 c4 c5
  have k0 := HK1.out.cell 0
  have k1 := HK1.out.cell 1
  have k2 := HK1.out.cell 2
  have k3 := HK1.out.cell 3
  simp only [List.getElem?_toArray, List.getElem?_cons_succ, List.getElem?_cons_zero] at k0 k1 k2 k3
  have c0 := HC1.out.cell 0
  have c1 := HC1.out.cell 1
  have c2 := HC1.out.cell 2
  have c3 := HC1.out.cell 3
  have c4 := HC1.out.cell 4
  have c5 := HC1.out.cell 5
  simp only [List.getElem?_toArray, List.getElem?_cons_succ, List.getElem?_cons_zero] at c0 c1 c2 c3 c4 c5
  cases M with
  | false =>
    go_wp2
    go_ret
    exact ⟨by rw [← HR.out]; unfold rmKind; rw [HM.out]; rfl, HB1.out⟩
  | true =>
  by_cases h1 : o.lv.toNat < c.l.toNat
  · have d1 : (o.lv.toNat : Int) < (c.l.toNat : Int) := by omega
    have H1 := Lib.hid h1
    clear h1
    go_wp2
    go_ret
    exact ⟨by rw [← HR.out]; unfold rmKind; rw [decide_eq_true H1.out]; simp, HB1.out⟩
  have d1 : ¬ (o.lv.toNat : Int) < (c.l.toNat : Int) := by omega
  by_cases h2 : c.l.toNat < o.lv.toNat
  · have d2 : (c.l.toNat : Int) < (o.lv.toNat : Int) := by omega
    have H1 := Lib.hid h1
    have H2 := Lib.hid h2
    clear h1 h2
    go_wp2
    go_ret
    exact ⟨by rw [← HR.out]; unfold rmKind; rw [decide_eq_false H1.out, decide_eq_true H2.out, HM.out]; simp, HB1.out⟩
  have d2 : ¬ (c.l.toNat : Int) < (o.lv.toNat : Int) := by omega
  have H1 := Lib.hid h1
  have H2 := Lib.hid h2
  clear h1 h2
  cases D with
  | false =>
    have hD := HD.out
    have hD2 := HD2.out
    go_wp2
    go_ret
    exact ⟨by rw [← HR.out]; unfold rmKind; rw [decide_eq_false H1.out, HM.out, HD.out]; simp, HB1.out⟩
  | true =>
  have hD := HD.out
  have hD2 := HD2.out
  have HR2 : Hid ((if os.any (fun x => x == c.m && c.i == o.iv) then 1 else 2) = R) := Lib.hid (by
    rw [← HR.out]; unfold rmKind; rw [decide_eq_false H1.out, decide_eq_false H2.out, HM.out, HD.out]; simp)
  clear HR
  go_wp2
  clear hD hD2 k0 k1 k2 k3 c0 c1 c2 c3 c4 c5 d1 d2
  go_loopw [7] (fun i wr => ∃ k : Nat, k ≤ n ∧ i = .int .i64 k ∧ Hid ((os.take k).any (fun x => x == c.m && c.i == o.iv) = false) ∧ Hid (Blk wr w.heap.size 24 #[.int .u8 o.lv.toNat, .int .u16 o.me.toNat, .int .u8 o.iv.toNat, .string ⟨o.ma.toArray⟩]) ∧ Hid (Blk wr (w.heap.size + 1) 40 #[.int .u8 c.l.toNat, .bool c.r, .int .u8 c.i.toNat, .int .u32 c.q.toNat, .int .u16 c.m.toNat, .string ⟨c.a.toArray⟩]) ∧ Hid (Below w.heap.size w wr)) (fun i _ => n - (intOf i).toNat)
  case atStart => exact ⟨0, Nat.zero_le _, rfl, Lib.hid rfl, HK1, HC1, HB1⟩
  case round =>
    obtain ⟨j, hj, rfl, HS, HK, HC, HB⟩ := hrel
    clear HK1 HC1 HB1
    by_cases hlt : j < n
    · obtain ⟨x, hx⟩ : ∃ x, os[j]? = some x := ⟨_, List.getElem?_eq_getElem (by rw [HN.out]; exact hlt)⟩
      have hki : (j : Int) < (n : Int) := by omega
      obtain ⟨bb, off, rfl, hbb, e0⟩ := u16c_at (HE.out.next HB.out) hx
      have HX := Lib.hid hx
      have HLT := Lib.hid hlt
      clear hx hlt
      have k0 := HK.out.cell 0
      have k1 := HK.out.cell 1
      have k2 := HK.out.cell 2
      have k3 := HK.out.cell 3
      simp only [List.getElem?_toArray, List.getElem?_cons_succ, List.getElem?_cons_zero] at k0 k1 k2 k3
      have c0 := HC.out.cell 0
      have c1 := HC.out.cell 1
      have c2 := HC.out.cell 2
      have c3 := HC.out.cell 3
      have c4 := HC.out.cell 4
      have c5 := HC.out.cell 5
      simp only [List.getElem?_toArray, List.getElem?_cons_succ, List.getElem?_cons_zero] at c0 c1 c2 c3 c4 c5
      clear k0 k1 k3 c0 c1 c3 c5
      have key : ∀ a b : UInt16, ((a.toNat : Int) == (b.toNat : Int)) = (a == b) := fun a b => by
        rw [Bool.eq_iff_iff]; simp only [beq_iff_eq]
        exact ⟨fun e => UInt16.toNat_inj.1 (by omega), fun e => by rw [e]⟩
      have key8 : ∀ a b : UInt8, ((a.toNat : Int) == (b.toNat : Int)) = (a == b) := fun a b => by
        rw [Bool.eq_iff_iff]; simp only [beq_iff_eq]
        exact ⟨fun e => UInt8.toNat_inj.1 (by omega), fun e => by rw [e]⟩
      have p1 := key x c.m
      have p2 := key8 c.i o.iv
      clear key key8
      obtain ⟨q1, hq1⟩ : ∃ q, (x == c.m) = q := ⟨_, rfl⟩
      obtain ⟨q2, hq2⟩ : ∃ q, (c.i == o.iv) = q := ⟨_, rfl⟩
      rw [hq1] at p1
      rw [hq2] at p2
      have HQ := Lib.hid (And.intro hq1 hq2)
      clear hq1 hq2
      cases q1 with
      | false =>
        go_wp2_with fail
        go_quiet (fail)
        all_goals (
          go_wp2
          go_roundw
          case rel => exact ⟨j + 1, by have := HLT.out; omega, by go_num, Lib.hid (any_take HX.out HS.out (by simp only [HQ.out.1]; rfl)), Lib.hid (HK.out.drewN _), Lib.hid (HC.out.drewN _), Lib.hid (bel18 HB.out _)⟩
          case measure => have := HLT.out; simp [intOf]; omega)
      | true =>
      cases q2 with
      | false =>
        go_wp2_with fail
        go_quiet (fail)
        all_goals (
          go_wp2
          go_roundw
          case rel => exact ⟨j + 1, by have := HLT.out; omega, by go_num, Lib.hid (any_take HX.out HS.out (by simp only [HQ.out.2]; simp)), Lib.hid (HK.out.drewN _), Lib.hid (HC.out.drewN _), Lib.hid (bel18 HB.out _)⟩
          case measure => have := HLT.out; simp [intOf]; omega)
      | true =>
        go_wp2_with fail
        go_quiet (fail)
        all_goals (
          go_wp2
          go_ret
          exact ⟨by rw [← HR2.out, if_pos (any_yes HX.out (by simp only [HQ.out.1, HQ.out.2]; rfl))]; rfl, bel18 HB.out _⟩)
    · obtain rfl : j = n := by omega
      go_wp2
      go_ret
      exact ⟨by
        have h := HS.out
        rw [List.take_of_length_le (by rw [HN.out]; exact Nat.le_refl _)] at h
        rw [← HR2.out, h]; rfl, HB.out⟩
end Go.Proofs.Ytkmdgpfaaniibaa
