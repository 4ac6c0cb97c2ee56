/- Layer 18: the document's Rdi. -/
import Derived.Test.YtkmdgpfaaniibaaZzL18
namespace Go.Proofs.Ytkmdgpfaaniibaa
open Go.RowKit
set_option linter.unusedVariables false
set_option linter.unusedSimpArgs false
set_option maxRecDepth 100000

theorem rdi_take {o : On} {os : List UInt16} {l : List Hd} {x : UInt16} {k : Nat} {e : Hd} (he : l[k]? = some e) : rdiL o os (l.take (k + 1)) x = rdG o os x (rdiL o os (l.take k) x) e := by
  obtain ⟨hk, hx⟩ := List.getElem?_eq_some_iff.1 he
  rw [List.take_succ_eq_append_getElem hk, hx, rdiL_snoc]
set_option maxHeartbeats 8000000 in
theorem rdi18_any (o : On) (A B : Option Addr) (ca cb : Nat) (os : List UInt16) (l : List Hd) (y : UInt16) (w : World) (hos : os.length ≤ 1000000) (hll : l.length ≤ 1000000)
    (hat : ∀ e ∈ l, e.2.a.length ≤ 1000000) (hE : Els 1 u16c w A os) (hEl : Els 7 hdE w B l) :
    Calls Try.prog 30 #[.agg #[.int .u8 o.lv.toNat, .int .u16 o.me.toNat, .int .u8 o.iv.toNat, .string ⟨o.ma.toArray⟩], .slice A os.length ca, .slice B l.length cb, .int .u16 y.toNat] w fun e w' => e = .returned (.bool (rdiL o os l y)) ∧ Below w.heap.size w w' := by
  have HBA : Hid (Below w.heap.size w (w.alloc (.cells #[.int .u8 o.lv.toNat, .int .u16 o.me.toNat, .int .u8 o.iv.toNat, .string ⟨o.ma.toArray⟩] 24))) := Lib.hid ((Below.refl _ _).alloc (Nat.le_refl _) _)
  have HKA : Hid (Blk (w.alloc (.cells #[.int .u8 o.lv.toNat, .int .u16 o.me.toNat, .int .u8 o.iv.toNat, .string ⟨o.ma.toArray⟩] 24)) w.heap.size 24 #[.int .u8 o.lv.toNat, .int .u16 o.me.toNat, .int .u8 o.iv.toNat, .string ⟨o.ma.toArray⟩]) := Lib.hid (Blk.new _ _ _)
  have HO := Lib.hid hE
  have HE := Lib.hid hEl
  obtain ⟨n, hn⟩ : ∃ n, l.length = n := ⟨_, rfl⟩
  have HN := Lib.hid hn
  have HATT := Lib.hid hat
  have hol : Hid (os.length ≤ 1000000) := Lib.hid hos
  rw [hn] at hll ⊢
  clear hE hEl hn hat hos
  go_enter Try.func30, Try.ntmps30
  go_wp2
  go_loopw [9] (fun i wr => ∃ k : Nat, k ≤ n ∧ i = .int .i64 ((k : Int) - 1) ∧ Hid (rdiL o os l y = rdiL o os (l.take k) y) ∧ Hid (Blk wr w.heap.size 24 #[.int .u8 o.lv.toNat, .int .u16 o.me.toNat, .int .u8 o.iv.toNat, .string ⟨o.ma.toArray⟩]) ∧ Hid (Below w.heap.size w wr)) (fun i _ => (intOf i + 1).toNat)
  case atStart => exact ⟨n, Nat.le_refl _, rfl, Lib.hid (by rw [List.take_of_length_le (by rw [HN.out]; exact Nat.le_refl _)]), HKA, HBA⟩
  case round =>
    obtain ⟨k, hj, rfl, HS, HK, HB⟩ := hrel
    clear HKA HBA
    cases k with
    | zero =>
      go_wp2
      go_ret
      exact ⟨by rw [HS.out]; rfl, HB.out⟩
    | succ j =>
      have hlt : j < n := by omega
      obtain ⟨x, hx⟩ : ∃ x, l[j]? = some x := ⟨_, List.getElem?_eq_getElem (by rw [HN.out]; exact hlt)⟩
      have hki : (j : Int) < (n : Int) := by omega
      have hj1 : ((j + 1 : Nat) : Int) - 1 = (j : Int) := by omega
      rw [hj1]
      obtain ⟨bb, off, rfl, hbb, c0, c1, c2, c3, c4, c5, c6⟩ := hd_at (HE.out.next HB.out) hx
      have hax := HATT.out x (List.mem_of_getElem? hx)
      have HX := Lib.hid hx
      have HLT := Lib.hid hlt
      have KK := Lib.hid (fun p : BelW wr => kind18_any o A ca os x.2 p.to hax hol.out (HO.out.next (HB.out.trans (p.h.mono HB.out.size))))
      obtain ⟨K, hK⟩ : ∃ K, rmKind o os x.2 = K := ⟨_, rfl⟩
      rw [hK] at KK
      have HKK := Lib.hid hK
      clear hx hlt hK hax hj1
      have k0 := HK.out.cell 0
      have k1 := HK.out.cell 1
      have k2 := HK.out.cell 2
      have k3 := HK.out.cell 3
      simp only [List.getElem?_toArray, List.getElem?_cons_succ, List.getElem?_cons_zero] at k0 k1 k2 k3
      have g0 := fun p : BelW wr => p.cell c0
      have g1 := fun p : BelW wr => p.cell c1
      have g2 := fun p : BelW wr => p.cell c2
      have g3 := fun p : BelW wr => p.cell c3
      have g4 := fun p : BelW wr => p.cell c4
      have g5 := fun p : BelW wr => p.cell c5
      have g6 := fun p : BelW wr => p.cell c6
      have gk0 := fun p : BelW wr => p.cell k0
      have gk1 := fun p : BelW wr => p.cell k1
      have gk2 := fun p : BelW wr => p.cell k2
      have gk3 := fun p : BelW wr => p.cell k3
      by_cases q1 : K = 1
      · have d1 : ((K : Int) == 1) = true := by rw [q1]; rfl
        by_cases q3 : x.2.m = y
        · have d3 : ((x.2.m.toNat : Int) == (y.toNat : Int)) = true := by rw [q3]; simp
          have HQ3 := Lib.hid (And.intro q1 q3)
          clear q1 q3
          go_wp2_with fail
          refine wp_region_quiet_below (by kernel_rfl) (by kernel_rfl) ?_
          repeat (first | go_big_quiet_step ((go_at_call 38; exact BelW.calls (KK.out _))) | quiet_step ((go_at_call 38; exact BelW.calls (KK.out _))))
          refine wpQuiet_nil ?_
          intro wq hq
          have hq := belw_out hq
          obtain ⟨b3, off3, hA3, hb3, f0, f1, f2, f3, f4, f5, f6⟩ := hd_at (HE.out.next (HB.out.trans (hq.mono HB.out.size))) HX.out
          cases hA3
          have HW := Lib.hid (HB.out.trans (hq.mono HB.out.size))
          clear hq c0 c1 c2 c3 c4 c5 c6 g0 g1 g2 g3 g4 g5 g6 k0 k1 k2 k3 gk0 gk1 gk2 gk3
          go_wp2
          go_ret
          exact ⟨by rw [HS.out, rdi_take HX.out]; unfold rdG; rw [show rmHit o os 1 y x = true by unfold rmHit; simp only [HKK.out, HQ3.out.1, HQ3.out.2]; simp]; rfl, HW.out⟩
        · have d3 : ((x.2.m.toNat : Int) == (y.toNat : Int)) = false := by
            rw [beq_eq_false_iff_ne]
            intro e
            exact q3 (UInt16.toNat_inj.1 (by omega))
          have HQ3 := Lib.hid (And.intro q1 q3)
          clear q1 q3
          go_wp2_with fail
          refine wp_region_quiet_below (by kernel_rfl) (by kernel_rfl) ?_
          repeat (first | go_big_quiet_step ((go_at_call 38; exact BelW.calls (KK.out _))) | quiet_step ((go_at_call 38; exact BelW.calls (KK.out _))))
          refine wpQuiet_nil ?_
          intro wq hq
          have hq := belw_out hq
          go_wp2
          go_roundw
          case rel => exact ⟨j, by have := HLT.out; omega, by go_num, Lib.hid (by rw [HS.out, rdi_take HX.out]; unfold rdG; rw [show rmHit o os 1 y x = false by unfold rmHit; simp only [HKK.out]; simp [HQ3.out.2]]; rfl), Lib.hid (HK.out.below hq HK.out.lt), Lib.hid (HB.out.trans (hq.mono HB.out.size))⟩
          case measure => simp [intOf]
      · have d1 : ((K : Int) == 1) = false := by rw [beq_eq_false_iff_ne]; omega
        have HQ3 := Lib.hid q1
        clear q1
        go_wp2_with fail
        refine wp_region_quiet_below (by kernel_rfl) (by kernel_rfl) ?_
        repeat (first | go_big_quiet_step ((go_at_call 38; exact BelW.calls (KK.out _))) | quiet_step ((go_at_call 38; exact BelW.calls (KK.out _))))
        refine wpQuiet_nil ?_
        intro wq hq
        have hq := belw_out hq
        go_wp2
        go_roundw
        case rel => exact ⟨j, by have := HLT.out; omega, by go_num, Lib.hid (by rw [HS.out, rdi_take HX.out]; unfold rdG; rw [show rmHit o os 1 y x = false by unfold rmHit; simp only [HKK.out]; simp [HQ3.out]]; rfl), Lib.hid (HK.out.below hq HK.out.lt), Lib.hid (HB.out.trans (hq.mono HB.out.size))⟩
        case measure => simp [intOf]
end Go.Proofs.Ytkmdgpfaaniibaa
