/- Layer 7: the document's In, Out. -/
import Derived.Test.YteiopobkbfancaaRSetOk
import Derived.Test.YteiopobkbfancaaRefPut
namespace Go.Proofs.Yteiopobkbfancaa
open Go.RowKit
set_option linter.unusedVariables false
set_option linter.unusedSimpArgs false
set_option maxRecDepth 100000

theorem vm_in {L : List Vn} {N : Nat} (hN : N ≤ 8) (hM : ∀ x ∈ L, allIn N x.m = true) {v : UInt16} {p : UInt8} (h : has8 (vm L v) p = true) : p.toNat < N := by
  unfold vm vfind at h
  cases hf : L.find? (fun x => x.v == v) with
  | none => rw [hf] at h; simp [has8] at h
  | some x =>
    rw [hf] at h
    exact allIn_has hN (hM x (List.mem_of_find?_eq_some hf)) h
theorem vm_out {L : List Vn} {N : Nat} (hN : N ≤ 8) (hM : ∀ x ∈ L, allIn N x.m = true) {v : UInt16} {p : UInt8} (h : ¬ p.toNat < N) : has8 (vm L v) p = false := by
  cases hq : has8 (vm L v) p
  · rfl
  · exact absurd (vm_in hN hM hq) h
set_option maxHeartbeats 4000000 in
theorem din_any {w : World} {cs : Array Value} {N c : Nat} {A : Option Addr} {L : List Vn} {own : List UInt16} (hv : DTV cs N A c L own) (hE : Els 3 encN w A L) (h8 : L.length ≤ 8) (hN : N ≤ 8) (hM : ∀ x ∈ L, allIn N x.m = true) (p : UInt8) (f : Fr) :
    Calls Try.prog 14 #[.agg cs, .int .u8 p.toNat, FV f] w fun e w' => e = .returned (.tuple #[.int .u16 (vinV N L own p f).toNat, .bool (vinB N L own p f)]) ∧ Below w.heap.size w w' := by
  obtain ⟨w1, hw1⟩ : ∃ w1, (w.alloc (.cells cs 36)).alloc (.cells #[.int .u8 f.d0.toNat, .int .u8 f.d1.toNat, .int .u8 f.d2.toNat, .int .u8 f.d3.toNat, .int .u8 f.d4.toNat, .int .u8 f.d5.toNat, .int .u8 f.s0.toNat, .int .u8 f.s1.toNat, .int .u8 f.s2.toNat, .int .u8 f.s3.toNat, .int .u8 f.s4.toNat, .int .u8 f.s5.toNat, .bool f.tag, .int .u8 f.pri.toNat, .int .u16 f.vid.toNat, .int .u16 f.ty.toNat, .string ⟨f.data.toArray⟩] 27) = w1 := ⟨_, rfl⟩
  obtain ⟨g, hg⟩ : ∃ g, w.heap.size = g := ⟨_, rfl⟩
  have HB := Lib.hid (show Below w.heap.size w w1 by rw [← hw1]; exact ((Below.refl w.heap.size w).alloc (Nat.le_refl _) _).alloc (by simp) _)
  have HD := Lib.hid (show DT w1 g cs N A c L own from ⟨by rw [← hw1, ← hg]; exact (Blk.new w _ _).alloc _, hv⟩)
  have hF : FrA w1 (g + 1) f := by rw [← hw1, ← hg]; have := FrA.new (w.alloc (.cells cs 36)) f; simpa using this
  have HE := Lib.hid (hE.next HB.out)
  have c0 := HD.out.c0
  have c12 := hF.cells.c12
  have c14 := hF.cells.c14
  have hwp : wrap64 (p.toNat : Int) = (p.toNat : Int) := by have := p.toNat_lt; unfold wrap64; omega
  clear hv hE hF
  by_cases hp : p.toNat < N
  · have hpn : ¬ ((N : Int) ≤ (p.toNat : Int)) := by omega
    have hp8 : (p.toNat : Int) < 8 := by omega
    obtain ⟨x, hx⟩ : ∃ x, own[p.toNat]? = some x := ⟨_, List.getElem?_eq_getElem (by have := HD.out.v.own8; omega)⟩
    have hco := HD.out.co hx
    have HT : Hid (∃ v, vtold N own p f = v ∧ ((f.tag = true ∧ f.vid.toNat ≠ 0 ∧ v = f.vid) ∨ ((f.tag = false ∨ (f.tag = true ∧ f.vid.toNat = 0)) ∧ v = x))) := Lib.hid (by
      by_cases hg : f.tag = true ∧ f.vid.toNat ≠ 0
      · exact ⟨_, rfl, .inl ⟨hg.1, hg.2, toldV N own p f hg.1 hg.2⟩⟩
      · have h1 : f.tag = false ∨ (f.tag = true ∧ f.vid.toNat = 0) := by
          cases hq : f.tag
          · exact .inl rfl
          · exact .inr ⟨rfl, by have : ¬ (f.vid.toNat ≠ 0) := fun e => hg ⟨hq, e⟩; omega⟩
        refine ⟨_, rfl, .inr ⟨h1, ?_⟩⟩
        rw [toldO N own p f (h1.imp id (fun h => h.2)), if_pos hp, List.getD_eq_getElem?_getD, hx]
        rfl)
    obtain ⟨v, hv, hway⟩ := HT.out
    have HV : Hid (vinV N L own p f = (if has8 (vm L v) p then v else 0) ∧ vinB N L own p f = has8 (vm L v) p) := Lib.hid (by unfold vinV vinB; rw [hv]; exact ⟨rfl, rfl⟩)
    have H8 : Hid (L.length ≤ 1000) := Lib.hid (by omega)
    clear hv HT hx hp h8 hM hN
    rcases hway with ⟨h1, h2, rfl⟩ | ⟨h1 | ⟨h1, h2⟩, rfl⟩
    · obtain ⟨q, hq⟩ : ∃ q, f.vid.toNat = q := ⟨_, rfl⟩
      have HQ := Lib.hid hq
      rw [h1] at c12
      rw [hq] at c14 h2
      have hq0 : (0 : Int) < (q : Int) := by omega
      clear h1 hq
      go_enter Try.func14, Try.ntmps14
      go_upto_region 1 with fail
      clear hw1 hg
      go_wp2_with (refine wpList_load_dt 3 rfl (by kernel_rfl) g rfl _ HD.out.blk HD.out.v.sz ?_)
      rw [← HQ.out]
      refine (dmem_any HD.out.v HE.out H8.out f.vid).mono ?_
      rintro e w2 ⟨rfl, hb⟩
      have HB2 : Hid (Below w.heap.size w w2) := Lib.hid (HB.out.trans (hb.mono HB.out.size))
      clear hb HD HE HB c12 c14 hco c0
      go_wp2_with fail
      refine (has7_any (vm L (f.vid)) p).mono ?_
      cases hq : has8 (vm L (f.vid)) p
      · rw [hq] at HV
        clear hq
        rintro e w3 ⟨rfl, rfl⟩
        go_wp2
        rw [HV.out.1, HV.out.2]
        exact bodyPost_ret (v := .tuple #[.int .u16 0, .bool false]) (by simp [results, Try.results14, go_sem]) rfl ⟨rfl, HB2.out⟩
      · rw [hq] at HV
        clear hq
        rintro e w3 ⟨rfl, rfl⟩
        go_wp2
        rw [HV.out.1, HV.out.2]
        exact bodyPost_ret (v := .tuple #[.int .u16 (f.vid).toNat, .bool true]) (by simp [results, Try.results14, go_sem]) rfl ⟨rfl, HB2.out⟩
    · rw [h1] at c12
      clear h1
      go_enter Try.func14, Try.ntmps14
      go_upto_region 1 with fail
      clear hw1 hg
      go_wp2_with (refine wpList_load_dt 3 rfl (by kernel_rfl) g rfl _ HD.out.blk HD.out.v.sz ?_)
      refine (dmem_any HD.out.v HE.out H8.out v).mono ?_
      rintro e w2 ⟨rfl, hb⟩
      have HB2 : Hid (Below w.heap.size w w2) := Lib.hid (HB.out.trans (hb.mono HB.out.size))
      clear hb HD HE HB c12 c14 hco c0
      go_wp2_with fail
      refine (has7_any (vm L (v)) p).mono ?_
      cases hq : has8 (vm L (v)) p
      · rw [hq] at HV
        clear hq
        rintro e w3 ⟨rfl, rfl⟩
        go_wp2
        rw [HV.out.1, HV.out.2]
        exact bodyPost_ret (v := .tuple #[.int .u16 0, .bool false]) (by simp [results, Try.results14, go_sem]) rfl ⟨rfl, HB2.out⟩
      · rw [hq] at HV
        clear hq
        rintro e w3 ⟨rfl, rfl⟩
        go_wp2
        rw [HV.out.1, HV.out.2]
        exact bodyPost_ret (v := .tuple #[.int .u16 (v).toNat, .bool true]) (by simp [results, Try.results14, go_sem]) rfl ⟨rfl, HB2.out⟩
    · rw [h1] at c12
      rw [h2] at c14
      clear h1 h2
      go_enter Try.func14, Try.ntmps14
      go_upto_region 1 with fail
      clear hw1 hg
      go_wp2_with (refine wpList_load_dt 3 rfl (by kernel_rfl) g rfl _ HD.out.blk HD.out.v.sz ?_)
      refine (dmem_any HD.out.v HE.out H8.out v).mono ?_
      rintro e w2 ⟨rfl, hb⟩
      have HB2 : Hid (Below w.heap.size w w2) := Lib.hid (HB.out.trans (hb.mono HB.out.size))
      clear hb HD HE HB c12 c14 hco c0
      go_wp2_with fail
      refine (has7_any (vm L (v)) p).mono ?_
      cases hq : has8 (vm L (v)) p
      · rw [hq] at HV
        clear hq
        rintro e w3 ⟨rfl, rfl⟩
        go_wp2
        rw [HV.out.1, HV.out.2]
        exact bodyPost_ret (v := .tuple #[.int .u16 0, .bool false]) (by simp [results, Try.results14, go_sem]) rfl ⟨rfl, HB2.out⟩
      · rw [hq] at HV
        clear hq
        rintro e w3 ⟨rfl, rfl⟩
        go_wp2
        rw [HV.out.1, HV.out.2]
        exact bodyPost_ret (v := .tuple #[.int .u16 (v).toNat, .bool true]) (by simp [results, Try.results14, go_sem]) rfl ⟨rfl, HB2.out⟩
  · have hq : has8 (vm L (vtold N own p f)) p = false := vm_out hN hM hp
    have HV : Hid (vinV N L own p f = 0 ∧ vinB N L own p f = false) := Lib.hid (by unfold vinV vinB; rw [hq]; exact ⟨rfl, rfl⟩)
    have hpn : (N : Int) ≤ (p.toNat : Int) := by omega
    clear hq hp
    go_enter Try.func14, Try.ntmps14
    go_upto_region 1 with fail
    clear hw1 hg
    go_wp2
    rw [HV.out.1, HV.out.2]
    exact bodyPost_ret (v := .tuple #[.int .u16 0, .bool false]) (by simp [results, Try.results14, go_sem]) rfl ⟨rfl, HB.out⟩
end Go.Proofs.Yteiopobkbfancaa
