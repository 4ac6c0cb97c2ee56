/- CfmBack: what is put is taken, whatever is behind it, and not when it is cut; its head is that of its bytes: for every message, text and cut, without a condition of ours. -/
import Derived.Test.YtjilolehcboihaaOpenPd
import Derived.OpenShut
import Derived.ShutString
import Derived.ChangeOld
import Derived.Deep.DeepCutAuto
import Derived.Deep.RegionHeld3
namespace Go.Proofs.Ytjilolehcboihaa.cfmBack
open Go.ChangeShapes Go.WideShapes Go.ChangeAt Go.RowKit
open Go.ChangeMaps (open_string shut_string)
set_option linter.unusedVariables false
set_option linter.unusedSimpArgs false
set_option maxRecDepth 100000

set_option maxRecDepth 100000 in
set_option maxHeartbeats 4000000 in
theorem walkL (W : World) (A : Option Addr) (c : Nat) (p : Pd) (t : List UInt8) (cu : UInt16) (hE : Els 2 tlV W A p.t) :
    Calls Try.prog 5 #[PdV p A c, .string ⟨t.toArray⟩, .int .u16 cu.toNat] W fun e w' => e = .returned (.bool true) ∧ Below W.heap.size W w' := by
  show Calls _ _ #[.agg #[.int .u8 p.l.toNat, .int .u8 p.o.toNat, .int .u8 p.g.toNat, .string ⟨p.x.toArray⟩, .slice A p.t.length c], .string ⟨t.toArray⟩, .int .u16 cu.toNat] _ _
  have HB0 : Hid (Below W.heap.size W (W.alloc (.cells #[.int .u8 p.l.toNat, .int .u8 p.o.toNat, .int .u8 p.g.toNat, .string ⟨p.x.toArray⟩, .slice A p.t.length c] 24))) := Lib.hid ((Below.refl _ _).alloc (Nat.le_refl _) _)
  have HE0 := Lib.hid (hE.next HB0.out)
  have HK0 : Hid (Blk (W.alloc (.cells #[.int .u8 p.l.toNat, .int .u8 p.o.toNat, .int .u8 p.g.toNat, .string ⟨p.x.toArray⟩, .slice A p.t.length c] 24)) W.heap.size 24 #[.int .u8 p.l.toNat, .int .u8 p.o.toNat, .int .u8 p.g.toNat, .string ⟨p.x.toArray⟩, .slice A p.t.length c]) := Lib.hid (Blk.new W _ _)
  have KT := Lib.hid (fun w h => great12_any A c p w h)
  have HGN := Lib.hid (fun h => @pdG_no p h)
  obtain ⟨q, hq⟩ : ∃ q, pdG p = q := ⟨_, rfl⟩
  rw [hq] at KT HGN
  obtain ⟨n, hn⟩ : ∃ n, p.t.length = n := ⟨_, rfl⟩
  have HN := Lib.hid hn
  cases q
  · have hg := HGN.out rfl
    by_cases hs : 1000 < t.length
    · have p0 : (1000 : Int) < (t.length : Int) := by omega
      simp only [PdV, hn] at KT HK0 HB0 HE0
      rw [hn]
      clear hE hn hq HGN hg hs
      go_enter Try.func5, Try.ntmps5
      go_wp2_with fail
      refine (KT.out _ HE0.out).mono ?_
      rintro r w1 ⟨rfl, hb1⟩
      have HB1 : Hid (Below W.heap.size W w1) := Lib.hid (HB0.out.trans (hb1.mono HB0.out.size))
      have HK1 := Lib.hid (HK0.out.below hb1 HK0.out.lt)
      have HE1 := Lib.hid (HE0.out.next hb1)
      clear hb1 HK0 HE0 HB0
      go_wp2_with fail
      refine (wakes12 _).mono ?_
      rintro r w5 ⟨rfl, hb5⟩
      have HB5 : Hid (Below W.heap.size W w5) := Lib.hid (HB1.out.trans (hb5.mono HB1.out.size))
      clear hb5
      go_wp2
      go_ret
      exact ⟨rfl, HB5.out⟩
    · have p0 : ¬ (1000 : Int) < (t.length : Int) := by omega
      have KO := Lib.hid (fun A c w (h : Hid (Els 2 tlV w A p.t)) => of12_any A c p w h.out (by omega))
      have KP := Lib.hid (fun B d w h => cfput_any B d p w h (by omega))
      have KS := Lib.hid (fun A B c d w (h : Hid (Els 2 tlV w A p.t)) (h' : Hid (Els 2 tlV w B p.t)) => same12_any A B c d p w h.out h'.out (by omega))
      have hvl := pdP_len p
      have HV5 : Hid (pdE p = 0 → 5 ≤ (pdP p).length) := Lib.hid (fun h => by
        rw [pdP_ok h]
        have : 0 < (tlP p.t).length := by unfold tlP; rw [if_pos (pdE_ok h).2.2]; simp
        simp
        omega)
      have HNO := Lib.hid (fun h => @pd_no p h)
      obtain ⟨V, hV⟩ : ∃ V, pdP p = V := ⟨_, rfl⟩
      obtain ⟨E, hEr⟩ : ∃ E, pdE p = E := ⟨_, rfl⟩
      have HV := Lib.hid hV
      rw [hV, hEr] at KP HNO HV5
      rw [hV] at hvl
      simp only [PdV, hn] at KT KO KP KS HK0 HB0 HE0
      rw [hn]
      have HTL := Lib.hid (show t.length ≤ 1000 by omega)
      have hvl2 : V.length ≤ 29920 := by omega
      clear hE hV hn hq HGN hs hvl hg
      go_enter Try.func5, Try.ntmps5
      go_wp2_with fail
      refine (KT.out _ HE0.out).mono ?_
      rintro r w1 ⟨rfl, hb1⟩
      have HB1 : Hid (Below W.heap.size W w1) := Lib.hid (HB0.out.trans (hb1.mono HB0.out.size))
      have HK1 := Lib.hid (HK0.out.below hb1 HK0.out.lt)
      have HE1 := Lib.hid (HE0.out.next hb1)
      clear hb1 HK0 HE0 HB0
      have k0 := HK1.out.cell 0
      have k1 := HK1.out.cell 1
      have k2 := HK1.out.cell 2
      have k3 := HK1.out.cell 3
      have k4 := HK1.out.cell 4
      simp only [List.getElem?_toArray, List.getElem?_cons_succ, List.getElem?_cons_zero] at k0 k1 k2 k3 k4
      go_wp2_with fail
      refine (KO.out _ _ _ HE1).mono ?_
      rintro r w2 ⟨B, d, rfl, hF, hA, hb2⟩
      have HF2 := Lib.hid hF
      have HB2 : Hid (Below W.heap.size W w2) := Lib.hid (HB1.out.trans (hb2.mono HB1.out.size))
      have HK2 := Lib.hid (HK1.out.below hb2 HK1.out.lt)
      have HE2 := Lib.hid (HE1.out.next hb2)
      clear hF hA hb2 HK1 HE1 HB1 k0 k1 k2 k3 k4
      go_wp2_with fail
      refine (KP.out _ _ _ HF2.out).mono ?_
      rintro r w2b ⟨rfl, hb⟩
      have HB2b : Hid (Below W.heap.size W w2b) := Lib.hid (HB2.out.trans (hb.mono HB2.out.size))
      have HK2b := Lib.hid (HK2.out.below hb HK2.out.lt)
      have HE2b := Lib.hid (HE2.out.next hb)
      clear hb HK2 HE2 HB2 HF2 KP KT
      by_cases h0 : E = 0
      · subst h0
        have HE0 := Lib.hid hEr
        have hv5 := HV5.out rfl
        have hbk := cf_back hEr t
        rw [HV.out] at hbk
        obtain ⟨Z, hZ⟩ : ∃ Z, V ++ t = Z := ⟨_, rfl⟩
        rw [hZ] at hbk
        have KTZ := Lib.hid (fun w => cftake_any Z w (by rw [← hZ, List.length_append]; have := HTL.out; omega))
        rw [hbk.1, hbk.2] at KTZ
        simp only [PdV, HN.out] at KTZ
        have a1 : ∀ w : World, (Op.stringOp .add ⟨V.toArray⟩ ⟨t.toArray⟩).run Try.prog w = .ok (.string ⟨Z.toArray⟩) w := fun w => by rw [← hZ]; exact run_string_add_lists w V t (by omega) (by have := HTL.out; omega)
        clear hZ hbk hEr HNO HV5
        go_wp2_with fail
        refine (KTZ.out _).mono ?_
        rintro r w3 ⟨A1, c1, rfl, hE, hA, hb3⟩
        have HE3 := Lib.hid hE
        have HE3b := Lib.hid (HE2b.out.next hb3)
        have HB3 : Hid (Below W.heap.size W w3) := Lib.hid (HB2b.out.trans (hb3.mono HB2b.out.size))
        have HK3 := Lib.hid (HK2b.out.below hb3 HK2b.out.lt)
        clear hE hA hb3 HE2b HK2b HB2b
        have HB3a : Hid (Below W.heap.size W (w3.alloc (.cells #[.int .u8 p.l.toNat, .int .u8 p.o.toNat, .int .u8 p.g.toNat, .string ⟨p.x.toArray⟩, .slice A1 n c1] 32)).drew) := Lib.hid (HB3.out.alloc HB3.out.size _).drew
        have HK13 : Hid (Blk (w3.alloc (.cells #[.int .u8 p.l.toNat, .int .u8 p.o.toNat, .int .u8 p.g.toNat, .string ⟨p.x.toArray⟩, .slice A1 n c1] 32)) w3.heap.size 32 #[.int .u8 p.l.toNat, .int .u8 p.o.toNat, .int .u8 p.g.toNat, .string ⟨p.x.toArray⟩, .slice A1 n c1]) := Lib.hid (Blk.new _ _ _)
        have HE13 : Hid (Els 2 tlV (w3.alloc (.cells #[.int .u8 p.l.toNat, .int .u8 p.o.toNat, .int .u8 p.g.toNat, .string ⟨p.x.toArray⟩, .slice A1 n c1] 32)).drew A1 p.t) := Lib.hid (HE3.out.next ((Below.refl _ _).alloc (Nat.le_refl _) _).drew)
        have HE23 : Hid (Els 2 tlV (w3.alloc (.cells #[.int .u8 p.l.toNat, .int .u8 p.o.toNat, .int .u8 p.g.toNat, .string ⟨p.x.toArray⟩, .slice A1 n c1] 32)).drew A p.t) := Lib.hid (HE3b.out.next ((Below.refl _ _).alloc (Nat.le_refl _) _).drew)
        have HK23 := Lib.hid (HK3.out.alloc (.cells #[.int .u8 p.l.toNat, .int .u8 p.o.toNat, .int .u8 p.g.toNat, .string ⟨p.x.toArray⟩, .slice A1 n c1] 32))
        have k0 := HK13.out.cell 0
        have k1 := HK13.out.cell 1
        have k2 := HK13.out.cell 2
        have k3 := HK13.out.cell 3
        have k4 := HK13.out.cell 4
        simp only [List.getElem?_toArray, List.getElem?_cons_succ, List.getElem?_cons_zero] at k0 k1 k2 k3 k4
        have j0 := HK23.out.cell 0
        have j1 := HK23.out.cell 1
        have j2 := HK23.out.cell 2
        have j3 := HK23.out.cell 3
        have j4 := HK23.out.cell 4
        simp only [List.getElem?_toArray, List.getElem?_cons_succ, List.getElem?_cons_zero] at j0 j1 j2 j3 j4
        clear HE3 HE3b HK3
        go_upto_region 7 with (fail)
        go_region_held3 (fun w_ => w_.cell? ⟨w3.heap.size, 0, none⟩ = some (.int .u8 p.l.toNat) ∧ w_.cell? ⟨w3.heap.size, 1, none⟩ = some (.int .u8 p.o.toNat) ∧ w_.cell? ⟨w3.heap.size, 2, none⟩ = some (.int .u8 p.g.toNat) ∧ w_.cell? ⟨w3.heap.size, 3, none⟩ = some (.string ⟨p.x.toArray⟩) ∧ w_.cell? ⟨w3.heap.size, 4, none⟩ = some (.slice A1 n c1) ∧ w_.cell? ⟨W.heap.size, 0, none⟩ = some (.int .u8 p.l.toNat) ∧ w_.cell? ⟨W.heap.size, 1, none⟩ = some (.int .u8 p.o.toNat) ∧ w_.cell? ⟨W.heap.size, 2, none⟩ = some (.int .u8 p.g.toNat) ∧ w_.cell? ⟨W.heap.size, 3, none⟩ = some (.string ⟨p.x.toArray⟩) ∧ w_.cell? ⟨W.heap.size, 4, none⟩ = some (.slice A n c) ∧ Hid (Els 2 tlV w_ A1 p.t) ∧ Hid (Els 2 tlV w_ A p.t) ∧ Hid (Below W.heap.size W w_)) (go_keep)
          (first
            | (go_at_call 9; refine (KO.out _ _ _ (by assumption)).mono ?_; rintro r w_ ⟨B_, d_, rfl, hF_, hA_, hb_⟩; have HF_ := Lib.hid hF_; clear hF_ hA_; obtain ⟨k0, k1, k2, k3, k4, k5, k6, k7, k8, k9, k10, k11, k12⟩ := keep12 (W := W) (g1 := w3.heap.size) (g2 := W.heap.size) (n := n) (c1 := c1) (c2 := c) (A1 := A1) (A2 := A) (p := p) (by assumption) (by assumption) (by assumption) (by assumption) (by assumption) (by assumption) (by assumption) (by assumption) (by assumption) (by assumption) (by assumption) (by assumption) (by assumption) hb_; clear hb_)
            | (go_at_call 16; refine (KS.out _ _ _ _ _ (by assumption) (by assumption)).mono ?_; rintro r w_ ⟨rfl, hb_⟩; obtain ⟨k0, k1, k2, k3, k4, k5, k6, k7, k8, k9, k10, k11, k12⟩ := keep12 (W := W) (g1 := w3.heap.size) (g2 := W.heap.size) (n := n) (c1 := c1) (c2 := c) (A1 := A1) (A2 := A) (p := p) (by assumption) (by assumption) (by assumption) (by assumption) (by assumption) (by assumption) (by assumption) (by assumption) (by assumption) (by assumption) (by assumption) (by assumption) (by assumption) hb_; clear hb_)
            | fail "no")
        have HB6 : Hid (Below W.heap.size W w_) := by assumption
        have HK6 : Hid (Bx2 w_ W.heap.size p) := Lib.hid ⟨by assumption, by assumption⟩
        obtain ⟨N, hN0⟩ : ∃ N, cu.toNat % (V.length + 1) = N := ⟨_, rfl⟩
        have hNl : N ≤ V.length := by have := Nat.mod_lt cu.toNat (show 0 < V.length + 1 by omega); omega
        have hm1 : (cu.toNat : Int) % ((V.length : Int) + 1) = (N : Int) := by rw [← hN0]; exact (Int.natCast_emod _ _).symm
        have hm2 : Int.tmod (cu.toNat : Int) ((V.length : Int) + 1) = (N : Int) := by rw [← hm1]; exact Int.tmod_eq_emod_of_nonneg (by omega)
        have hz1 : ((V.length : Int) + 1 == 0) = false := by rw [beq_eq_false_iff_ne]; omega
        obtain ⟨U, hU⟩ : ∃ U, V.take N = U := ⟨_, rfl⟩
        have HU := Lib.hid hU
        have hcut : ∀ w, (Instr.slice 9 (.string ⟨V.toArray⟩) none (some (.int .i64 (N : Int))) none).run Try.prog w = .ok (.string ⟨U.toArray⟩) w := fun w => by
          rw [run_slice_string_h (P := Try.prog) (w := w) (s := ⟨V.toArray⟩) (t := 9) Try.underlying9 .i64 (N : Int) (by omega) (by show (N : Int) ≤ (V.length : Int); omega)]
          have e : (⟨V.toArray⟩ : ByteArray).extract 0 N = ⟨U.toArray⟩ := by
            rw [extract_take, hU]
          simp only [Int.toNat_natCast, e]
        have hcw : wrap64 (cu.toNat : Int) = (cu.toNat : Int) := by have := cu.toNat_lt; unfold wrap64; omega
        clear hU hN0 KO KS KTZ a1
        by_cases h4 : 4 ≤ N
        · by_cases hN : N < V.length
          · skip
            have hlt : (N : Int) < (V.length : Int) := by omega
            have hcc := cf_cut HE0.out (n := N) (by rw [HV.out]; exact hN)
            rw [HV.out, HU.out] at hcc
            have KT2 : Hid (∀ w : World, Calls Try.prog 11 #[.string ⟨U.toArray⟩] w fun e w' => ∃ A c, e = .returned (.tuple #[.agg #[.int .u8 0, .int .u8 0, .int .u8 0, .string ⟨#[]⟩, .slice A 0 c], .int .i64 3]) ∧ Below w.heap.size w w') := Lib.hid (fun w => by
              have := cftake_any U w (by rw [← HU.out, List.length_take]; omega)
              rw [hcc.1, hcc.2] at this
              exact this.mono (fun e w' ⟨A, c, h1, _, _, h2⟩ => ⟨A, c, h1, h2⟩))
            clear hcc
            have h4i : (4 : Int) ≤ (N : Int) := by omega
            have hhd := hd_cut HE0.out N
            rw [HV.out, HU.out, if_pos h4, if_pos h4] at hhd
            have hdd : decide (4 ≤ N) = true := by simpa using h4
            rw [hdd] at hhd
            have KH := Lib.hid (fun w => cfhead_any U w)
            rw [hhd.1, hhd.2.1, hhd.2.2] at KH
            clear hhd hdd hN h4
            go_wp2_with fail
            refine (KH.out _).mono ?_
            rintro r w7 ⟨rfl, m7, hw7⟩
            have hb7 : Below w_.heap.size w_ w7 := by rw [hw7]; exact below_drewN (Below.refl _ _) m7
            have HB7 : Hid (Below W.heap.size W w7) := Lib.hid (HB6.out.trans (hb7.mono HB6.out.size))
            have HK7 := Lib.hid (HK6.out.next hb7)
            clear hb7 hw7 HB6 HK6
            go_wp2_with fail
            refine (KT2.out _).mono ?_
            rintro r w8 ⟨A8, c8, rfl, hb8⟩
            have HB8 : Hid (Below W.heap.size W w8) := Lib.hid (HB7.out.trans (hb8.mono HB7.out.size))
            have HK8 := Lib.hid (HK7.out.next hb8)
            clear hb8 HB7 HK7
            have HB9 : Hid (Below W.heap.size W (w8.alloc (.cells #[.int .u8 0, .int .u8 0, .int .u8 0, .string ⟨#[]⟩, .slice A8 0 c8] 32))) := Lib.hid (HB8.out.alloc HB8.out.size _)
            obtain ⟨k0, k1⟩ := HK8.out.next ((Below.refl _ _).alloc (Nat.le_refl _) (.cells #[.int .u8 0, .int .u8 0, .int .u8 0, .string ⟨#[]⟩, .slice A8 0 c8] 32))
            clear HK8 HB8
            go_wp2_with fail
            refine (same12_any A8 none c8 0 pd0 _ (els_nilL _ _) (els_nilL _ _) (by decide)).mono ?_
            rintro r w10 ⟨rfl, hb10⟩
            have HB10 : Hid (Below W.heap.size W w10) := Lib.hid (HB9.out.trans (hb10.mono HB9.out.size))
            clear hb10
            go_wp2_with fail
            refine (wakes12 _).mono ?_
            rintro r w11 ⟨rfl, hb11⟩
            have HB11 : Hid (Below W.heap.size W w11) := Lib.hid (HB10.out.trans (hb11.mono HB10.out.size))
            clear hb11
            go_wp2
            go_ret
            exact ⟨rfl, HB11.out⟩
          · skip
            have hlt : ¬ (N : Int) < (V.length : Int) := by omega
            have hUV : U = V := by rw [← HU.out]; exact List.take_of_length_le (by omega)
            have hcc := cf_back HE0.out []
            rw [HV.out, List.append_nil, ← hUV] at hcc
            have KT2 := Lib.hid (fun w => cftake_any U w (by rw [← HU.out, List.length_take]; omega))
            rw [hcc.1, hcc.2] at KT2
            simp only [PdV, HN.out] at KT2
            clear hcc hUV
            have h4i : (4 : Int) ≤ (N : Int) := by omega
            have hhd := hd_cut HE0.out N
            rw [HV.out, HU.out, if_pos h4, if_pos h4] at hhd
            have hdd : decide (4 ≤ N) = true := by simpa using h4
            rw [hdd] at hhd
            have KH := Lib.hid (fun w => cfhead_any U w)
            rw [hhd.1, hhd.2.1, hhd.2.2] at KH
            clear hhd hdd hN h4
            go_wp2_with fail
            refine (KH.out _).mono ?_
            rintro r w7 ⟨rfl, m7, hw7⟩
            have hb7 : Below w_.heap.size w_ w7 := by rw [hw7]; exact below_drewN (Below.refl _ _) m7
            have HB7 : Hid (Below W.heap.size W w7) := Lib.hid (HB6.out.trans (hb7.mono HB6.out.size))
            have HK7 := Lib.hid (HK6.out.next hb7)
            clear hb7 hw7 HB6 HK6
            go_wp2_with fail
            refine (KT2.out _).mono ?_
            rintro r w8 ⟨A8, c8, rfl, _, _, hb8⟩
            have HB8 : Hid (Below W.heap.size W w8) := Lib.hid (HB7.out.trans (hb8.mono HB7.out.size))
            have HK8 := Lib.hid (HK7.out.next hb8)
            clear hb8 HB7 HK7
            have HB9 : Hid (Below W.heap.size W (w8.alloc (.cells #[.int .u8 p.l.toNat, .int .u8 p.o.toNat, .int .u8 p.g.toNat, .string ⟨p.x.toArray⟩, .slice A8 n c8] 32))) := Lib.hid (HB8.out.alloc HB8.out.size _)
            obtain ⟨k0, k1⟩ := HK8.out.next ((Below.refl _ _).alloc (Nat.le_refl _) (.cells #[.int .u8 p.l.toNat, .int .u8 p.o.toNat, .int .u8 p.g.toNat, .string ⟨p.x.toArray⟩, .slice A8 n c8] 32))
            clear HK8 HB8
            go_wp2_with fail
            refine (wakes12 _).mono ?_
            rintro r w11 ⟨rfl, hb11⟩
            have HB11 : Hid (Below W.heap.size W w11) := Lib.hid (HB9.out.trans (hb11.mono HB9.out.size))
            clear hb11
            go_wp2
            go_ret
            exact ⟨rfl, HB11.out⟩
        · have hN : N < V.length := by omega
          have hlt : (N : Int) < (V.length : Int) := by omega
          have hcc := cf_cut HE0.out (n := N) (by rw [HV.out]; exact hN)
          rw [HV.out, HU.out] at hcc
          have KT2 : Hid (∀ w : World, Calls Try.prog 11 #[.string ⟨U.toArray⟩] w fun e w' => ∃ A c, e = .returned (.tuple #[.agg #[.int .u8 0, .int .u8 0, .int .u8 0, .string ⟨#[]⟩, .slice A 0 c], .int .i64 3]) ∧ Below w.heap.size w w') := Lib.hid (fun w => by
            have := cftake_any U w (by rw [← HU.out, List.length_take]; omega)
            rw [hcc.1, hcc.2] at this
            exact this.mono (fun e w' ⟨A, c, h1, _, _, h2⟩ => ⟨A, c, h1, h2⟩))
          clear hcc
          have h4i : ¬ (4 : Int) ≤ (N : Int) := by omega
          have hhd := hd_cut HE0.out N
          rw [HV.out, HU.out, if_neg h4, if_neg h4] at hhd
          have hdd : decide (4 ≤ N) = false := by simpa using h4
          rw [hdd] at hhd
          have KH := Lib.hid (fun w => cfhead_any U w)
          rw [hhd.1, hhd.2.1, hhd.2.2] at KH
          clear hhd hdd hN h4
          go_wp2_with fail
          refine (KH.out _).mono ?_
          rintro r w7 ⟨rfl, m7, hw7⟩
          have hb7 : Below w_.heap.size w_ w7 := by rw [hw7]; exact below_drewN (Below.refl _ _) m7
          have HB7 : Hid (Below W.heap.size W w7) := Lib.hid (HB6.out.trans (hb7.mono HB6.out.size))
          have HK7 := Lib.hid (HK6.out.next hb7)
          clear hb7 hw7 HB6 HK6
          go_wp2_with fail
          refine (KT2.out _).mono ?_
          rintro r w8 ⟨A8, c8, rfl, hb8⟩
          have HB8 : Hid (Below W.heap.size W w8) := Lib.hid (HB7.out.trans (hb8.mono HB7.out.size))
          have HK8 := Lib.hid (HK7.out.next hb8)
          clear hb8 HB7 HK7
          have HB9 : Hid (Below W.heap.size W (w8.alloc (.cells #[.int .u8 0, .int .u8 0, .int .u8 0, .string ⟨#[]⟩, .slice A8 0 c8] 32))) := Lib.hid (HB8.out.alloc HB8.out.size _)
          obtain ⟨k0, k1⟩ := HK8.out.next ((Below.refl _ _).alloc (Nat.le_refl _) (.cells #[.int .u8 0, .int .u8 0, .int .u8 0, .string ⟨#[]⟩, .slice A8 0 c8] 32))
          clear HK8 HB8
          go_wp2_with fail
          refine (same12_any A8 none c8 0 pd0 _ (els_nilL _ _) (els_nilL _ _) (by decide)).mono ?_
          rintro r w10 ⟨rfl, hb10⟩
          have HB10 : Hid (Below W.heap.size W w10) := Lib.hid (HB9.out.trans (hb10.mono HB9.out.size))
          clear hb10
          go_wp2_with fail
          refine (wakes12 _).mono ?_
          rintro r w11 ⟨rfl, hb11⟩
          have HB11 : Hid (Below W.heap.size W w11) := Lib.hid (HB10.out.trans (hb11.mono HB10.out.size))
          clear hb11
          go_wp2
          go_ret
          exact ⟨rfl, HB11.out⟩
      · have e0 : ((E : Int) != 0) = true := by simpa using h0
        have hv := HNO.out h0
        subst hv
        clear h0
        go_wp2_with fail
        refine (wakes12 _).mono ?_
        rintro r w5 ⟨rfl, hb5⟩
        have HB5 : Hid (Below W.heap.size W w5) := Lib.hid (HB2b.out.trans (hb5.mono HB2b.out.size))
        clear hb5
        go_wp2
        go_ret
        exact ⟨rfl, HB5.out⟩
  · simp only [PdV, hn] at KT HK0 HB0 HE0
    rw [hn]
    clear hE hn hq HGN
    go_enter Try.func5, Try.ntmps5
    go_wp2_with fail
    refine (KT.out _ HE0.out).mono ?_
    rintro r w1 ⟨rfl, hb1⟩
    have HB1 : Hid (Below W.heap.size W w1) := Lib.hid (HB0.out.trans (hb1.mono HB0.out.size))
    have HK1 := Lib.hid (HK0.out.below hb1 HK0.out.lt)
    have HE1 := Lib.hid (HE0.out.next hb1)
    clear hb1 HK0 HE0 HB0
    go_wp2_with fail
    refine (wakes12 _).mono ?_
    rintro r w5 ⟨rfl, hb5⟩
    have HB5 : Hid (Below W.heap.size W w5) := Lib.hid (HB1.out.trans (hb5.mono HB1.out.size))
    clear hb5
    go_wp2
    go_ret
    exact ⟨rfl, HB5.out⟩
set_option maxRecDepth 100000 in
set_option maxHeartbeats 4000000 in
theorem walk {H : Type} {enc : TypeId × Value → H} (W : World) (base : Nat) {v0 v1 v2 : Value} {d0 d1 d2 : DataW H} {p0 p1 p2 : List MemPlace}
    (o0 : Value.okWide Try.prog W .any base 24 v0) (h0 : DataW.Trod enc Try.prog W 0 (fun _ => true) true 24 v0 d0 p0) (o1 : Value.okWide Try.prog W .any base 9 v1) (h1 : DataW.Trod enc Try.prog W 0 (fun _ => true) true 9 v1 d1 p1) (o2 : Value.okWide Try.prog W .any base 35 v2) (h2 : DataW.Trod enc Try.prog W 0 (fun _ => true) true 35 v2 d2 p2) :
    Calls Try.prog 5 #[v0, v1, v2] W fun e w' => e = .returned (.bool true) ∧ Below W.heap.size W w' := by
  obtain ⟨A, c, p, rfl, hE⟩ := open_pd o0 h0
  obtain ⟨sb1, rfl, rfl, rfl, hs1⟩ := open_string Try.underlying9 o1 h1
  obtain ⟨⟨t⟩⟩ := sb1
  obtain ⟨n2, rfl, hw⟩ := open_num Try.underlying35 o2 h2
  obtain ⟨cu, rfl⟩ := u16_of12 hw
  exact walkL W A c p t cu hE

theorem own : ownKnob Try.prog.godebug = none := by kernel_rfl
theorem laidOut : laidOutB Try.prog = true := by kernel_rfl
set_option maxRecDepth 100000 in
theorem lifted (os : Os) (started : os.Started) (H : Type) (enc : TypeId × Value → H) :
    ReturnsInHanded {} Try.checked os 5 .any (Rows.cfmBackSpec.pre6 enc Try.prog Try.f5 Rows.cfmBackRow.domain false) (Rows.cfmBackSpec.post enc Try.prog Try.f5 false true false false) := by
  refine returnsInHanded_of_change (C := Try.checked) own started (by kernel_rfl) Try.func5
    (ChangeSpec.witness6 (enc := enc) (C := Try.checked) false ⟨#[], #[.agg #[.int .u8 0, .int .u8 0, .int .u8 0, .string ⟨#[]⟩, .slice none 0 0], .string ⟨#[]⟩, .int .u16 0], []⟩ 8 (by kernel_rfl) (by kernel_rfl) (by kernel_rfl) (by kernel_rfl)) ?_
  intro W base args ds gs before hval0 hW hcnd _
  have hval : ∀ (j : Nat) t v, Try.f5.params[j]? = some t → args[j]? = some v → Value.okWide Try.prog W .any base t v := hval0
  have hW' := hW
  obtain ⟨p, q, hA0, hV, rfl, hfz, hnd⟩ := hW
  have hA : DataW.TrodAll enc Try.prog W 0 (fun _ => true) true Try.f5.params.toList args.toList ds p := hA0
  rw [Try.params5] at hA hval
  obtain ⟨v0, vs0, d0, ds0, p0, q0, hargs, rfl, rfl, h0, r0⟩ := trodAll_cons hA
  obtain ⟨v1, vs1, d1, ds1, p1, q1, rfl, rfl, rfl, h1, r1⟩ := trodAll_cons r0
  obtain ⟨v2, vs2, d2, ds2, p2, q2, rfl, rfl, rfl, h2, r2⟩ := trodAll_cons r1
  obtain ⟨rfl, rfl, rfl⟩ := trodAll_nil r2
  obtain rfl : args = #[v0, v1, v2] := by cases args; simp_all
  obtain ⟨rfl, rfl⟩ := trodVars_none hV
  have o0 := hval 0 24 v0 rfl rfl
  have lt0 : ∀ x ∈ p0, x.block < W.heap.size := by obtain ⟨m, hm⟩ := h0; exact DataW.trod_lt m _ _ _ hm
  have o1 := hval 1 9 v1 rfl rfl
  have lt1 : ∀ x ∈ p1, x.block < W.heap.size := by obtain ⟨m, hm⟩ := h1; exact DataW.trod_lt m _ _ _ hm
  have o2 := hval 2 35 v2 rfl rfl
  have lt2 : ∀ x ∈ p2, x.block < W.heap.size := by obtain ⟨m, hm⟩ := h2; exact DataW.trod_lt m _ _ _ hm
  clear hA0 hval0
  refine (walk W base o0 h0 o1 h1 o2 h2).mono fun e W' ⟨he, bel⟩ => ?_
  subst he
  exact ⟨_, rfl, _, _, _, [], _, [], hW', trodAll_mk1 (shut_bool Try.underlying4 _), (trodAll_cons_mk (Below.trod laidOut (by kernel_rfl) (of_decide_eq_true (by kernel_rfl)) h0 bel lt0) (trodAll_cons_mk (Below.trod laidOut (by kernel_rfl) (of_decide_eq_true (by kernel_rfl)) h1 bel lt1) (trodAll_cons_mk (Below.trod laidOut (by kernel_rfl) (of_decide_eq_true (by kernel_rfl)) h2 bel lt2) trodAll_mk0))), rfl, bel.frame _, fun h => by cases h⟩

theorem over : Rows.cfmBackRow.holds Try.pinned (OpenSpec.ofChange Rows.cfmBackSpec) :=
  OpenClaim.holds_of_wide 5 Try.f5 rfl rfl rfl rfl rfl rfl rfl ⟨rfl, rfl, rfl, rfl, rfl⟩ rfl rfl rfl rfl rfl (by kernel_rfl) Try.func5 (by kernel_rfl)
    (of_decide_eq_true (by kernel_rfl)) (by unfold Func.isWrapper; first | (rw [if_pos (by decide +kernel)]; kernel_rfl) | (rw [if_neg (by decide +kernel)]; exact ⟨rfl, rfl⟩))
    (fun os started H enc _ => lifted os started H enc)

/-- THE STATEMENT -/
theorem proved : Rows.CfmBackSaid := over
end Go.Proofs.Ytjilolehcboihaa.cfmBack
