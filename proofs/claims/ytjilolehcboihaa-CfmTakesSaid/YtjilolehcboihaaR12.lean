/- Layer 12: the document's Put, Take. -/
import Derived.Test.YtjilolehcboihaaCfTk
import Derived.Test.YtjilolehcboihaaRp11
import Derived.Test.YtjilolehcboihaaRt11
import Derived.StillTailTactics
namespace Go.Proofs.Ytjilolehcboihaa
open Go.RowKit
set_option linter.unusedVariables false
set_option linter.unusedSimpArgs false
set_option maxRecDepth 100000

set_option maxHeartbeats 4000000 in
theorem refput12_any (A : Option Addr) (c : Nat) (p : Pd) (w : World) (hE : Els 2 tlV w A p.t) (hl : p.t.length ≤ 1000) :
    Calls Try.prog 10 #[PdV p A c] w fun e w' => e = .returned (.tuple #[.string ⟨(pdP p).toArray⟩, .int .i64 (pdE p : Nat)]) ∧ Below w.heap.size w w' := by
  have HEA := Lib.hid hE
  have KP := Lib.hid (fun w h => refput11_any A c p.t w h hl)
  have HPL := Lib.hid (tlP_len p.t)
  obtain ⟨n, hn⟩ : ∃ n, p.t.length = n := ⟨_, rfl⟩
  obtain ⟨V, hV⟩ : ∃ V, tlP p.t = V := ⟨_, rfl⟩
  obtain ⟨E, hEr⟩ : ∃ E, tlE p.t = E := ⟨_, rfl⟩
  rw [hV, hEr, hn] at KP
  rw [hV, hn] at HPL
  rw [hn] at hl
  have HV := Lib.hid hV
  have HER := Lib.hid hEr
  have HLN := Lib.hid hl
  show Calls _ _ #[.agg #[.int .u8 p.l.toNat, .int .u8 p.o.toNat, .int .u8 p.g.toNat, .string ⟨p.x.toArray⟩, .slice A p.t.length c]] _ _
  rw [hn]
  clear hE hV hEr hn hl
  have HB0 : Hid (Below w.heap.size w (w.alloc (.cells #[.int .u8 p.l.toNat, .int .u8 p.o.toNat, .int .u8 p.g.toNat, .string ⟨p.x.toArray⟩, .slice A n c] 24))) := Lib.hid ((Below.refl _ _).alloc (Nat.le_refl _) _)
  have HE0 : Hid (Els 2 tlV (w.alloc (.cells #[.int .u8 p.l.toNat, .int .u8 p.o.toNat, .int .u8 p.g.toNat, .string ⟨p.x.toArray⟩, .slice A n c] 24)) A p.t) := Lib.hid (HEA.out.next HB0.out)
  have HK0 : Hid (Blk (w.alloc (.cells #[.int .u8 p.l.toNat, .int .u8 p.o.toNat, .int .u8 p.g.toNat, .string ⟨p.x.toArray⟩, .slice A n c] 24)) w.heap.size 24 #[.int .u8 p.l.toNat, .int .u8 p.o.toNat, .int .u8 p.g.toNat, .string ⟨p.x.toArray⟩, .slice A n c]) := Lib.hid (Blk.new w _ _)
  by_cases h1 : 7 < p.l.toNat
  · have d1 : (7 : Int) < (p.l.toNat : Int) := by omega
    have HE : Hid (pdE p = 2) := Lib.hid (by unfold pdE; rw [if_pos h1])
    have HP : Hid (pdP p = []) := Lib.hid (pd_no (by rw [HE.out]; decide))
    clear h1
    go_enter Try.func10, Try.ntmps10
    go_wp2
    go_ret2
    exact ⟨by rw [HE.out, HP.out]; rfl, HB0.out⟩
  · have d1 : ¬ (7 : Int) < (p.l.toNat : Int) := by omega
    by_cases h2 : 255 < p.x.length
    · have d2 : (255 : Int) < (p.x.length : Int) := by omega
      have HE : Hid (pdE p = 5) := Lib.hid (by unfold pdE; rw [if_neg h1, if_pos h2])
      have HP : Hid (pdP p = []) := Lib.hid (pd_no (by rw [HE.out]; decide))
      clear h1 h2
      go_enter Try.func10, Try.ntmps10
      go_wp2
      go_ret2
      exact ⟨by rw [HE.out, HP.out]; rfl, HB0.out⟩
    · have d2 : ¬ (255 : Int) < (p.x.length : Int) := by omega
      have HE : Hid (pdE p = E) := Lib.hid (by unfold pdE; rw [if_neg h1, if_neg h2, HER.out])
      have H2 := Lib.hid h2
      clear h1 h2
      go_enter Try.func10, Try.ntmps10
      go_wp2_with fail
      refine (KP.out _ HE0.out).mono ?_
      rintro r w2 ⟨rfl, hb2⟩
      have HB2 : Hid (Below w.heap.size w w2) := Lib.hid (HB0.out.trans (hb2.mono HB0.out.size))
      have HK2 := Lib.hid (HK0.out.below hb2 HK0.out.lt)
      clear hb2 HK0 HB0 HE0
      by_cases h0 : E = 0
      · subst h0
        have hP : pdP p = (pdH p ++ p.x) ++ V := by unfold pdP; rw [if_pos HE.out, HV.out]
        obtain ⟨a1, ha1⟩ : ∃ a, p.l * 32 = a := ⟨_, rfl⟩
        obtain ⟨a4, ha4⟩ : ∃ a, UInt8.ofNat p.x.length = a := ⟨_, rfl⟩
        have hm : IntKind.u8.wrap ((p.l.toNat : Int) * 32) = (a1.toNat : Int) := by
          rw [← ha1, UInt8.toNat_mul]
          simp [IntKind.wrap, IntKind.signed, IntKind.bits]
        have hlen : IntKind.u8.wrap (p.x.length : Int) = (a4.toNat : Int) := by
          rw [← ha4]
          simp [IntKind.wrap, IntKind.signed, IntKind.bits]
        have hH : pdH p = [a1, p.o, p.g, a4] := by unfold pdH; rw [ha1, ha4]
        have hcv := conv_four w2 a1 p.o p.g a4
        rw [hH] at hP
        obtain ⟨M, hM⟩ : ∃ M, [a1, p.o, p.g, a4] ++ p.x = M := ⟨_, rfl⟩
        rw [hM] at hP
        have hml : M.length ≤ 260 := by have := H2.out; rw [← hM]; simp; omega
        have hxl : p.x.length ≤ 255 := by have := H2.out; omega
        have hvl : V.length ≤ 7415001 := by have := HPL.out; have := HLN.out; omega
        have hd1 : ∀ w : World, (Op.stringOp .add ⟨#[a1, p.o, p.g, a4]⟩ ⟨p.x.toArray⟩).run Try.prog w = .ok (.string ⟨M.toArray⟩) w := fun w => by rw [← hM]; exact run_string_add_lists w [a1, p.o, p.g, a4] p.x (by simp) (by omega)
        have hd2 : ∀ w : World, (Op.stringOp .add ⟨M.toArray⟩ ⟨V.toArray⟩).run Try.prog w = .ok (.string ⟨(pdP p).toArray⟩) w := fun w => by rw [hP]; exact run_string_add_lists w M V (by omega) (by omega)
        obtain ⟨R, hR⟩ : ∃ R, pdP p = R := ⟨_, rfl⟩
        rw [hR] at hd2
        have HRR := Lib.hid hR
        clear hH hP hxl ha1 ha4 hM hml hvl hR
        have k0 := HK2.out.cell 0
        have k1 := HK2.out.cell 1
        have k2 := HK2.out.cell 2
        have k3 := HK2.out.cell 3
        simp only [List.getElem?_toArray, List.getElem?_cons_succ, List.getElem?_cons_zero] at k0 k1 k2 k3
        have HB3 : Hid (Below w.heap.size w (w2.alloc (.cells #[.int .u8 a1.toNat, .int .u8 p.o.toNat, .int .u8 p.g.toNat, .int .u8 a4.toNat] 5))) := Lib.hid (HB2.out.alloc HB2.out.size _)
        have HK3 : Hid (Blk (w2.alloc (.cells #[.int .u8 a1.toNat, .int .u8 p.o.toNat, .int .u8 p.g.toNat, .int .u8 a4.toNat] 5)) w.heap.size 24 #[.int .u8 p.l.toNat, .int .u8 p.o.toNat, .int .u8 p.g.toNat, .string ⟨p.x.toArray⟩, .slice A n c]) := Lib.hid (HK2.out.alloc _)
        have k3' := HK3.out.cell 3
        simp only [List.getElem?_toArray, List.getElem?_cons_succ, List.getElem?_cons_zero] at k3'
        go_wp2
        go_ret2
        exact ⟨by rw [HRR.out, HE.out]; rfl, HB3.out⟩
      · have e0 : ((E : Int) != 0) = true := by simpa using h0
        have hP := Lib.hid (pd_no (p := p) (by rw [HE.out]; exact h0))
        clear h0
        go_wp2
        go_ret2
        exact ⟨by rw [hP.out, HE.out]; rfl, HB2.out⟩
theorem tkX_k (s : List UInt8) : ∀ x ∈ tkX s, x.k ≠ 0 := by
  unfold tkX
  split
  · rename_i p hp
    exact fun x hx => ((tks_back _ s (Nat.le_refl _) p.1 p.2 hp).2.1 x hx).1
  · intro x hx; cases hx
/-- a list in memory is still there when a zero message's block is stored into -/
theorem els_row0 {w : World} {A : Option Addr} {l : List Tl} {g : Nat} {t : TypeId} {cs' : Array Value} (h : Els 2 tlV w A l) (hg : Blk w g t #[.int .u8 0, .int .u8 0, .int .u8 0, .string ⟨#[]⟩, .slice none 0 0]) (hk : ∀ x ∈ l, x.k ≠ 0) : Els 2 tlV (w.setRow g cs') A l := by
  intro h0
  obtain ⟨b, off, e, hlt, hc⟩ := h h0
  have hb : b ≠ g := by
    rintro rfl
    have h1 := hc 0 h0 0 _ rfl
    rw [hg.cell] at h1
    have hk0 := hk l[0] (List.getElem_mem h0)
    match off, h1 with
    | 0, h1 => simp at h1; exact hk0 (UInt8.toNat_inj.1 (by rw [← Int.ofNat_inj]; exact h1.symm))
    | 1, h1 => simp at h1; exact hk0 (UInt8.toNat_inj.1 (by rw [← Int.ofNat_inj]; exact h1.symm))
    | 2, h1 => simp at h1; exact hk0 (UInt8.toNat_inj.1 (by rw [← Int.ofNat_inj]; exact h1.symm))
    | 3, h1 => simp at h1
    | 4, h1 => simp at h1
    | k + 5, h1 => simp at h1
  refine ⟨b, off, e, by simpa using hlt, fun i hi j v hv => ?_⟩
  rw [World.cell?_of_block (w := w) (a := ⟨b, off + i * 2 + j, none⟩) (setRow_other w g b cs' hb)]
  exact hc i hi j v hv
set_option maxHeartbeats 4000000 in
theorem reftake12_any (s : List UInt8) (w : World) (hs : s.length ≤ 900000) :
    Calls Try.prog 12 #[.string ⟨s.toArray⟩] w fun e w' => ∃ A c, e = .returned (.tuple #[PdV (cfX s) A c, .int .i64 (cfE s : Nat)]) ∧ Els 2 tlV w' A (cfX s).t ∧ (A = none → c = 0) ∧ Below w.heap.size w w' := by
  have HK0 : Hid (Blk (w.alloc (.cells #[.int .u8 0, .int .u8 0, .int .u8 0, .string ⟨#[]⟩, .slice none 0 0] 24)) w.heap.size 24 #[.int .u8 0, .int .u8 0, .int .u8 0, .string ⟨#[]⟩, .slice none 0 0]) := Lib.hid (Blk.new w _ _)
  have HB0 : Hid (Below w.heap.size w (w.alloc (.cells #[.int .u8 0, .int .u8 0, .int .u8 0, .string ⟨#[]⟩, .slice none 0 0] 24))) := Lib.hid ((Below.refl _ _).alloc (Nat.le_refl _) _)
  by_cases h4 : s.length < 4
  · have d4 : (s.length : Int) < 4 := by omega
    have HEX := Lib.hid (cf_few h4)
    clear h4 hs
    go_enter Try.func12, Try.ntmps12
    go_wp2_with (refine wpList_store_row rfl 24 (.tmp 2) (.tmp 11) rfl w.heap.size rfl _ rfl 24 _ HK0.out (by kernel_rfl) rfl (by kernel_rfl) ?_)
    refine bodyPost_ret (v := .tuple #[.agg #[.int .u8 0, .int .u8 0, .int .u8 0, .string ⟨#[]⟩, .slice none 0 0], .int .i64 3]) (results_cell_slot (p := 2) (q := 3) (by kernel_rfl) _ _ w.heap.size 24 _ _ rfl (Blk.row HK0.out _) Try.underlying24 rfl (by kernel_rfl) _ rfl) rfl ?_
    exact ⟨none, 0, by rw [HEX.out.1, HEX.out.2]; rfl, by rw [HEX.out.2]; exact els_nilL _ _, fun _ => rfl, below_row HB0.out (Nat.le_refl _) _⟩
  · obtain ⟨a, b, c, d, r, hsr⟩ := four s (by omega)
    have d4 : ¬ (s.length : Int) < 4 := by omega
    have hsl : s.length = r.length + 4 := by rw [hsr]; rfl
    have hsz : (⟨s.toArray⟩ : ByteArray).size = s.length := rfl
    have b0 : ∀ h', (⟨s.toArray⟩ : ByteArray)[0]'h' = a := fun h' => by rw [byteC, hsr]; rfl
    have b1 : ∀ h', (⟨s.toArray⟩ : ByteArray)[1]'h' = b := fun h' => by rw [byteC, hsr]; rfl
    have b2 : ∀ h', (⟨s.toArray⟩ : ByteArray)[2]'h' = c := fun h' => by rw [byteC, hsr]; rfl
    have b3 : ∀ h', (⟨s.toArray⟩ : ByteArray)[3]'h' = d := fun h' => by rw [byteC, hsr]; rfl
    have l0 : 0 < s.length := by omega
    have l1 : 1 < s.length := by omega
    have l2 : 2 < s.length := by omega
    have l3 : 3 < s.length := by omega
    have i1 : (1 : Int) < (s.length : Int) := by omega
    have i2 : (2 : Int) < (s.length : Int) := by omega
    have i3 : (3 : Int) < (s.length : Int) := by omega
    have HC : Hid (cfE s = if a.toNat % 32 = 0 then (if r.length < d.toNat then 3 else tkErr (r.drop d.toNat)) else 4) := Lib.hid (by rw [hsr]; rfl)
    by_cases hq : a.toNat % 32 = 0
    · have q1 : ((a.toNat : Int) % 32 != 0) = false := by rw [show ((a.toNat : Int) % 32) = ((a.toNat % 32 : Nat) : Int) from rfl, hq]; rfl
      have q2 : (Int.tmod (a.toNat : Int) 32 != 0) = false := by rw [show Int.tmod (a.toNat : Int) 32 = ((a.toNat % 32 : Nat) : Int) from rfl, hq]; rfl
      have hw1 : wrap64 (d.toNat : Int) = (d.toNat : Int) := by have := d.toNat_lt; unfold wrap64; omega
      obtain ⟨m, hm⟩ : ∃ m, d.toNat = m := ⟨_, rfl⟩
      have hm255 : m ≤ 255 := by have := d.toNat_lt; omega
      rw [hm] at HC hw1
      have hw2 : wrap64 (4 + (m : Int)) = 4 + (m : Int) := by unfold wrap64; omega
      by_cases hr : r.length < m
      · have dr : (s.length : Int) < 4 + (m : Int) := by omega
        have hE : cfE s = 3 := by rw [HC.out, if_pos hq, if_pos hr]
        have HEX : Hid (cfE s = 3 ∧ cfX s = pd0) := Lib.hid ⟨hE, by unfold cfX; rw [if_neg (by omega)]⟩
        clear hq hr HC hE hsr hs hm255 hsl h4
        go_enter Try.func12, Try.ntmps12
        go_wp2_with (refine wpList_store_row rfl 24 (.tmp 2) (.tmp 25) rfl w.heap.size rfl _ rfl 24 _ HK0.out (by kernel_rfl) rfl (by kernel_rfl) ?_)
        refine bodyPost_ret (v := .tuple #[.agg #[.int .u8 0, .int .u8 0, .int .u8 0, .string ⟨#[]⟩, .slice none 0 0], .int .i64 3]) (results_cell_slot (p := 2) (q := 3) (by kernel_rfl) _ _ w.heap.size 24 _ _ rfl (Blk.row HK0.out _) Try.underlying24 rfl (by kernel_rfl) _ rfl) rfl ?_
        exact ⟨none, 0, by rw [HEX.out.1, HEX.out.2]; rfl, by rw [HEX.out.2]; exact els_nilL _ _, fun _ => rfl, below_row HB0.out (Nat.le_refl _) _⟩
      · have dr : ¬ (s.length : Int) < 4 + (m : Int) := by omega
        have hE : cfE s = tkErr (r.drop m) := by rw [HC.out, if_pos hq, if_neg hr]
        obtain ⟨D, hD⟩ : ∃ D, r.drop m = D := ⟨_, rfl⟩
        obtain ⟨T, hT⟩ : ∃ T, r.take m = T := ⟨_, rfl⟩
        rw [hD] at hE
        have hcut : ∀ w, (Instr.slice 9 (.string ⟨s.toArray⟩) (some (.int .i64 (4 + (m : Int)))) none none).run Try.prog w = .ok (.string ⟨D.toArray⟩) w := fun w => by
          rw [show (4 + (m : Int)) = ((4 + m : Nat) : Int) by omega]
          exact cut_end s D (4 + m) (by omega) (by rw [hsr, ← hD, Nat.add_comm]; rfl) w
        have hmid : ∀ w, (Instr.slice 9 (.string ⟨s.toArray⟩) (some (.int .i64 4)) (some (.int .i64 (4 + (m : Int)))) none).run Try.prog w = .ok (.string ⟨T.toArray⟩) w := fun w => by
          rw [show (4 + (m : Int)) = ((4 + m : Nat) : Int) by omega]
          exact cut_mid s T 4 (4 + m) (by omega) (by omega) (by rw [hsr, ← hT, Nat.add_comm]; rfl) w
        have KT := Lib.hid (fun w => reftake11_any D.length D (Nat.le_refl _) (by rw [← hD, List.length_drop]; omega) w)
        unfold RT at KT
        have HXQ : Hid (cfE s = 0 → cfX s = ⟨a / 32, b, c, T, tkX D⟩) := Lib.hid (fun h => by unfold cfX; rw [if_pos h, hsr]; unfold cfQ; simp only; rw [hm, hT, hD])
        have HKX := Lib.hid (tkX_k D)
        obtain ⟨nx, hnx⟩ : ∃ n, (tkX D).length = n := ⟨_, rfl⟩
        obtain ⟨ex, hex⟩ : ∃ n, tkErr D = n := ⟨_, rfl⟩
        rw [hnx, hex] at KT
        rw [hex] at hE
        have HNX := Lib.hid hnx
        have HEE := Lib.hid hE
        have HSL := Lib.hid (And.intro hsl hr)
        clear hnx hex hE hD hT hsr hs h4 HC hsl hr
        go_enter Try.func12, Try.ntmps12
        go_wp2_with fail
        refine (KT.out _).mono ?_
        rintro e w2 ⟨A, cc, rfl, hE2, hA, hb2⟩
        have HE2 := Lib.hid (And.intro hE2 hA)
        have HK2 := Lib.hid (HK0.out.below hb2 HK0.out.lt)
        have HB2 : Hid (Below w.heap.size w w2) := Lib.hid (HB0.out.trans (hb2.mono HB0.out.size))
        clear hE2 hA hb2 HK0 HB0 KT
        by_cases hz : ex = 0
        · subst hz
          have HXX := Lib.hid (HXQ.out HEE.out)
          obtain ⟨y, hy⟩ : ∃ y, a / 32 = y := ⟨_, rfl⟩
          rw [hy] at HXX
          have hdv : IntKind.u8.wrap (Int.tdiv (a.toNat : Int) 32) = (y.toNat : Int) := by
            rw [← hy, u8_div32]
            have := a.toNat_lt
            simp [IntKind.wrap, IntKind.signed, IntKind.bits]
            omega
          have hdv2 : (Int.tdiv (a.toNat : Int) 32) = (y.toNat : Int) := by rw [← hy, u8_div32]; rfl
          have hdv3 : ((a.toNat : Int) / 32) = (y.toNat : Int) := by rw [← hy, u8_div32]; rfl
          have hy256 : (y.toNat : Int) % 256 = (y.toNat : Int) := by have := y.toNat_lt; omega
          have hyw : IntKind.u8.wrap (y.toNat : Int) = (y.toNat : Int) := by simp [IntKind.wrap, IntKind.signed, IntKind.bits]; exact hy256
          clear hy
          go_upto_region 11 with (fail)
          refine wp_region_still_tail 12 (by kernel_rfl) (by kernel_rfl) ?_
          simp only [List.take_succ_cons, List.take_zero, List.drop_succ_cons, List.drop_zero]
          iterate 12 still_step
          refine wpStill_nil ?_
          change wpList _ _ _ _ _ w2.drew
          have HKd := Lib.hid HK2.out.drew
          have HBd := Lib.hid HB2.out.drew
          have HEd : Hid (Els 2 tlV w2.drew A (tkX D)) := Lib.hid HE2.out.1
          generalize w2.drew = w3 at *
          go_wp2_with (refine wpList_store_row rfl 24 (.tmp 2) (.tmp 49) rfl w.heap.size rfl _ rfl 24 _ HKd.out (by kernel_rfl) rfl (by kernel_rfl) ?_)
          refine bodyPost_ret (v := .tuple #[.agg #[.int .u8 y.toNat, .int .u8 b.toNat, .int .u8 c.toNat, .string ⟨T.toArray⟩, .slice A nx cc], .int .i64 0]) (results_cell_slot (p := 2) (q := 3) (by kernel_rfl) _ _ w.heap.size 24 _ _ rfl (Blk.row HKd.out _) Try.underlying24 rfl (by kernel_rfl) _ rfl) rfl ?_
          refine ⟨A, cc, ?_, ?_, HE2.out.2, below_row HBd.out (Nat.le_refl _) _⟩
          · rw [HXX.out, HEE.out]
            show _ = Ending.returned (.tuple #[.agg #[.int .u8 y.toNat, .int .u8 b.toNat, .int .u8 c.toNat, .string ⟨T.toArray⟩, .slice A (tkX D).length cc], .int .i64 0])
            rw [HNX.out]
          · rw [HXX.out]
            exact els_row0 HEd.out HKd.out HKX.out
        · have e0 : ((ex : Int) != 0) = true := by simpa using hz
          have HEX : Hid (cfE s = ex ∧ cfX s = pd0) := Lib.hid ⟨HEE.out, by unfold cfX; rw [HEE.out, if_neg hz]⟩
          clear hz
          go_wp2_with (refine wpList_store_row rfl 24 (.tmp 2) (.tmp 36) rfl w.heap.size rfl _ rfl 24 _ HK2.out (by kernel_rfl) rfl (by kernel_rfl) ?_)
          refine bodyPost_ret (v := .tuple #[.agg #[.int .u8 0, .int .u8 0, .int .u8 0, .string ⟨#[]⟩, .slice none 0 0], .int .i64 ex]) (results_cell_slot (p := 2) (q := 3) (by kernel_rfl) _ _ w.heap.size 24 _ _ rfl (Blk.row HK2.out _) Try.underlying24 rfl (by kernel_rfl) _ rfl) rfl ?_
          exact ⟨none, 0, by rw [HEX.out.1, HEX.out.2]; rfl, by rw [HEX.out.2]; exact els_nilL _ _, fun _ => rfl, below_row HB2.out (Nat.le_refl _) _⟩
    · have q0 : ((a.toNat % 32 : Nat) : Int) ≠ 0 := by omega
      have q1 : ((a.toNat : Int) % 32 != 0) = true := by rw [show ((a.toNat : Int) % 32) = ((a.toNat % 32 : Nat) : Int) from rfl]; simpa using q0
      have q2 : (Int.tmod (a.toNat : Int) 32 != 0) = true := by rw [show Int.tmod (a.toNat : Int) 32 = ((a.toNat % 32 : Nat) : Int) from rfl]; simpa using q0
      have hE : cfE s = 4 := by rw [HC.out, if_neg hq]
      have HEX : Hid (cfE s = 4 ∧ cfX s = pd0) := Lib.hid ⟨hE, by unfold cfX; rw [if_neg (by omega)]⟩
      clear hq q0 HC hE hsr hs hsl h4
      go_enter Try.func12, Try.ntmps12
      go_wp2_with (refine wpList_store_row rfl 24 (.tmp 2) (.tmp 16) rfl w.heap.size rfl _ rfl 24 _ HK0.out (by kernel_rfl) rfl (by kernel_rfl) ?_)
      refine bodyPost_ret (v := .tuple #[.agg #[.int .u8 0, .int .u8 0, .int .u8 0, .string ⟨#[]⟩, .slice none 0 0], .int .i64 4]) (results_cell_slot (p := 2) (q := 3) (by kernel_rfl) _ _ w.heap.size 24 _ _ rfl (Blk.row HK0.out _) Try.underlying24 rfl (by kernel_rfl) _ rfl) rfl ?_
      exact ⟨none, 0, by rw [HEX.out.1, HEX.out.2]; rfl, by rw [HEX.out.2]; exact els_nilL _ _, fun _ => rfl, below_row HB0.out (Nat.le_refl _) _⟩
end Go.Proofs.Ytjilolehcboihaa
