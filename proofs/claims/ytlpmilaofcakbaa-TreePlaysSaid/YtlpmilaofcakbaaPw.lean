/- Layer 9: TreePlays, the walk. -/
import Derived.Test.YtlpmilaofcakbaaRa
import Derived.Test.YtlpmilaofcakbaaR5
namespace Go.Proofs.Ytlpmilaofcakbaa
open Go.RowKit Go.Shelf
open Go.Sort (grow)
set_option linter.unusedVariables false
set_option linter.unusedSimpArgs false
set_option maxRecDepth 100000

theorem els_chg {α : Type} {k : Nat} {enc : α → List Value} {w w' : World} {A : Option Addr} {l : List α} {S : Nat → Prop} (h : Els k enc w A l) (hc : Chg S w w') (hn : ∀ b off, A = some ⟨b, off, none⟩ → ¬ S b) : Els k enc w' A l := fun h0 => by
  obtain ⟨b, off, e, hlt, hcell⟩ := h h0
  exact ⟨b, off, e, Nat.lt_of_lt_of_le hlt hc.size, fun i hi j v hv => (World.cell?_of_block (a := ⟨b, off + i * k + j, none⟩) (hc.block b hlt (hn b off e))).trans (hcell i hi j v hv)⟩
theorem hearS_len (M : Mch) (i : Nat) (b : Bp) : (M.hearS i b).length ≤ (M.hear i b).ps.length := by
  unfold Mch.hearS
  split
  · exact Mch.sendTo_len _ _ _
  · simp
theorem ok_fit9 {b : Bp} (h : b.ok) : b.fit := by
  have h1 := h.v.c
  have h2 := h.h
  simp [Lit.wf, IntKind.has, IntKind.min, IntKind.max, IntKind.signed, IntKind.bits] at h1 h2
  exact ⟨by omega, by omega⟩
theorem tickS_len (M : Mch) : M.tickS.length ≤ M.ps.length := by
  refine Nat.le_trans (Mch.sendTo_len _ _ _) ?_
  unfold Mch.tick1
  rw [Mch.choose_len]
  simp
set_option maxRecDepth 100000 in
set_option maxHeartbeats 8000000 in
theorem plays_law (W : World) (id : Int) (Ac : Option Addr) (cc : Nat) (cs : List Int) (Aa : Option Addr) (ca : Nat) (l : List At) (hC : Els 1 encC W Ac cs) (hC0 : ∀ x ∈ cs, 0 ≤ x) (hE : Els 14 encT W Aa l) (hF : ∀ a ∈ l, a.fit) (hmx : cs.length ≤ maxLen) :
    Calls Try.prog 3 #[.int .u64 id, .slice Ac cs.length cc, .slice Aa l.length ca] W fun e w' => e = .returned (.bool true) ∧ Below W.heap.size W w' := by
  obtain ⟨n, hn⟩ : ∃ n, l.length = n := ⟨_, rfl⟩
  obtain ⟨r, hr⟩ : ∃ r, cs.length = r := ⟨_, rfl⟩
  have HC := Lib.hid hC
  have HC0 := Lib.hid hC0
  have HE := Lib.hid hE
  have HF := Lib.hid hF
  have HN := Lib.hid (And.intro hn hr)
  rw [hn, hr]
  clear hC hC0 hE hF hn hr hmx
  have HR := Lib.hid (Below.refl W.heap.size W)
  by_cases hl : 200 < n
  · have d0 : decide ((200 : Int) < (n : Int)) = true := by simp; omega
    go_enter Try.func3, Try.ntmps3
    go_wp2_with fail
    refine (wakes9_any _).mono ?_
    rintro e w9 ⟨rfl, hb⟩
    have HB9 : Hid (Below W.heap.size W w9) := Lib.hid (HR.out.trans (hb.mono HR.out.size))
    clear hb
    go_wp2
    go_ret
    exact ⟨rfl, HB9.out⟩
  have d0 : decide ((200 : Int) < (n : Int)) = false := by simp; omega
  by_cases hc : 20 < r
  · have d1 : decide ((20 : Int) < (r : Int)) = true := by simp; omega
    go_enter Try.func3, Try.ntmps3
    go_wp2_with fail
    refine (wakes9_any _).mono ?_
    rintro e w9 ⟨rfl, hb⟩
    have HB9 : Hid (Below W.heap.size W w9) := Lib.hid (HR.out.trans (hb.mono HR.out.size))
    clear hb
    go_wp2
    go_ret
    exact ⟨rfl, HB9.out⟩
  have d1 : decide ((20 : Int) < (r : Int)) = false := by simp; omega
  clear HR
  cases hm : mayC cs with
  | false =>
    have HM := Lib.hid hm
    have hnew : Calls Try.prog 8 #[.int .u64 id, .slice Ac r cc] W fun e w' => e = .returned (.tuple #[.pointer none, .int .i64 2]) ∧ Below W.heap.size W w' := by
      by_cases h : r = 0 ∨ 8 < r
      · exact new_bad h (by simp only [maxLen]; omega)
      · have := new_go (c := cc) (id := id) (by rw [HN.out.2]; omega) (by rw [HN.out.2]; omega) HC.out HC0.out
        rw [HN.out.2] at this
        exact this.mono fun _ _ h => ⟨h.2.1 HM.out, h.2.2⟩
    clear hm
    go_enter Try.func3, Try.ntmps3
    go_wp2_with fail
    refine hnew.mono ?_
    rintro e w1 ⟨rfl, hb⟩
    have HB1 := Lib.hid hb
    have hmay := may_ref (c := cc) (HC.out.next hb) (by rw [HN.out.2]; omega)
    rw [HN.out.2, HM.out] at hmay
    clear hb hnew
    go_wp2_with fail
    refine hmay.mono ?_
    rintro e w' ⟨rfl, rfl⟩
    clear hmay
    go_wp2_with fail
    refine (wakes9_any _).mono ?_
    rintro e w9 ⟨rfl, hb⟩
    have HB9 : Hid (Below W.heap.size W w9) := Lib.hid (HB1.out.trans (hb.mono HB1.out.size))
    clear hb
    go_wp2
    go_ret
    exact ⟨rfl, HB9.out⟩
  | true =>
    have h08 : 0 < r ∧ r ≤ 8 := by
      simp only [mayC, Bool.and_eq_true, decide_eq_true_eq] at hm
      have := HN.out.2
      omega
    have HM := Lib.hid hm
    have hnew := new_go (c := cc) (id := id) (by rw [HN.out.2]; exact h08.1) (by rw [HN.out.2]; exact h08.2) HC.out HC0.out
    rw [HN.out.2] at hnew
    clear hm
    go_enter Try.func3, Try.ntmps3
    go_wp2_with fail
    refine hnew.mono ?_
    rintro e w1 ⟨h1, _, hb⟩
    obtain ⟨g, rfl, hMa, hg⟩ := h1 HM.out
    have HB1 := Lib.hid hb
    have HMa := Lib.hid hMa
    have HG := Lib.hid hg
    have hmay := may_ref (c := cc) (HC.out.next hb) (by rw [HN.out.2]; omega)
    rw [HN.out.2, HM.out] at hmay
    clear hb hnew h1 hMa hg
    go_wp2_with fail
    refine hmay.mono ?_
    rintro e w' ⟨rfl, rfl⟩
    clear hmay
    have hdoc := new_ref (c := cc) (id := id) (by rw [HN.out.2]; exact h08.1) (by rw [HN.out.2]; exact h08.2) (HC.out.next HB1.out)
    rw [HN.out.2] at hdoc
    go_wp2_with fail
    refine hdoc.mono ?_
    rintro e w2 ⟨m, pb, fb0, c, cf0, rfl, hD, hb2, hm1, hm2, hm3⟩
    clear hdoc
    have HS0 : Hid (PlT W g m pb fb0 c cf0 (newM id cs) (newM id cs) w2) := Lib.hid (by
      have hgl : g < w1.heap.size := Blk.lt HMa.out
      have hws := HB1.out.size
      exact ⟨HMa.out.next hb2, hD, HB1.out.trans (hb2.mono hws), ⟨HG.out, by omega, by omega, by omega⟩, ⟨by omega, by omega, by omega⟩⟩)
    have HN0 := Lib.hid (newM_sane id cs HM.out HC0.out)
    clear hD hb2 hm1 hm2 hm3 HMa HB1 HG
    go_wp2_with fail
    go_loopw [10] (fun i wr => ∃ (k : Nat) (M : Mch) (fb cf : Nat), k ≤ n ∧ i = .int .i64 k ∧ Hid (PlT W g m pb fb c cf M M wr) ∧ Hid M.sane) (fun i _ => n - (intOf i).toNat)
    case atStart => exact ⟨0, _, _, _, Nat.zero_le _, rfl, HS0, HN0⟩
    case round =>
      clear HS0 HN0
      obtain ⟨k, M, fb, cf, hk, rfl, hS, hN⟩ := hrel
      by_cases hlt : k < n
      · have hlt' : k < l.length := by rw [HN.out.1]; exact hlt
        obtain ⟨b, off, rfl, hbl, hcl⟩ := HE.out (by omega)
        obtain ⟨⟨d, p, bx, ex⟩, hx⟩ : ∃ x, l[k] = x := ⟨_, rfl⟩
        have HX : Hid ((At.mk d p bx ex).fit) := Lib.hid (by rw [← hx]; exact HF.out _ (List.getElem_mem hlt'))
        have HCL : Hid (∀ j u, (encT ⟨d, p, bx, ex⟩)[j]? = some u → wr.cell? ⟨b, off + k * 14 + j, none⟩ = some u) := Lib.hid (fun j u hu => (hS.out.bel.cell (p := ⟨b, off + k * 14 + j, none⟩) hbl).trans (hcl k hlt' j u (by rw [hx]; exact hu)))
        obtain ⟨wa, hwa⟩ : ∃ wa, wr.alloc (.cells #[.int .u8 0, .int .u8 0, .int .u64 0, .int .u32 0, .int .u64 0, .int .u8 0, .int .u8 0, .int .u64 0, .int .u8 0, .bool false, .bool false, .bool false, .int .u64 0, .bool false] 39) = wa := ⟨_, rfl⟩
        obtain ⟨q, hq⟩ : ∃ q, wr.heap.size = q := ⟨_, rfl⟩
        have HQG : Hid (q ≠ g) := Lib.hid (by have : g < wr.heap.size := Blk.lt hS.out.mac; omega)
        have HSa : Hid (PlT W g m pb fb c cf M M wa) := Lib.hid (by rw [← hwa]; exact hS.out.next ((Below.refl _ _).alloc (Nat.le_refl _) _))
        have HBa : Hid (Blk wa q 39 #[.int .u8 0, .int .u8 0, .int .u64 0, .int .u32 0, .int .u64 0, .int .u8 0, .int .u8 0, .int .u64 0, .int .u8 0, .bool false, .bool false, .bool false, .int .u64 0, .bool false]) := Lib.hid (by rw [← hwa, ← hq]; exact Blk.new _ _ _)
        have HQL : Hid (wr.heap.size ≤ q ∧ W.heap.size ≤ q) := Lib.hid (by have := hS.out.bel.size; omega)
        have HSb : Hid (PlT W g m pb fb c cf M M (wa.setRow q (encT ⟨d, p, bx, ex⟩).toArray)) := Lib.hid (by
          have h1 : Below wr.heap.size wr (wa.setRow q (encT ⟨d, p, bx, ex⟩).toArray) := below_row (by rw [← hwa]; exact (Below.refl _ _).alloc (Nat.le_refl _) _) HQL.out.1 _
          exact hS.out.next h1)
        have HB : Hid (Blk (wa.setRow q (encT ⟨d, p, bx, ex⟩).toArray) q 39 (encT ⟨d, p, bx, ex⟩).toArray) := Lib.hid (HBa.out.row _)
        have HW := Lib.hid (And.intro hwa hq)
        clear hwa hq hx hcl hbl hlt' hS
        go_upto_region 13 with (first
          | (refine wpList_load_atT 39 59 rfl (by kernel_rfl) b (off + k * 14) (encT ⟨d, p, bx, ex⟩) rfl HCL.out isAggA9 sizeA9 ?_)
          | (rw [HW.out.1, HW.out.2]; refine wpList_store_row rfl 39 (.tmp 11) (.tmp 60) rfl q rfl (encT ⟨d, p, bx, ex⟩).toArray rfl 39 _ HBa.out (by kernel_rfl) rfl (by kernel_rfl) ?_))
        clear HW HBa HSa HCL
        generalize wa.setRow q (encT ⟨d, p, bx, ex⟩).toArray = wb at *
        have HS := HSb
        have a0 : wb.cell? ⟨q, 0, none⟩ = some (.int .u8 (d : Nat)) := HB.out.cell 0
        have a1 : wb.cell? ⟨q, 1, none⟩ = some (.int .u8 (p : Nat)) := HB.out.cell 1
        have a13 : wb.cell? ⟨q, 13, none⟩ = some (.bool ex) := HB.out.cell 13
        have hp8 : p < 256 := HX.out.p
        have hw1 : IntKind.i64.wrap (p : Int) = (p : Int) := by
          simp [IntKind.wrap, IntKind.signed, IntKind.bits]; omega
        clear HSb hp8
        by_cases h0 : d = 0
        · subst h0
          go_wp2_with fail
          refine (up_any (i := p) HS.out.mac hN.out.fits).mono ?_
          rintro e w3 ⟨rfl, hM, hc⟩
          have HS3 := Lib.hid (HS.out.prog hM hc)
          have a1 : w3.cell? ⟨q, 1, none⟩ = some (.int .u8 (p : Nat)) := (HS.out.blk HB.out HQG.out hc).cell 1
          clear hM hc a0 a13
          go_wp2_with fail
          refine (power_ref (i := p) HS3.out.dm hN.out true).mono ?_
          rintro e w4 ⟨rfl, hD, hc⟩
          have HS4 : Hid (PlT W g m pb fb c cf (M.upP p) (M.upP p) w4) := Lib.hid (HS3.out.doc hD hc)
          have HN4 := Lib.hid (Mch.upP_sane hN.out p)
          clear hD hc a1
          go_wp2_with fail
          refine (sent_any (l := []) (fun h => absurd h (by simp)) (fun h => absurd h (by simp)) (by simp)).mono ?_
          rintro e w5 ⟨rfl, hg⟩
          have HS5 := Lib.hid (HS4.out.gro hg)
          clear hg
          go_wp2_with fail
          refine (same_any HS5.out.mac HS5.out.dm HN4.out.good).mono ?_
          rintro e w6 ⟨rfl, hg⟩
          have HS6 := Lib.hid (HS5.out.gro hg)
          clear hg HS5
          go_wp2_with fail
          go_roundw
          case rel => exact ⟨k + 1, _, _, _, by omega, by go_num, HS6, HN4⟩
          case measure => simp [intOf]; omega
        by_cases h1 : d = 1
        · subst h1
          go_wp2_with fail
          refine (down_any (i := p) HS.out.mac hN.out.fits).mono ?_
          rintro e w3 ⟨rfl, hM, hc⟩
          have HS3 := Lib.hid (HS.out.prog hM hc)
          have a1 : w3.cell? ⟨q, 1, none⟩ = some (.int .u8 (p : Nat)) := (HS.out.blk HB.out HQG.out hc).cell 1
          clear hM hc a0 a13
          go_wp2_with fail
          refine (power_ref (i := p) HS3.out.dm hN.out false).mono ?_
          rintro e w4 ⟨rfl, hD, hc⟩
          have HS4 : Hid (PlT W g m pb fb c cf (M.downP p) (M.downP p) w4) := Lib.hid (HS3.out.doc hD hc)
          have HN4 := Lib.hid (Mch.downP_sane hN.out p)
          clear hD hc a1
          go_wp2_with fail
          refine (sent_any (l := []) (fun h => absurd h (by simp)) (fun h => absurd h (by simp)) (by simp)).mono ?_
          rintro e w5 ⟨rfl, hg⟩
          have HS5 := Lib.hid (HS4.out.gro hg)
          clear hg
          go_wp2_with fail
          refine (same_any HS5.out.mac HS5.out.dm HN4.out.good).mono ?_
          rintro e w6 ⟨rfl, hg⟩
          have HS6 := Lib.hid (HS5.out.gro hg)
          clear hg HS5
          go_wp2_with fail
          go_roundw
          case rel => exact ⟨k + 1, _, _, _, by omega, by go_num, HS6, HN4⟩
          case measure => simp [intOf]; omega
        by_cases h2 : d = 2
        · subst h2
          go_wp2_with fail
          refine (tick_any HS.out.mac hN.out.fits).mono ?_
          rintro e w3 ⟨A1, c1, rfl, hE1, hM, hc, hn1⟩
          have HS3 := Lib.hid (HS.out.prog hM hc)
          have HE1 := Lib.hid hE1
          have HN1 : Hid (∀ b off, A1 = some ⟨b, off, none⟩ → ¬ XD m pb fb b) := Lib.hid (fun b off e hx => by have h1 := hn1 b off e; have h2 := HS.out.dm.lt; rcases hx with h | h | h <;> omega)
          clear hM hc a0 a13 hE1 hn1
          go_wp2_with fail
          refine (tick_ref HS3.out.dm hN.out).mono ?_
          rintro e w4 ⟨A2, c2, rfl, hE2, hD, hc⟩
          have HS4 := Lib.hid (HS3.out.doc hD hc)
          have HE3 := Lib.hid (els_chg HE1.out hc HN1.out)
          have HE2 := Lib.hid hE2
          have HN4 := Lib.hid (Mch.tick_sane hN.out)
          clear hD hc hE2 HE1 HN1
          go_wp2_with fail
          refine (sent_any (l := M.tickS) HE3.out HE2.out (Nat.le_trans (tickS_len M) (by have := hN.out.fits.n8; omega))).mono ?_
          rintro e w5 ⟨rfl, hg⟩
          have HS5 := Lib.hid (HS4.out.gro hg)
          clear hg
          go_wp2_with fail
          refine (same_any HS5.out.mac HS5.out.dm HN4.out.good).mono ?_
          rintro e w6 ⟨rfl, hg⟩
          have HS6 := Lib.hid (HS5.out.gro hg)
          clear hg HS5
          go_wp2_with fail
          go_roundw
          case rel => exact ⟨k + 1, _, _, _, by omega, by go_num, HS6, HN4⟩
          case measure => simp [intOf]; omega
        by_cases h3 : d = 3
        · subst h3
          go_wp2_with fail
          refine (flush_tree HS.out.mac hN.out.fits.n8).mono ?_
          rintro e w3 ⟨rfl, hM, hc⟩
          have HS3 := Lib.hid (HS.out.prog hM hc)
          clear hM hc a0 a13
          obtain ⟨F, hF⟩ : ∃ F, flN M.fl = F := ⟨_, rfl⟩
          rw [hF]
          have HFF := Lib.hid hF
          clear hF
          go_wp2_with fail
          refine (flushed_ref HS3.out.dm hN.out.fits.n8).mono ?_
          rintro e w4 ⟨rfl, fb2, cf2, hD, hc, hf2⟩
          rw [HFF.out]
          have HS4 := Lib.hid (HS3.out.flush hD hc hf2)
          have HN4 := Lib.hid (Mch.flush_sane hN.out)
          clear hD hc hf2 HFF
          go_wp2_with fail
          refine (sent_any (l := []) (fun h => absurd h (by simp)) (fun h => absurd h (by simp)) (by simp)).mono ?_
          rintro e w5 ⟨rfl, hg⟩
          have HS5 := Lib.hid (HS4.out.gro hg)
          clear hg
          go_wp2_with fail
          refine (same_any HS5.out.mac HS5.out.dm HN4.out.good).mono ?_
          rintro e w6 ⟨rfl, hg⟩
          have HS6 := Lib.hid (HS5.out.gro hg)
          clear hg HS5
          go_wp2_with fail
          go_roundw
          case rel => exact ⟨k + 1, _, _, _, by omega, by go_num, HS6, HN4⟩
          case measure => simp [intOf]; omega
        have b0 : ((d : Int) == 0) = false := beq_eq_false_iff_ne.2 (by omega)
        have b1 : ((d : Int) == 1) = false := beq_eq_false_iff_ne.2 (by omega)
        have b2 : ((d : Int) == 2) = false := beq_eq_false_iff_ne.2 (by omega)
        have b3 : ((d : Int) == 3) = false := beq_eq_false_iff_ne.2 (by omega)
        clear h0 h1 h2 h3
        obtain ⟨wc, hwc⟩ : ∃ wc, wb.alloc (.cells #[.int .u64 0, .int .u32 0, .int .u64 0, .int .u8 0, .int .u8 0, .int .u64 0, .int .u8 0, .bool false, .bool false, .bool false, .int .u64 0] 37) = wc := ⟨_, rfl⟩
        obtain ⟨q2, hq2⟩ : ∃ q2, wb.heap.size = q2 := ⟨_, rfl⟩
        have HQ2 : Hid (W.heap.size ≤ q2 ∧ wb.heap.size ≤ q2 ∧ q ≠ q2 ∧ q2 ≠ g) := Lib.hid (by have h1 := HS.out.bel.size; have h2 := Blk.lt HB.out; have h3 := Blk.lt HS.out.mac; omega)
        have HQ3 : Hid (g < q2 ∧ m < q2 ∧ pb < q2 ∧ fb < q2) := Lib.hid (by have h2 := HS.out.dm.lt; have h3 := Blk.lt HS.out.mac; omega)
        have HWC := Lib.hid (And.intro hwc hq2)
        have HBb : Hid (Blk wc q2 37 #[.int .u64 0, .int .u32 0, .int .u64 0, .int .u8 0, .int .u8 0, .int .u64 0, .int .u8 0, .bool false, .bool false, .bool false, .int .u64 0]) := Lib.hid (by rw [← hwc, ← hq2]; exact Blk.new _ _ _)
        have HBB : Hid (Below wb.heap.size wb wc) := Lib.hid (by rw [← hwc]; exact (Below.refl _ _).alloc (Nat.le_refl _) _)
        have HCB : Hid (∀ j u, (encBp bx)[j]? = some u → wb.cell? ⟨q, 2 + j, none⟩ = some u) := Lib.hid (fun j u hu => by
          rw [HB.out.cell (2 + j)]
          have h11 : j < (encBp bx).length := (List.getElem?_eq_some_iff.1 hu).1
          show (encT ⟨d, p, bx, ex⟩).toArray[2 + j]? = some u
          rw [List.getElem?_toArray, show 2 + j = j + 1 + 1 from by omega]
          show (encBp bx ++ [.bool ex])[j]? = some u
          rw [List.getElem?_append_left h11]
          exact hu)
        clear hwc hq2
        go_upto_region 17 with (first
          | (refine wpList_load_atT 37 63 rfl (by kernel_rfl) q 2 (encBp bx) rfl HCB.out (fun w => by kernel_rfl) (fun w => by have := Try.sizeOf37; exact this w) ?_)
          | (rw [HWC.out.1, HWC.out.2]; refine wpList_store_row rfl 37 (.tmp 14) (.tmp 64) rfl q2 rfl (encBp bx).toArray rfl 37 _ HBb.out (by kernel_rfl) rfl (by kernel_rfl) ?_))
        have HSd : Hid (PlT W g m pb fb c cf M M (wc.setRow q2 (encBp bx).toArray)) := Lib.hid (HS.out.next (below_row HBB.out HQ2.out.2.1 _))
        have HBd : Hid (Blk (wc.setRow q2 (encBp bx).toArray) q 39 (encT ⟨d, p, bx, ex⟩).toArray) := Lib.hid ((HB.out.below HBB.out HB.out.lt).rowFar HQ2.out.2.2.1 _)
        have HXd : Hid (BpA 37 (wc.setRow q2 (encBp bx).toArray) q2 bx) := Lib.hid (HBb.out.row _)
        clear HWC HBb HBB HCB HS HB a0 a1 a13
        generalize wc.setRow q2 (encBp bx).toArray = wd at *
        have a1 : wd.cell? ⟨q, 1, none⟩ = some (.int .u8 (p : Nat)) := HBd.out.cell 1
        have a13 : wd.cell? ⟨q, 13, none⟩ = some (.bool ex) := HBd.out.cell 13
        have HFB : Hid (bx.fit) := Lib.hid (ok_fit9 HX.out.b)
        cases ex
        · go_wp2_with fail
          clear a13
          have kO := fun W' => lof_any W' bx
          obtain ⟨e0, e1, e2, e3, e4, e5, e6, e7, e8, e9, e10⟩ := HXd.out.cells
          go_region_law (first
            | (go_simp; go_at_call 19; refine (lof_any _ bx).mono ?_; rintro e w5 ⟨rfl, hg⟩; have HSe := Lib.hid (HSd.out.gro (Gro.trans (by repeat (first | exact Gro.refl _ | (refine Gro.drew ?_))) hg)); have y1 : w5.cell? ⟨q, 1, none⟩ = some (.int .u8 (p : Nat)) := (hg.below.cell (p := ⟨q, 1, none⟩) HBd.out.lt).trans a1; have HBe : Hid (Blk w5 q 39 (encT ⟨d, p, bx, false⟩).toArray) := Lib.hid (by first | exact Blk.below HBd.out hg.below HBd.out.lt | exact Blk.below (Blk.drew HBd.out) hg.below HBd.out.lt); have HXe : Hid (BpA 37 w5 q2 bx) := Lib.hid (by first | exact Blk.below HXd.out hg.below (Blk.lt HXd.out) | exact Blk.below (Blk.drew HXd.out) hg.below (Blk.lt HXd.out)); clear hg)
            | (go_simp; go_at_call 18; refine (hear_any (i := p) HSe.out.mac hN.out.fits HFB.out).mono ?_; rintro e w6 ⟨A1, c1, rfl, hE1, hM, hc, hn1⟩; have HE1 := Lib.hid hE1; have HM1 := Lib.hid (And.intro hM (And.intro hc hn1)); clear hE1 hM hc hn1)
            | fail "no")
          all_goals (
            have HS3 := Lib.hid (HSe.out.prog HM1.out.1 HM1.out.2.1)
            have HB3 := Lib.hid (HSe.out.blk HBe.out HQG.out HM1.out.2.1)
            have HX3 : Hid (BpA 37 w6 q2 bx) := Lib.hid (HSe.out.blk HXe.out HQ2.out.2.2.2 HM1.out.2.1)
            have z1 : w6.cell? ⟨q, 1, none⟩ = some (.int .u8 (p : Nat)) := HB3.out.cell 1
            have HN1 : Hid (∀ b off, A1 = some ⟨b, off, none⟩ → ¬ XD m pb fb b) := Lib.hid (fun b off e hx => by have h1 := HM1.out.2.2 b off e; have h2 := HSe.out.dm.lt; rcases hx with h | h | h <;> omega)
            clear a1 y1 e0 e1 e2 e3 e4 e5 e6 e7 e8 e9 e10 HM1 HSe HBe HXe HSd HBd HXd
            go_wp2_with (refine load_rb 14 rfl (by kernel_rfl) q2 bx rfl HX3.out ?_)
            refine (hear_ref (i := p) HS3.out.dm hN.out HFB.out).mono ?_
            rintro e w7 ⟨A2, c2, rfl, hE2, hD, hc⟩
            have HS4 := Lib.hid (HS3.out.doc hD hc)
            have HE3 := Lib.hid (els_chg HE1.out hc HN1.out)
            have HE2 := Lib.hid hE2
            have HN4 := Lib.hid (Mch.hear_sane hN.out p HFB.out)
            clear hD hc hE2 HE1 HN1 z1
            go_wp2_with fail
            refine (sent_any (l := M.hearS p bx) HE3.out HE2.out (Nat.le_trans (hearS_len M p bx) (by have := HN4.out.fits.n8; omega))).mono ?_
            rintro e w5 ⟨rfl, hg⟩
            have HS5 := Lib.hid (HS4.out.gro hg)
            clear hg
            go_wp2_with fail
            refine (same_any HS5.out.mac HS5.out.dm HN4.out.good).mono ?_
            rintro e w6 ⟨rfl, hg⟩
            have HS6 := Lib.hid (HS5.out.gro hg)
            clear hg HS5
            go_wp2_with fail
            go_roundw
            case rel => exact ⟨k + 1, _, _, _, by omega, by go_num, HS6, HN4⟩
            case measure => simp [intOf]; omega)
        · have c6 := HSd.out.dm.hd.cell 6
          have f10 : wd.frozen? ⟨q2, 10, none⟩ = false := Blk.frozen HXd.out 10
          have x10 : wd.cell? ⟨q2, 10, none⟩ = some (.int .u64 bx.ec) := Blk.cell HXd.out 10
          have HSf : Hid (PlT W g m pb fb c cf M M (wd.setCell ⟨q2, 10, none⟩ (.int .u64 M.ver))) := Lib.hid (by
            have hc : Chg (· = q2) wd (wd.setCell ⟨q2, 10, none⟩ (.int .u64 M.ver)) := (Chg.refl (· = q2) wd).setCell (p := ⟨q2, 10, none⟩) (.inr rfl) _
            have h3 := HQ3.out
            have h := HSd.out
            exact ⟨Blk.chg h.mac hc (fun e => by have e' : g = q2 := e; omega), h.dm.chg hc (fun e => by have e' : m = q2 := e; omega) (fun e => by have e' : pb = q2 := e; omega) (fun e => by have e' : fb = q2 := e; omega), h.bel.trans (hc.below h.bel.size (fun k hk e => by have e' : k = q2 := e; have := HQ2.out.1; omega)), h.lo, h.ne⟩)
          have HBf : Hid (Blk (wd.setCell ⟨q2, 10, none⟩ (.int .u64 M.ver)) q 39 (encT ⟨d, p, bx, true⟩).toArray) := Lib.hid (HBd.out.far (p := ⟨q2, 10, none⟩) HQ2.out.2.2.1 _)
          obtain ⟨bz, hbz⟩ : ∃ z, ({ bx with ec := M.ver } : Bp) = z := ⟨_, rfl⟩
          have HXf : Hid (BpA 37 (wd.setCell ⟨q2, 10, none⟩ (.int .u64 M.ver)) q2 bz) := Lib.hid (by rw [← hbz]; exact Blk.put HXd.out 10 _)
          have HFz : Hid (bz.fit) := Lib.hid (by rw [← hbz]; exact ⟨HFB.out.c, HFB.out.h⟩)
          clear HFB HSd HBd HXd a1 hbz
          go_wp2_with fail
          clear a13 x10 f10 c6
          generalize wd.setCell ⟨q2, 10, none⟩ (.int .u64 M.ver) = we at *
          obtain ⟨wd, rfl⟩ : ∃ y, y = we := ⟨_, rfl⟩
          have HSd := HSf
          have HBd := HBf
          have HXd := HXf
          have HFB := HFz
          clear HSf HBf HXf HFz
          have a1 : wd.cell? ⟨q, 1, none⟩ = some (.int .u8 (p : Nat)) := HBd.out.cell 1
          have kO := fun W' => lof_any W' bz
          obtain ⟨e0, e1, e2, e3, e4, e5, e6, e7, e8, e9, e10⟩ := HXd.out.cells
          go_region_law (first
            | (go_simp; go_at_call 19; refine (lof_any _ bz).mono ?_; rintro e w5 ⟨rfl, hg⟩; have HSe := Lib.hid (HSd.out.gro (Gro.trans (by repeat (first | exact Gro.refl _ | (refine Gro.drew ?_))) hg)); have y1 : w5.cell? ⟨q, 1, none⟩ = some (.int .u8 (p : Nat)) := (hg.below.cell (p := ⟨q, 1, none⟩) HBd.out.lt).trans a1; have HBe : Hid (Blk w5 q 39 (encT ⟨d, p, bx, true⟩).toArray) := Lib.hid (by first | exact Blk.below HBd.out hg.below HBd.out.lt | exact Blk.below (Blk.drew HBd.out) hg.below HBd.out.lt); have HXe : Hid (BpA 37 w5 q2 bz) := Lib.hid (by first | exact Blk.below HXd.out hg.below (Blk.lt HXd.out) | exact Blk.below (Blk.drew HXd.out) hg.below (Blk.lt HXd.out)); clear hg)
            | (go_simp; go_at_call 18; refine (hear_any (i := p) HSe.out.mac hN.out.fits HFB.out).mono ?_; rintro e w6 ⟨A1, c1, rfl, hE1, hM, hc, hn1⟩; have HE1 := Lib.hid hE1; have HM1 := Lib.hid (And.intro hM (And.intro hc hn1)); clear hE1 hM hc hn1)
            | fail "no")
          all_goals (
            have HS3 := Lib.hid (HSe.out.prog HM1.out.1 HM1.out.2.1)
            have HB3 := Lib.hid (HSe.out.blk HBe.out HQG.out HM1.out.2.1)
            have HX3 : Hid (BpA 37 w6 q2 bz) := Lib.hid (HSe.out.blk HXe.out HQ2.out.2.2.2 HM1.out.2.1)
            have z1 : w6.cell? ⟨q, 1, none⟩ = some (.int .u8 (p : Nat)) := HB3.out.cell 1
            have HN1 : Hid (∀ b off, A1 = some ⟨b, off, none⟩ → ¬ XD m pb fb b) := Lib.hid (fun b off e hx => by have h1 := HM1.out.2.2 b off e; have h2 := HSe.out.dm.lt; rcases hx with h | h | h <;> omega)
            clear a1 y1 e0 e1 e2 e3 e4 e5 e6 e7 e8 e9 e10 HM1 HSe HBe HXe HSd HBd HXd
            go_wp2_with (refine load_rb 14 rfl (by kernel_rfl) q2 bz rfl HX3.out ?_)
            refine (hear_ref (i := p) HS3.out.dm hN.out HFB.out).mono ?_
            rintro e w7 ⟨A2, c2, rfl, hE2, hD, hc⟩
            have HS4 := Lib.hid (HS3.out.doc hD hc)
            have HE3 := Lib.hid (els_chg HE1.out hc HN1.out)
            have HE2 := Lib.hid hE2
            have HN4 := Lib.hid (Mch.hear_sane hN.out p HFB.out)
            clear hD hc hE2 HE1 HN1 z1
            go_wp2_with fail
            refine (sent_any (l := M.hearS p bz) HE3.out HE2.out (Nat.le_trans (hearS_len M p bz) (by have := HN4.out.fits.n8; omega))).mono ?_
            rintro e w5 ⟨rfl, hg⟩
            have HS5 := Lib.hid (HS4.out.gro hg)
            clear hg
            go_wp2_with fail
            refine (same_any HS5.out.mac HS5.out.dm HN4.out.good).mono ?_
            rintro e w6 ⟨rfl, hg⟩
            have HS6 := Lib.hid (HS5.out.gro hg)
            clear hg HS5
            go_wp2_with fail
            go_roundw
            case rel => exact ⟨k + 1, _, _, _, by omega, by go_num, HS6, HN4⟩
            case measure => simp [intOf]; omega)
      · obtain rfl : k = n := by omega
        go_wp2_with fail
        refine (flush_tree hS.out.mac hN.out.fits.n8).mono ?_
        rintro e w3 ⟨rfl, hM, hc⟩
        have HS3 := Lib.hid (hS.out.prog hM hc)
        clear hM hc
        obtain ⟨F, hF⟩ : ∃ F, flN M.fl = F := ⟨_, rfl⟩
        rw [hF]
        have HFF := Lib.hid hF
        clear hF
        go_wp2_with fail
        refine (flushed_ref HS3.out.dm hN.out.fits.n8).mono ?_
        rintro e w4 ⟨rfl, fb2, cf2, hD, hc, hf2⟩
        rw [HFF.out]
        have HS4 := Lib.hid (HS3.out.flush hD hc hf2).bel
        clear hD hc hf2 HFF
        go_wp2_with fail
        refine (wakes9_any _).mono ?_
        rintro e w9 ⟨rfl, hb⟩
        have HB9 : Hid (Below W.heap.size W w9) := Lib.hid (HS4.out.trans (hb.mono HS4.out.size))
        clear hb
        go_wp2
        go_ret
        exact ⟨rfl, HB9.out⟩

end Go.Proofs.Ytlpmilaofcakbaa
