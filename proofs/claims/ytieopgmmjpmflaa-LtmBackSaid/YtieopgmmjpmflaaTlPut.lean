/- package tlv: wrong, Put. -/
import Derived.Test.YtieopgmmjpmflaaTl
import Derived.Deep.DeepCutAuto
namespace Go.Proofs.Ytieopgmmjpmflaa
open Go.RowKit
set_option linter.unusedVariables false
set_option linter.unusedSimpArgs false
set_option maxRecDepth 100000

/-- what is wrong with a thing that is put -/
def tlW (x : Tl) : Nat := if x.k = 0 then 2 else if 1480 < x.v.length then 5 else 0
theorem u8_zero (u : UInt8) : ((u.toNat : Int) == 0) = (u == 0) := tl_eqI u 0
theorem wrong_any (x : Tl) (w : World) :
    Calls Try.prog 41 #[.agg #[.int .u8 x.k.toNat, .string ⟨x.v.toArray⟩]] w fun e w' => e = .returned (.int .i64 (tlW x : Nat)) ∧ Below w.heap.size w w' := by
  have HB : Hid (Below w.heap.size w (w.alloc (.cells #[.int .u8 x.k.toNat, .string ⟨x.v.toArray⟩] 69))) := Lib.hid ((Below.refl _ _).alloc (Nat.le_refl _) _)
  have HW : Hid (tlW x = if x.k = 0 then 2 else if 1480 < x.v.length then 5 else 0) := Lib.hid rfl
  by_cases h1 : x.k = 0
  · have e1 : ((x.k.toNat : Int) == 0) = true := by rw [u8_zero]; simpa using h1
    have H1 := Lib.hid h1
    clear h1
    go_enter Try.func41, Try.ntmps41
    go_wp2
    go_ret
    exact ⟨by rw [HW.out, if_pos H1.out]; rfl, HB.out⟩
  · have e1 : ((x.k.toNat : Int) == 0) = false := by rw [u8_zero]; simpa using h1
    have H1 := Lib.hid h1
    clear h1
    have hsz : (⟨x.v.toArray⟩ : ByteArray).size = x.v.length := rfl
    by_cases h2 : 1480 < x.v.length
    · have d2 : (1480 : Int) < (x.v.length : Int) := by omega
      have H2 := Lib.hid h2
      clear h2
      go_enter Try.func41, Try.ntmps41
      go_wp2
      go_ret
      exact ⟨by rw [HW.out, if_neg H1.out, if_pos H2.out]; rfl, HB.out⟩
    · have d2 : ¬ (1480 : Int) < (x.v.length : Int) := by omega
      have H2 := Lib.hid h2
      clear h2
      go_enter Try.func41, Try.ntmps41
      go_wp2
      go_ret
      exact ⟨by rw [HW.out, if_neg H1.out, if_neg H2.out]; rfl, HB.out⟩
set_option maxHeartbeats 2000000 in
theorem tlput_any (A : Option Addr) (c : Nat) (l : List Tl) (w : World) (hE : Els 2 tlV w A l) (hl : l.length ≤ 1000000) :
    Calls Try.prog 25 #[.slice A l.length c] w fun e w' => e = .returned (.tuple #[.string ⟨(tlP l).toArray⟩, .int .i64 (tlE l : Nat)]) ∧ Below w.heap.size w w' := by
  have HE := Lib.hid hE
  obtain ⟨n, hn⟩ : ∃ n, l.length = n := ⟨_, rfl⟩
  rw [hn] at hl
  have HN := Lib.hid hn
  have HL := Lib.hid hl
  rw [hn]
  clear hE hn
  have TE : Hid (∀ q : Int, ((tlE l : Nat) : Int) = q → tlE l = q.toNat) := Lib.hid (fun q h => by omega)
  go_enter Try.func25, Try.ntmps25
  go_wp2
  go_loopw [4, 10] (fun v i wr => ∃ k : Nat, k ≤ n ∧ i = .int .i64 k ∧ Hid (OwnB wr w.heap.size v (tlsB (l.take k))) ∧ Hid (Below w.heap.size w wr) ∧ Hid (tlE (l.take k) = 0)) (fun _ i _ => n - (intOf i).toNat)
  case atStart => exact ⟨0, Nat.zero_le _, rfl, Lib.hid (by simp only [List.take_zero]; exact World.ownsRow_nil _ _ _ _), Lib.hid (Below.refl _ _), Lib.hid (by rw [List.take_zero]; rfl)⟩
  case round =>
    obtain ⟨k, hk, rfl, HO, HB, HZ⟩ := hrel
    obtain ⟨R, hR⟩ : ∃ R, tlsB (l.take k) = R := ⟨_, rfl⟩
    rw [hR] at HO
    have HR := Lib.hid hR
    have HT : Hid (R.length ≤ 1483 * k) := Lib.hid (by rw [← hR]; exact tlsB_take_len k HZ.out)
    clear hR
    by_cases hlt : k < n
    · obtain ⟨x, hx⟩ : ∃ x, l[k]? = some x := ⟨_, List.getElem?_eq_getElem (by rw [HN.out]; exact hlt)⟩
      obtain ⟨b, off, rfl, hb, c0, c1⟩ := tl_at (HE.out.next HB.out) hx
      have hki : (k : Int) < n := by omega
      have HX := Lib.hid hx
      have HBLT := Lib.hid hb
      clear hx hb
      have HA : Hid (Below wr.heap.size wr (wr.alloc (.cells #[.int .u8 x.k.toNat, .string ⟨x.v.toArray⟩] 69))) := Lib.hid ((Below.refl _ _).alloc (Nat.le_refl _) _)
      have HK : Hid (Blk (wr.alloc (.cells #[.int .u8 x.k.toNat, .string ⟨x.v.toArray⟩] 69)) wr.heap.size 69 #[.int .u8 x.k.toNat, .string ⟨x.v.toArray⟩]) := Lib.hid (Blk.new _ _ _)
      go_wp2_with fail
      refine (wrong_any x _).mono ?_
      rintro e w1 ⟨rfl, hb1⟩
      have HO1 : Hid (OwnB w1 w.heap.size _ R) := Lib.hid (own_below HO.out (HA.out.trans (hb1.mono HA.out.size)))
      have HB1 : Hid (Below w.heap.size w w1) := Lib.hid (HB.out.trans ((HA.out.trans (hb1.mono HA.out.size)).mono HB.out.size))
      have HK1 := Lib.hid (HK.out.below hb1 HK.out.lt)
      obtain ⟨g, hg⟩ : ∃ g, wr.heap.size = g := ⟨_, rfl⟩
      rw [hg] at HK1
      rw [hg]
      clear hb1 HO HB HK HA c0 c1
      have HWD : Hid (tlW x = if x.k = 0 then 2 else if 1480 < x.v.length then 5 else 0) := Lib.hid rfl
      by_cases h0 : tlW x = 0
      · have e0 : (((tlW x : Nat) : Int) != 0) = false := by rw [h0]; rfl
        have hx0 : x.k ≠ 0 ∧ ¬ 1480 < x.v.length := by
          constructor
          · intro h; have := HWD.out; rw [if_pos h] at this; omega
          · intro h
            have := HWD.out
            by_cases h' : x.k = 0
            · rw [if_pos h'] at this; omega
            · rw [if_neg h', if_pos h] at this; omega
        have HS := Lib.hid (tlE_step HX.out HZ.out hx0.1 hx0.2)
        have hvl : x.v.length ≤ 1480 := by omega
        have hwr : IntKind.u16.wrap (x.v.length : Int) = (x.v.length : Int) := by simp [IntKind.wrap, IntKind.signed, IntKind.bits]; omega
        have k0 := HK1.out.cell 0
        have k1 := HK1.out.cell 1
        simp only [List.getElem?_toArray, List.getElem?_cons_succ, List.getElem?_cons_zero] at k0 k1
        clear h0 hx0
        go_wp2_with (at_builtin; refine append_bytes rfl (.tmp 19) (.tmp 22) rfl w.heap.size _ R rfl (HO1.out.alloc _) (some ⟨w1.heap.size, 0, none⟩) 1 1 [x.k] rfl rfl (by simp) (Byt.one _ _ _ _ rfl) (by have := HT.out; simp; omega) (by have := HB1.out.size; simp; omega) ?_)
        intro v2 w2 ho2 hg2
        have HB2 : Hid (Below w.heap.size w w2) := Lib.hid ((HB1.out.alloc HB1.out.size _).grown hg2 (by have := HB1.out.size; simp; omega) HO1.out.ge)
        have HK2 : Hid (Blk w2 g 69 #[.int .u8 x.k.toNat, .string ⟨x.v.toArray⟩]) := Lib.hid (blk_grownL (HK1.out.alloc _) hg2 (own_neL HO1.out HK1.out (by decide)))
        have HO2 := Lib.hid ho2
        clear ho2 hg2 k0 k1 HK1 HO1 HB1 e0 HWD
        have k0 := HK2.out.cell 0
        have k1 := HK2.out.cell 1
        simp only [List.getElem?_toArray, List.getElem?_cons_succ, List.getElem?_cons_zero] at k0 k1
        go_wp2_with fail
        refine (put16_any none 0 [] (x.v.length : Int) (Byt.nil_ _ _) (fun _ => rfl) (by simp) (by omega) (by omega)).mono ?_
        rintro e w3 ⟨v3, rfl, ho3, hb3⟩
        rw [List.nil_append, show ((x.v.length : Int)).toNat = x.v.length by omega] at ho3
        obtain ⟨A3, c3, rfl, hz3, hy3⟩ := ho3.str
        obtain ⟨D, hD⟩ : ∃ D, dig 2 x.v.length = D := ⟨_, rfl⟩
        have hDl : D.length = 2 := by rw [← hD]; exact dig_len 2 _
        rw [hD] at ho3 hy3
        rw [hD, hDl]
        have HD := Lib.hid (And.intro hD hDl)
        have HZ3 := Lib.hid hz3
        have HY3 := Lib.hid hy3
        have HO3 : Hid (OwnB w3 w.heap.size v2 (R ++ [x.k])) := Lib.hid (own_below HO2.out hb3)
        have HB3 : Hid (Below w.heap.size w w3) := Lib.hid (HB2.out.trans (hb3.mono HB2.out.size))
        have HK3 := Lib.hid (HK2.out.below hb3 HK2.out.lt)
        clear ho3 hz3 hy3 hb3 k0 k1 HK2 HO2 HB2 hD hDl hwr
        go_wp2_with (at_builtin; refine append_bytes rfl (.tmp 24) (.tmp 29) rfl w.heap.size _ (R ++ [x.k]) rfl HO3.out A3 2 c3 D rfl HD.out.2.symm HZ3.out HY3.out (by have := HT.out; rw [HD.out.2]; simp; omega) HB3.out.size ?_)
        intro v4 w4 ho4 hg4
        have HB4 : Hid (Below w.heap.size w w4) := Lib.hid (HB3.out.grown hg4 HB3.out.size HO3.out.ge)
        have HK4 : Hid (Blk w4 g 69 #[.int .u8 x.k.toNat, .string ⟨x.v.toArray⟩]) := Lib.hid (blk_grownL HK3.out hg4 (own_neL HO3.out HK3.out (by decide)))
        have HO4 := Lib.hid ho4
        clear ho4 hg4 HK3 HO3 HB3 HZ3 HY3
        have k0 := HK4.out.cell 0
        have k1 := HK4.out.cell 1
        simp only [List.getElem?_toArray, List.getElem?_cons_succ, List.getElem?_cons_zero] at k0 k1
        obtain ⟨R4, hR4⟩ : ∃ R4, R ++ x.k :: D = R4 := ⟨_, rfl⟩
        have HO5 : Hid (OwnB w4 w.heap.size v4 R4) := Lib.hid (by have := HO4.out; rw [← hR4]; simpa using this)
        have hlen4 : R4.length + x.v.length ≤ 140737488355328 := by have := HT.out; have := HD.out.2; have := HL.out; rw [← hR4]; simp only [List.length_append, List.length_cons, List.length_nil]; omega
        have HL4 := Lib.hid hlen4
        have HR4 := Lib.hid hR4
        clear hlen4 hR4 HO4
        go_wp2_with (at_builtin; refine append_textL rfl (.tmp 31) (.tmp 33) rfl w.heap.size _ R4 rfl HO5.out x.v rfl HL4.out HB4.out.size ?_)
        intro v5 w5 ho5 hg5
        have HB5 : Hid (Below w.heap.size w w5) := Lib.hid (HB4.out.grown hg5 HB4.out.size HO5.out.ge)
        have HO6 : Hid (OwnB w5 w.heap.size v5 (tlsB (l.take (k + 1)))) := Lib.hid (by
          rw [HS.out.2, HR.out]
          unfold tlB
          rw [HD.out.1]
          rw [← HR4.out] at ho5
          simpa using ho5)
        clear ho5 hg5 HK4 HO5 HB4 k0 k1
        go_wp2
        go_roundw
        case rel => exact ⟨k + 1, by omega, by go_num, HO6, HB5, Lib.hid HS.out.1⟩
        case measure => simp [intOf]; omega
      · have e0 : (((tlW x : Nat) : Int) != 0) = true := by simpa using h0
        have hte : tlE l = tlW x := by
          rw [tlE_at HX.out HZ.out, HWD.out]
          have h0' := h0
          rw [HWD.out] at h0'
          split
          · rfl
          · rename_i h1
            rw [if_neg h1] at h0'
            split
            · rfl
            · rename_i h2
              exact absurd (if_neg h2) h0'
        have htp : tlP l = [] := by unfold tlP; rw [if_neg (by rw [hte]; exact h0)]
        have HTE := Lib.hid (And.intro hte htp)
        clear h0 hte htp
        go_wp2
        go_ret2
        exact ⟨by rw [HTE.out.1, HTE.out.2]; rfl, HB1.out⟩
    · obtain rfl : k = n := by omega
      have htk : l.take k = l := List.take_of_length_le (by rw [HN.out]; omega)
      have HTP : Hid (tlE l = 0 ∧ tlP l = R ++ [0]) := Lib.hid (by
        have h0 := HZ.out
        have hR := HR.out
        rw [htk] at h0 hR
        refine ⟨h0, ?_⟩
        unfold tlP
        rw [if_pos h0, hR])
      clear htk
      go_wp2_with (at_builtin; refine append_bytes rfl (.tmp 36) (.tmp 37) rfl w.heap.size _ R rfl (HO.out.alloc _) (some ⟨wr.heap.size, 0, none⟩) 1 1 [0] rfl rfl (by simp) (Byt.one _ _ _ _ rfl) (by have := HT.out; simp; omega) (by have := HB.out.size; simp; omega) ?_)
      intro v2 w2 ho2 hg2
      have HB2 : Hid (Below w.heap.size w w2) := Lib.hid ((HB.out.alloc HB.out.size _).grown hg2 (by have := HB.out.size; simp; omega) HO.out.ge)
      have hcv := ho2.str.conv
      clear ho2 hg2
      go_wp2
      go_ret2
      exact ⟨by rw [HTP.out.1, HTP.out.2]; rfl, HB2.out⟩
end Go.Proofs.Ytieopgmmjpmflaa
