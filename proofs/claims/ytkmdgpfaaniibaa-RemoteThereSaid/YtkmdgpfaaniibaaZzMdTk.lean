/- package maid's Take. -/
import Derived.Test.YtkmdgpfaaniibaaZz
import Derived.Test.YtkmdgpfaaniibaaZzMdRep
namespace Go.Proofs.Ytkmdgpfaaniibaa
open Go.RowKit
set_option linter.unusedVariables false
set_option linter.unusedSimpArgs false
set_option maxRecDepth 100000

/-- read's memory: its reader's box, the reader -/
structure RdM (W : World) (b : Nat) (s : List UInt8 × Int) (w : World) : Prop where
  box : w.cell? ⟨W.heap.size, 0, none⟩ = some (.pointer (some ⟨b, 0, none⟩))
  lt : b < W.heap.size
  lt2 : W.heap.size < w.heap.size
  rdr : Rdr w b s.1 s.2
  chg : Chg (only b) W w
theorem RdM.call {W w w' : World} {b : Nat} {s s' : List UInt8 × Int} (h : RdM W b s w) (hr : Rdr w' b s'.1 s'.2) (hc : Chg (only b) w w') : RdM W b s' w' := by
  have hl := h.lt
  have hl2 := h.lt2
  exact ⟨(Chg.cell hc (p := ⟨W.heap.size, 0, none⟩) hl2 (by unfold only; simp; omega)).trans h.box, h.lt, Nat.lt_of_lt_of_le hl2 hc.size, hr, h.chg.trans (hc.mono (fun k _ hk => hk))⟩
theorem RdM.ne {W w : World} {b : Nat} {s : List UInt8 × Int} (h : RdM W b s w) : W.heap.size ≠ b := by have := h.lt; omega
set_option maxHeartbeats 1000000 in
theorem mdread_any {W : World} {b : Nat} {l : List UInt8} (h : Rdr W b l 0) :
    Calls Try.prog 56 #[.pointer (some ⟨b, 0, none⟩)] W fun e w' => e = .returned (.tuple #[.string ⟨(rdA l).toArray⟩, .string ⟨(rdB l).toArray⟩]) ∧ Chg (only b) W w' := by
  have H0 : Hid (RdM W b (l, 0) (W.alloc (.cells #[.pointer (some ⟨b, 0, none⟩)] 102))) := Lib.hid ⟨Blk.cell (Blk.new _ _ _) 0, Blk.lt h, by simp, Blk.alloc h _, (Chg.refl _ _).alloc _⟩
  have hmf : ∀ (fn : Fn) (first cap : Array Value) (w : World), (Instr.makeFunc fn first cap).run Try.prog w = .ok (.func fn first cap) w := fun _ _ _ _ => rfl
  obtain ⟨x, hx⟩ : ∃ x, (rdU (l, 0)).1 = x := ⟨_, rfl⟩
  have hA : rdA l = if x = 4 then (rdN (rdU (l, 0)).2).1 else [] := by unfold rdA; rw [hx]
  have hB : rdB l = if x = 4 then (rdN (rdU (rdN (rdU (l, 0)).2).2).2).1 else (rdN (rdU (rdU (l, 0)).2).2).1 := by unfold rdB; rw [hx]
  obtain ⟨s1, hs1⟩ : ∃ s1, (rdU (l, 0)).2 = s1 := ⟨_, rfl⟩
  rw [hs1] at hA hB
  have HA := Lib.hid hA
  have HB := Lib.hid hB
  have KU := Lib.hid (fun w => @u8m_any w b (l, 0))
  rw [hx, hs1] at KU
  clear hA hB hx hs1 h
  have box0 := H0.out.box
  go_enter Try.func56, Try.ntmps56
  go_wp2_with fail
  refine (KU.out _ H0.out.rdr).mono ?_
  rintro e w1 ⟨rfl, hr1, hc1⟩
  have H1 : Hid (RdM W b s1 w1) := Lib.hid (H0.out.call hr1 hc1)
  clear hr1 hc1 box0 H0
  have box1 := H1.out.box
  by_cases h4 : x = 4
  · have ex : ((x : Int) == 4) = true := by simp; omega
    have HX := Lib.hid h4
    clear h4
    go_wp2_with fail
    refine (name_any H1.out.ne H1.out.box H1.out.rdr).mono ?_
    rintro e w2 ⟨rfl, hr2, hc2⟩
    have H2 : Hid (RdM W b (rdN s1).2 w2) := Lib.hid (H1.out.call hr2 hc2)
    clear hr2 hc2 box1 H1
    have box2 := H2.out.box
    generalize hd : (rdN s1).1 = d at *
    generalize hs2 : (rdN s1).2 = s2 at *
    have HD := Lib.hid hd
    have HS2 := Lib.hid hs2
    clear hd hs2
    go_wp2_with fail
    refine (u8m_any H2.out.rdr).mono ?_
    rintro e w3 ⟨rfl, hr3, hc3⟩
    have H3 : Hid (RdM W b (rdU s2).2 w3) := Lib.hid (H2.out.call hr3 hc3)
    clear hr3 hc3 box2 H2
    have box3 := H3.out.box
    go_wp2_with fail
    refine (name_any H3.out.ne H3.out.box H3.out.rdr).mono ?_
    rintro e w4 ⟨rfl, hr4, hc4⟩
    have H4 : Hid (RdM W b (rdN (rdU s2).2).2 w4) := Lib.hid (H3.out.call hr4 hc4)
    clear hr4 hc4 box3 H3
    go_wp2
    go_ret2
    refine ⟨?_, H4.out.chg⟩
    rw [HA.out, HB.out, if_pos HX.out, if_pos HX.out]
    rfl
  · have ex : ((x : Int) == 4) = false := by rw [beq_eq_false_iff_ne]; omega
    have HX := Lib.hid h4
    clear h4
    go_wp2_with fail
    refine (u8m_any H1.out.rdr).mono ?_
    rintro e w3 ⟨rfl, hr3, hc3⟩
    have H3 : Hid (RdM W b (rdU s1).2 w3) := Lib.hid (H1.out.call hr3 hc3)
    clear hr3 hc3 box1 H1
    have box3 := H3.out.box
    go_wp2_with fail
    refine (name_any H3.out.ne H3.out.box H3.out.rdr).mono ?_
    rintro e w4 ⟨rfl, hr4, hc4⟩
    have H4 : Hid (RdM W b (rdN (rdU s1).2).2 w4) := Lib.hid (H3.out.call hr4 hc4)
    clear hr4 hc4 box3 H3
    go_wp2
    go_ret2
    refine ⟨?_, H4.out.chg⟩
    rw [HA.out, HB.out, if_neg HX.out, if_neg HX.out]
    rfl
set_option maxHeartbeats 1000000 in
theorem mdtake (s : List UInt8) (w : World) :
    Calls Try.prog 48 #[.string ⟨s.toArray⟩] w fun e w' => e = .returned (.tuple #[.string ⟨(ptA s).toArray⟩, .string ⟨(ptB s).toArray⟩, .int .i64 (ptE s)]) ∧ Below w.heap.size w w' := by
  have hla := rdA_len s
  have hlb := rdB_len s
  obtain ⟨a, ha⟩ : ∃ a, rdA s = a := ⟨_, rfl⟩
  obtain ⟨b, hb⟩ : ∃ b, rdB s = b := ⟨_, rfl⟩
  have KR := Lib.hid (fun w b => @mdread_any w b s)
  have hA : ptA s = if mdE a b = 0 ∧ mdV a b = s then a else [] := by unfold ptA; rw [ha, hb]
  have hB : ptB s = if mdE a b = 0 ∧ mdV a b = s then b else [] := by unfold ptB; rw [ha, hb]
  have hE : ptE s = if mdE a b = 0 ∧ mdV a b = s then 0 else 4 := by unfold ptE; rw [ha, hb]
  rw [ha, hb] at KR
  rw [ha] at hla
  rw [hb] at hlb
  have KP := Lib.hid (fun w => mdput a b w (by omega) (by omega))
  have HH := Lib.hid (And.intro hA (And.intro hB hE))
  clear hA hB hE ha hb hla hlb
  go_enter Try.func48, Try.ntmps48
  go_wp2_with fail
  refine (of_any s).mono ?_
  rintro e w1 ⟨rfl, hr1, hb1⟩
  have HR1 := Lib.hid hr1
  have HB1 := Lib.hid hb1
  clear hr1 hb1
  go_wp2_with fail
  refine (KR.out _ _ HR1.out).mono ?_
  rintro e w2 ⟨rfl, hc2⟩
  have HB2 : Hid (Below w.heap.size w w2) := Lib.hid (HB1.out.trans (Chg.below hc2 HB1.out.size (fun k hk h => by unfold only at h; omega)))
  clear hc2
  go_wp2_with fail
  refine (KP.out _).mono ?_
  obtain ⟨V, hV⟩ : ∃ V, mdV a b = V := ⟨_, rfl⟩
  obtain ⟨E, hE⟩ : ∃ E, mdE a b = E := ⟨_, rfl⟩
  rw [hV, hE]
  rw [hV, hE] at HH
  rintro e w3 ⟨rfl, hb3⟩
  have HB3 : Hid (Below w.heap.size w w3) := Lib.hid (HB2.out.trans (hb3.mono HB2.out.size))
  clear hb3 hV hE KP KR
  by_cases h0 : E = 0
  · subst h0
    by_cases hv : V = s
    · have hq : (V == s) = true := by simpa using hv
      have hq2 : ((⟨V.toArray⟩ : ByteArray).toList == (⟨s.toArray⟩ : ByteArray).toList) = true := by rw [ByteArray.toList_eq, ByteArray.toList_eq]; simpa using hv
      obtain ⟨e1, e2, e3⟩ := HH.out
      rw [if_pos ⟨rfl, hv⟩] at e1 e2 e3
      have H1 := Lib.hid (And.intro e1 (And.intro e2 e3))
      clear hv e1 e2 e3 HH
      go_wp2
      go_ret3
      exact ⟨by rw [H1.out.1, H1.out.2.1, H1.out.2.2]; rfl, HB3.out⟩
    · have hq : (V == s) = false := by simpa using hv
      have hq2 : ((⟨V.toArray⟩ : ByteArray).toList == (⟨s.toArray⟩ : ByteArray).toList) = false := by rw [ByteArray.toList_eq, ByteArray.toList_eq]; simpa using hv
      obtain ⟨e1, e2, e3⟩ := HH.out
      rw [if_neg (fun h => hv h.2)] at e1 e2 e3
      have H1 := Lib.hid (And.intro e1 (And.intro e2 e3))
      clear hv e1 e2 e3 HH
      go_wp2
      go_ret3
      exact ⟨by rw [H1.out.1, H1.out.2.1, H1.out.2.2]; rfl, HB3.out⟩
  · have hq : (E != 0) = true := by simpa using h0
    obtain ⟨e1, e2, e3⟩ := HH.out
    rw [if_neg (fun h => h0 h.1)] at e1 e2 e3
    have H1 := Lib.hid (And.intro e1 (And.intro e2 e3))
    have HE0 := Lib.hid h0
    clear h0 e1 e2 e3 HH
    go_wp2
    all_goals (first | (exfalso; exact HE0.out (by assumption)) | skip)
    go_ret3
    exact ⟨by rw [H1.out.1, H1.out.2.1, H1.out.2.2]; rfl, HB3.out⟩
end Go.Proofs.Ytkmdgpfaaniibaa
