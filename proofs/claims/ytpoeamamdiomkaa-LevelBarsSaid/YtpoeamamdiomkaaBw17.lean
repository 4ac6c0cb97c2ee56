/- Layer 17: LevelBars's walk, over the package's contracts. -/
import Derived.Test.YtpoeamamdiomkaaLaw17
import Derived.Deep.RegionHeld3
import Derived.Laws.BitsAllLaws
import Derived.Deep.DeepCutAuto
namespace Go.Proofs.Ytpoeamamdiomkaa
open Go.RowKit
set_option linter.unusedVariables false
set_option linter.unusedSimpArgs false
set_option maxRecDepth 100000

theorem and1 : ∀ k : Fin 256, (bits BinOp.and IntKind.u8 ((k.val : Nat) : Int) 1 == 1) = (k.val % 2 == 1) := by decide +kernel
theorem shr1 (s : UInt8) (n : Nat) : (bits BinOp.and IntKind.u8 ((s.toNat : Int) / 2 ^ n) 1 == 1) = bt s n := by
  have e : ((s.toNat : Int) / 2 ^ n) = ((s.toNat / 2 ^ n : Nat) : Int) := by simp
  rw [e]
  exact and1 ⟨s.toNat / 2 ^ n, Nat.lt_of_le_of_lt (Nat.div_le_self _ _) s.toNat_lt⟩
theorem or_free (d u : UInt8) (l : Nat) (h : l < 8) : (bits BinOp.or IntKind.u8 (d.toNat : Int) (u.toNat : Int) / 2 ^ l == 0) = (!(hi d l) && !(hi u l)) := by
  rw [u8_or_nat _ _ d.toNat_lt u.toNat_lt, ← or_hi d u l h]
  have e : (((d.toNat ||| u.toNat : Nat) : Int) / 2 ^ l) = (((d.toNat ||| u.toNat) / 2 ^ l : Nat) : Int) := by simp
  rw [e, Bool.eq_iff_iff]
  simp only [beq_iff_eq]
  omega
theorem stands_any (s a : UInt8) (w : World) :
    Calls Try.prog 10 #[.int .u8 s.toNat, .int .u8 a.toNat] w fun e w' => e = .returned (.bool (sd s a)) ∧ w = w' := by
  by_cases h : a.toNat < 8
  · rw [sd_bt h]
    have p : (a.toNat : Int) < 8 := by omega
    have e := shr1 s a.toNat
    go_enter Try.func10, Try.ntmps10
    go_wp2
    go_ret
    exact ⟨rfl, rfl⟩
  · rw [sd_far h]
    have p : ¬ (a.toNat : Int) < 8 := by omega
    clear h
    go_enter Try.func10, Try.ntmps10
    go_wp2
    go_ret
    exact ⟨rfl, rfl⟩
/-- what the statement looks at: above all points, or not -/
theorem bars_is (d u : UInt8) (m : Int) (l f : UInt8) :
    (l.toNat < 8 ∧ hi d l.toNat = false ∧ hi u l.toNat = false ∧ fa d u m l.toNat = (if m = (l.toNat : Int) then 3 else 1) ∧ fa u d m l.toNat = (if m = (l.toNat : Int) then 3 else 1) ∧ sd d l = false ∧ sd u l = false ∧ (l.toNat ≤ f.toNat → sd d f = false ∧ sd u f = false)) ∨
    ((l.toNat < 8 → (!(hi d l.toNat) && !(hi u l.toNat)) = false) ∧ fa d u m l.toNat = (if sd d l then 2 else 0) ∧ fa u d m l.toNat = (if sd u l then 2 else 0)) := by
  by_cases hl : l.toNat < 8
  · by_cases hh : hi d l.toNat = true ∨ hi u l.toNat = true
    · refine .inr ⟨fun _ => ?_, ?_, ?_⟩
      · rcases hh with h | h <;> rw [h] <;> simp
      · rw [fa_bar hl hh, sd_bt hl]
      · rw [fa_bar hl hh.symm, sd_bt hl]
    · have h1 : hi d l.toNat = false := by rw [← Bool.not_eq_true]; exact fun e => hh (.inl e)
      have h2 : hi u l.toNat = false := by rw [← Bool.not_eq_true]; exact fun e => hh (.inr e)
      exact .inl ⟨hl, h1, h2, fa_free hl h1 h2, fa_free hl h2 h1, sd_free h1, sd_free h2, fun h => ⟨sd_above h1 h, sd_above h2 h⟩⟩
  · refine .inr ⟨fun h => absurd h hl, ?_, ?_⟩
    · rw [fa_far (by omega), sd_far hl]; rfl
    · rw [fa_far (by omega), sd_far hl]; rfl
theorem keep17b {W w w' : World} {gA : Nat} {d u : UInt8} {m : Int} (h0 : w.cell? ⟨gA, 0, none⟩ = some (.int .u8 d.toNat)) (h1 : w.cell? ⟨gA, 1, none⟩ = some (.int .u8 u.toNat)) (h2 : w.cell? ⟨gA, 2, none⟩ = some (.int .i64 m))  (hB : Hid (Below W.heap.size W w)) (hb : Below w.heap.size w w') : w'.cell? ⟨gA, 0, none⟩ = some (.int .u8 d.toNat) ∧ w'.cell? ⟨gA, 1, none⟩ = some (.int .u8 u.toNat) ∧ w'.cell? ⟨gA, 2, none⟩ = some (.int .i64 m) ∧ Hid (Below W.heap.size W w') := by
  have hk : ∀ {g i : Nat} {v : Value}, w.cell? ⟨g, i, none⟩ = some v → w'.cell? ⟨g, i, none⟩ = some v := fun {g i v} h => (hb.cell (p := ⟨g, i, none⟩) (World.block_lt_of_cell? w _ h)).trans h
  exact ⟨hk h0, hk h1, hk h2, Lib.hid (hB.out.trans (hb.mono hB.out.size))⟩
set_option maxHeartbeats 8000000 in
set_option maxRecDepth 100000 in
theorem levelbars_walk (HWC : LvWireC) (HRC : LvRelayC) (W : World) (d u : UInt8) (m : Int) (l f : UInt8) :
    Calls Try.prog 4 #[.agg #[.int .u8 d.toNat, .int .u8 u.toNat, .int .i64 m], .int .u8 l.toNat, .int .u8 f.toNat] W fun e w' => e = .returned (.bool true) ∧ Below W.heap.size W w' := by
  have HW := Lib.hid HWC
  have HR := Lib.hid HRC
  clear HWC HRC
  obtain ⟨F1, hF1⟩ : ∃ x, fa d u m l.toNat = x := ⟨_, rfl⟩
  obtain ⟨F2, hF2⟩ : ∃ x, fa u d m l.toNat = x := ⟨_, rfl⟩
  have hbars := bars_is d u m l f
  have KW := Lib.hid (fun w => HW.out d u m l w)
  have KR := Lib.hid (fun w => HR.out d u m l w)
  have K1 := Lib.hid (fun w => stands_any d f w)
  have K2 := Lib.hid (fun w => stands_any u f w)
  have K3 := Lib.hid (fun w => stands_any d l w)
  have K4 := Lib.hid (fun w => stands_any u l w)
  rw [hF1] at KW hbars
  rw [hF2] at KR hbars
  have HBARS := Lib.hid hbars
  clear hF1 hF2 hbars
  have HB0 : Hid (Below W.heap.size W (W.alloc (.cells #[.int .u8 d.toNat, .int .u8 u.toNat, .int .i64 m] 23)).drew) := Lib.hid ((Below.refl _ _).alloc (Nat.le_refl _) _).drew
  have HA0 : Hid (Blk (W.alloc (.cells #[.int .u8 d.toNat, .int .u8 u.toNat, .int .i64 m] 23)).drew W.heap.size 23 #[.int .u8 d.toNat, .int .u8 u.toNat, .int .i64 m]) := Lib.hid (Blk.drew (Blk.new W _ _))
  have k0 := HA0.out.cell 0
  have k1 := HA0.out.cell 1
  have k2 := HA0.out.cell 2
  simp only [List.getElem?_toArray, List.getElem?_cons_succ, List.getElem?_cons_zero] at k0 k1 k2
  go_enter Try.func4, Try.ntmps4
  go_upto_region 1 with (fail)
  have HBd := HB0
  clear HB0 HA0
  generalize hw1 : W.alloc (.cells #[.int .u8 d.toNat, .int .u8 u.toNat, .int .i64 m] 23) = w1 at *
  clear hw1
  go_cut [7, 8] (fun a b wx => a = .int .u8 (F1 : Nat) ∧ b = .int .u8 (F2 : Nat) ∧ wx.cell? ⟨W.heap.size, 0, none⟩ = some (.int .u8 d.toNat) ∧ wx.cell? ⟨W.heap.size, 1, none⟩ = some (.int .u8 u.toNat) ∧ wx.cell? ⟨W.heap.size, 2, none⟩ = some (.int .i64 m) ∧ Hid (Below W.heap.size W wx))
  case first =>
    go_region_held3 (fun w_ => w_.cell? ⟨W.heap.size, 0, none⟩ = some (.int .u8 d.toNat) ∧ w_.cell? ⟨W.heap.size, 1, none⟩ = some (.int .u8 u.toNat) ∧ w_.cell? ⟨W.heap.size, 2, none⟩ = some (.int .i64 m)) (first | go_keep)
      (first
        | (go_at_call 6; refine (KW.out _).mono ?_; rintro r w_ ⟨rfl, hb_⟩; obtain ⟨k0, k1, k2, HBd⟩ := keep17b (gA := W.heap.size) k0 k1 k2 HBd hb_; clear hb_)
        | (go_at_call 8; refine (KR.out _).mono ?_; rintro r w_ ⟨rfl, hb_⟩; obtain ⟨k0, k1, k2, HBd⟩ := keep17b (gA := W.heap.size) k0 k1 k2 HBd hb_; clear hb_)
        | fail "no")
    all_goals (
      go_wp2_with fail
      go_meet
      exact ⟨rfl, rfl, k0, k1, k2, HBd⟩)
  obtain ⟨rfl, rfl, c0, c1, c2, HBc⟩ := hcut
  clear k0 k1 k2 HBd KW KR
  obtain ⟨w2, rfl⟩ : ∃ w2, w2 = wc := ⟨_, rfl⟩
  rcases HBARS.out with ⟨hl, h1, h2, e1, e2, e3, e4, he5⟩ | ⟨hhn, e1, e2⟩
  · rw [e3] at K3
    rw [e4] at K4
    have e5 := Lib.hid he5
    have pl8 : (l.toNat : Int) < 8 := by omega
    have po := or_free d u l.toNat hl
    rw [h1, h2] at po
    simp only [Bool.not_false, Bool.and_self] at po
    have HP := Lib.hid (And.intro pl8 (And.intro po (And.intro e1 e2)))
    clear hl h1 h2 e3 e4 he5 HBARS pl8 po e1 e2
    go_upto_region 3 with (fail)
    go_cut [49] (fun a wx => a = .bool false ∧ wx = w2)
    case first =>
      by_cases lf : l.toNat ≤ f.toNat
      · have pl : (l.toNat : Int) ≤ (f.toNat : Int) := by omega
        obtain ⟨hp, hq⟩ := e5.out lf
        rw [hp] at K1
        rw [hq] at K2
        clear lf hp hq
        go_wp2_with fail
        refine (K1.out _).mono ?_
        rintro r_ wz ⟨rfl, rfl⟩
        go_wp2_with fail
        refine (K2.out _).mono ?_
        rintro r_ wz ⟨rfl, rfl⟩
        go_wp2_with fail
        go_meet
        exact ⟨rfl, rfl⟩
      · have pl : ¬ (l.toNat : Int) ≤ (f.toNat : Int) := by omega
        obtain ⟨p, hp⟩ : ∃ p, sd d f = p := ⟨_, rfl⟩
        obtain ⟨q, hq⟩ : ∃ p, sd u f = p := ⟨_, rfl⟩
        rw [hp] at K1
        rw [hq] at K2
        clear hp hq lf
        cases p
        · cases q
          · go_wp2_with fail
            refine (K1.out _).mono ?_
            rintro r_ wz ⟨rfl, rfl⟩
            go_wp2_with fail
            refine (K2.out _).mono ?_
            rintro r_ wz ⟨rfl, rfl⟩
            go_wp2_with fail
            go_meet
            exact ⟨rfl, rfl⟩
          · go_wp2_with fail
            refine (K1.out _).mono ?_
            rintro r_ wz ⟨rfl, rfl⟩
            go_wp2_with fail
            refine (K2.out _).mono ?_
            rintro r_ wz ⟨rfl, rfl⟩
            go_wp2_with fail
            go_meet
            exact ⟨rfl, rfl⟩
        · go_wp2_with fail
          refine (K1.out _).mono ?_
          rintro r_ wz ⟨rfl, rfl⟩
          go_wp2_with fail
          go_meet
          exact ⟨rfl, rfl⟩
    obtain ⟨rfl, hw3⟩ := hcut
    rw [hw3]
    clear hw3 K1 K2
    obtain ⟨pl8, po, e1, e2⟩ := HP.out
    by_cases hm : m = (l.toNat : Int)
    · rw [if_pos hm] at e1 e2
      subst e1 e2
      have pm : (m == (l.toNat : Int)) = true := by simpa using hm
      clear hm
      go_wp2_with fail
      refine (K3.out _).mono ?_
      rintro r_ wz ⟨rfl, rfl⟩
      go_wp2_with fail
      refine (K4.out _).mono ?_
      rintro r_ wz ⟨rfl, rfl⟩
      go_wp2_with fail
      refine (wakes17 HW.out HR.out _).mono ?_
      rintro r_ w9 ⟨rfl, hb9⟩
      have HB9 := Lib.hid (HBc.out.trans (hb9.mono HBc.out.size))
      clear hb9
      go_wp2
      go_ret
      exact ⟨rfl, HB9.out⟩
    · rw [if_neg hm] at e1 e2
      subst e1 e2
      have pm : (m == (l.toNat : Int)) = false := by simpa using hm
      clear hm
      go_wp2_with fail
      refine (K3.out _).mono ?_
      rintro r_ wz ⟨rfl, rfl⟩
      go_wp2_with fail
      refine (K4.out _).mono ?_
      rintro r_ wz ⟨rfl, rfl⟩
      go_wp2_with fail
      refine (wakes17 HW.out HR.out _).mono ?_
      rintro r_ w9 ⟨rfl, hb9⟩
      have HB9 := Lib.hid (HBc.out.trans (hb9.mono HBc.out.size))
      clear hb9
      go_wp2
      go_ret
      exact ⟨rfl, HB9.out⟩
  · have hn := Lib.hid hhn
    clear hhn HBARS
    obtain ⟨td, htd⟩ : ∃ x, sd d l = x := ⟨_, rfl⟩
    obtain ⟨tu, htu⟩ : ∃ x, sd u l = x := ⟨_, rfl⟩
    rw [htd] at e1 K3
    rw [htu] at e2 K4
    clear htd htu
    have f11 : ((F1 : Int) == 1) = false := by rw [e1]; cases td <;> rfl
    have f13 : ((F1 : Int) == 3) = false := by rw [e1]; cases td <;> rfl
    have f21 : ((F2 : Int) == 1) = false := by rw [e2]; cases tu <;> rfl
    have f23 : ((F2 : Int) == 3) = false := by rw [e2]; cases tu <;> rfl
    have HP := Lib.hid (And.intro e1 e2)
    clear e1 e2
    go_upto_region 3 with (fail)
    go_cut [49] (fun a wx => a = .bool false ∧ wx = w2)
    case first =>
      by_cases lf : l.toNat ≤ f.toNat
      · have pl : (l.toNat : Int) ≤ (f.toNat : Int) := by omega
        obtain ⟨p, hp⟩ : ∃ p, sd d f = p := ⟨_, rfl⟩
        obtain ⟨q, hq⟩ : ∃ p, sd u f = p := ⟨_, rfl⟩
        rw [hp] at K1
        rw [hq] at K2
        clear hp hq lf
        cases p
        · cases q
          · go_wp2_with fail
            refine (K1.out _).mono ?_
            rintro r_ wz ⟨rfl, rfl⟩
            go_wp2_with fail
            refine (K2.out _).mono ?_
            rintro r_ wz ⟨rfl, rfl⟩
            go_wp2_with fail
            go_meet
            exact ⟨rfl, rfl⟩
          · go_wp2_with fail
            refine (K1.out _).mono ?_
            rintro r_ wz ⟨rfl, rfl⟩
            go_wp2_with fail
            refine (K2.out _).mono ?_
            rintro r_ wz ⟨rfl, rfl⟩
            go_wp2_with fail
            go_meet
            exact ⟨rfl, rfl⟩
        · go_wp2_with fail
          refine (K1.out _).mono ?_
          rintro r_ wz ⟨rfl, rfl⟩
          go_wp2_with fail
          go_meet
          exact ⟨rfl, rfl⟩
      · have pl : ¬ (l.toNat : Int) ≤ (f.toNat : Int) := by omega
        obtain ⟨p, hp⟩ : ∃ p, sd d f = p := ⟨_, rfl⟩
        obtain ⟨q, hq⟩ : ∃ p, sd u f = p := ⟨_, rfl⟩
        rw [hp] at K1
        rw [hq] at K2
        clear hp hq lf
        cases p
        · cases q
          · go_wp2_with fail
            refine (K1.out _).mono ?_
            rintro r_ wz ⟨rfl, rfl⟩
            go_wp2_with fail
            refine (K2.out _).mono ?_
            rintro r_ wz ⟨rfl, rfl⟩
            go_wp2_with fail
            go_meet
            exact ⟨rfl, rfl⟩
          · go_wp2_with fail
            refine (K1.out _).mono ?_
            rintro r_ wz ⟨rfl, rfl⟩
            go_wp2_with fail
            refine (K2.out _).mono ?_
            rintro r_ wz ⟨rfl, rfl⟩
            go_wp2_with fail
            go_meet
            exact ⟨rfl, rfl⟩
        · go_wp2_with fail
          refine (K1.out _).mono ?_
          rintro r_ wz ⟨rfl, rfl⟩
          go_wp2_with fail
          go_meet
          exact ⟨rfl, rfl⟩
    obtain ⟨rfl, hw3⟩ := hcut
    rw [hw3]
    clear hw3 K1 K2
    obtain ⟨e1, e2⟩ := HP.out
    cases td <;> cases tu
    · simp only [if_true, if_false, Bool.false_eq_true] at e1 e2
      subst e1 e2
      clear f11 f13 f21 f23
      go_wp2_with fail
      refine (K3.out _).mono ?_
      rintro r_ wz ⟨rfl, rfl⟩
      go_wp2_with fail
      refine (K4.out _).mono ?_
      rintro r_ wz ⟨rfl, rfl⟩
      by_cases hl : l.toNat < 8
      · have pl8 : (l.toNat : Int) < 8 := by omega
        have po := or_free d u l.toNat hl
        rw [hn.out hl] at po
        clear hl
        go_wp2_with fail
        refine (wakes17 HW.out HR.out _).mono ?_
        rintro r_ w9 ⟨rfl, hb9⟩
        have HB9 := Lib.hid (HBc.out.trans (hb9.mono HBc.out.size))
        clear hb9
        go_wp2
        go_ret
        exact ⟨rfl, HB9.out⟩
      · have pl8 : ¬ (l.toNat : Int) < 8 := by omega
        clear hl
        go_wp2_with fail
        refine (wakes17 HW.out HR.out _).mono ?_
        rintro r_ w9 ⟨rfl, hb9⟩
        have HB9 := Lib.hid (HBc.out.trans (hb9.mono HBc.out.size))
        clear hb9
        go_wp2
        go_ret
        exact ⟨rfl, HB9.out⟩
    · simp only [if_true, if_false, Bool.false_eq_true] at e1 e2
      subst e1 e2
      clear f11 f13 f21 f23
      go_wp2_with fail
      refine (K3.out _).mono ?_
      rintro r_ wz ⟨rfl, rfl⟩
      go_wp2_with fail
      refine (K4.out _).mono ?_
      rintro r_ wz ⟨rfl, rfl⟩
      by_cases hl : l.toNat < 8
      · have pl8 : (l.toNat : Int) < 8 := by omega
        have po := or_free d u l.toNat hl
        rw [hn.out hl] at po
        clear hl
        go_wp2_with fail
        refine (wakes17 HW.out HR.out _).mono ?_
        rintro r_ w9 ⟨rfl, hb9⟩
        have HB9 := Lib.hid (HBc.out.trans (hb9.mono HBc.out.size))
        clear hb9
        go_wp2
        go_ret
        exact ⟨rfl, HB9.out⟩
      · have pl8 : ¬ (l.toNat : Int) < 8 := by omega
        clear hl
        go_wp2_with fail
        refine (wakes17 HW.out HR.out _).mono ?_
        rintro r_ w9 ⟨rfl, hb9⟩
        have HB9 := Lib.hid (HBc.out.trans (hb9.mono HBc.out.size))
        clear hb9
        go_wp2
        go_ret
        exact ⟨rfl, HB9.out⟩
    · simp only [if_true, if_false, Bool.false_eq_true] at e1 e2
      subst e1 e2
      clear f11 f13 f21 f23
      go_wp2_with fail
      refine (K3.out _).mono ?_
      rintro r_ wz ⟨rfl, rfl⟩
      go_wp2_with fail
      refine (K4.out _).mono ?_
      rintro r_ wz ⟨rfl, rfl⟩
      by_cases hl : l.toNat < 8
      · have pl8 : (l.toNat : Int) < 8 := by omega
        have po := or_free d u l.toNat hl
        rw [hn.out hl] at po
        clear hl
        go_wp2_with fail
        refine (wakes17 HW.out HR.out _).mono ?_
        rintro r_ w9 ⟨rfl, hb9⟩
        have HB9 := Lib.hid (HBc.out.trans (hb9.mono HBc.out.size))
        clear hb9
        go_wp2
        go_ret
        exact ⟨rfl, HB9.out⟩
      · have pl8 : ¬ (l.toNat : Int) < 8 := by omega
        clear hl
        go_wp2_with fail
        refine (wakes17 HW.out HR.out _).mono ?_
        rintro r_ w9 ⟨rfl, hb9⟩
        have HB9 := Lib.hid (HBc.out.trans (hb9.mono HBc.out.size))
        clear hb9
        go_wp2
        go_ret
        exact ⟨rfl, HB9.out⟩
    · simp only [if_true, if_false, Bool.false_eq_true] at e1 e2
      subst e1 e2
      clear f11 f13 f21 f23
      go_wp2_with fail
      refine (K3.out _).mono ?_
      rintro r_ wz ⟨rfl, rfl⟩
      go_wp2_with fail
      refine (K4.out _).mono ?_
      rintro r_ wz ⟨rfl, rfl⟩
      by_cases hl : l.toNat < 8
      · have pl8 : (l.toNat : Int) < 8 := by omega
        have po := or_free d u l.toNat hl
        rw [hn.out hl] at po
        clear hl
        go_wp2_with fail
        refine (wakes17 HW.out HR.out _).mono ?_
        rintro r_ w9 ⟨rfl, hb9⟩
        have HB9 := Lib.hid (HBc.out.trans (hb9.mono HBc.out.size))
        clear hb9
        go_wp2
        go_ret
        exact ⟨rfl, HB9.out⟩
      · have pl8 : ¬ (l.toNat : Int) < 8 := by omega
        clear hl
        go_wp2_with fail
        refine (wakes17 HW.out HR.out _).mono ?_
        rintro r_ w9 ⟨rfl, hb9⟩
        have HB9 := Lib.hid (HBc.out.trans (hb9.mono HBc.out.size))
        clear hb9
        go_wp2
        go_ret
        exact ⟨rfl, HB9.out⟩
end Go.Proofs.Ytpoeamamdiomkaa
