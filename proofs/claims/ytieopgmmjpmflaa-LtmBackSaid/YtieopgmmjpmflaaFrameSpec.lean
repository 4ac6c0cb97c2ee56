/- A frame's bytes, and back (plain). -/
import Derived.Test.YtieopgmmjpmflaaFrame
namespace Go.Proofs.Ytieopgmmjpmflaa
open Go.RowKit
set_option linter.unusedVariables false
set_option linter.unusedSimpArgs false
set_option maxRecDepth 100000

/-- may a frame be, but for its length? -/
def fmay (f : Fr) : Bool := if f.tag then decide (f.pri.toNat ≤ 7) && decide (f.vid.toNat ≤ 4095) else (f.pri == 0) && ((f.vid == 0) && (f.ty != 33024))
/-- the bytes ahead of the data -/
def fhead (f : Fr) : List UInt8 := f.dst ++ f.src ++ (if f.tag then dig 2 33024 ++ dig 2 (f.pri.toNat * 8192 + f.vid.toNat) else []) ++ dig 2 f.ty.toNat
def fbytes (f : Fr) : List UInt8 := fhead f ++ f.data
def flen (f : Fr) : Nat := (if f.tag then 18 else 14) + f.data.length
theorem fbytes_len (f : Fr) : (fbytes f).length = flen f := by
  unfold fbytes fhead flen Fr.dst Fr.src
  split <;> simp [dig_len] <;> omega
/-- Put's error and bytes -/
def fputE (f : Fr) : Int := if fmay f = false then 2 else if 1522 < flen f then 5 else 0
def fputV (f : Fr) : List UInt8 := if fputE f = 0 then fbytes f else []

def u16of (a b : UInt8) : UInt16 := UInt16.ofNat (a.toNat * 256 + b.toNat)
theorem u16of_nat (a b : UInt8) : (u16of a b).toNat = a.toNat * 256 + b.toNat := by
  have := a.toNat_lt
  have := b.toNat_lt
  unfold u16of
  simp
  omega
/-- is there a tag? -/
def ftag (s : List UInt8) : Bool := (s.getD 12 0 == 129) && (s.getD 13 0 == 0)
/-- Take's error -/
def ftakeE (s : List UInt8) : Int :=
  if 1522 < s.length then 5 else if s.length < 14 then 3 else if ftag s = false then 0 else if s.length < 16 then 3 else if (s.getD 14 0).toNat / 16 % 2 = 1 then 4 else if s.length < 18 then 3 else 0
/-- the frame whose bytes these are -/
def fofb (s : List UInt8) : Fr :=
  if ftag s then ⟨s.getD 0 0, s.getD 1 0, s.getD 2 0, s.getD 3 0, s.getD 4 0, s.getD 5 0, s.getD 6 0, s.getD 7 0, s.getD 8 0, s.getD 9 0, s.getD 10 0, s.getD 11 0, true, UInt8.ofNat ((s.getD 14 0).toNat / 32), UInt16.ofNat ((s.getD 14 0).toNat % 16 * 256 + (s.getD 15 0).toNat), u16of (s.getD 16 0) (s.getD 17 0), s.drop 18⟩
  else ⟨s.getD 0 0, s.getD 1 0, s.getD 2 0, s.getD 3 0, s.getD 4 0, s.getD 5 0, s.getD 6 0, s.getD 7 0, s.getD 8 0, s.getD 9 0, s.getD 10 0, s.getD 11 0, false, 0, 0, u16of (s.getD 12 0) (s.getD 13 0), s.drop 14⟩
def ftakeF (s : List UInt8) : Fr := if ftakeE s = 0 then fofb s else Fr.zero

theorem dig2 (n : Nat) : dig 2 n = [UInt8.ofNat (n / 256 % 256), UInt8.ofNat (n % 256)] := rfl
theorem u16_dig (x : UInt16) : u16of (UInt8.ofNat (x.toNat / 256 % 256)) (UInt8.ofNat (x.toNat % 256)) = x := by
  have h := x.toNat_lt
  apply UInt16.toNat_inj.1
  rw [u16of_nat]
  simp
  omega
theorem dig_u16 (a b : UInt8) : dig 2 (u16of a b).toNat = [a, b] := by
  rw [u16of_nat, dig2]
  have ha := a.toNat_lt
  have hb := b.toNat_lt
  rw [show (a.toNat * 256 + b.toNat) / 256 % 256 = a.toNat by omega, show (a.toNat * 256 + b.toNat) % 256 = b.toNat by omega]
  simp
theorem cons_of {l : List UInt8} (n : Nat) (h : n + 1 ≤ l.length) : ∃ x r, l = x :: r ∧ n ≤ r.length := by
  cases l with
  | nil => simp at h
  | cons x r => exact ⟨x, r, rfl, by simpa using h⟩
theorem list14 {l : List UInt8} (h : 14 ≤ l.length) : ∃ x0 x1 x2 x3 x4 x5 x6 x7 x8 x9 x10 x11 x12 x13 r, l = x0 :: x1 :: x2 :: x3 :: x4 :: x5 :: x6 :: x7 :: x8 :: x9 :: x10 :: x11 :: x12 :: x13 :: r := by
  obtain ⟨x0, l0, rfl, h0⟩ := cons_of 13 h
  obtain ⟨x1, l1, rfl, h1⟩ := cons_of 12 h0
  obtain ⟨x2, l2, rfl, h2⟩ := cons_of 11 h1
  obtain ⟨x3, l3, rfl, h3⟩ := cons_of 10 h2
  obtain ⟨x4, l4, rfl, h4⟩ := cons_of 9 h3
  obtain ⟨x5, l5, rfl, h5⟩ := cons_of 8 h4
  obtain ⟨x6, l6, rfl, h6⟩ := cons_of 7 h5
  obtain ⟨x7, l7, rfl, h7⟩ := cons_of 6 h6
  obtain ⟨x8, l8, rfl, h8⟩ := cons_of 5 h7
  obtain ⟨x9, l9, rfl, h9⟩ := cons_of 4 h8
  obtain ⟨x10, l10, rfl, h10⟩ := cons_of 3 h9
  obtain ⟨x11, l11, rfl, h11⟩ := cons_of 2 h10
  obtain ⟨x12, l12, rfl, h12⟩ := cons_of 1 h11
  obtain ⟨x13, l13, rfl, h13⟩ := cons_of 0 h12
  exact ⟨x0, x1, x2, x3, x4, x5, x6, x7, x8, x9, x10, x11, x12, x13, l13, rfl⟩
theorem list18 {l : List UInt8} (h : 18 ≤ l.length) : ∃ x0 x1 x2 x3 x4 x5 x6 x7 x8 x9 x10 x11 x12 x13 x14 x15 x16 x17 r, l = x0 :: x1 :: x2 :: x3 :: x4 :: x5 :: x6 :: x7 :: x8 :: x9 :: x10 :: x11 :: x12 :: x13 :: x14 :: x15 :: x16 :: x17 :: r := by
  obtain ⟨x0, l0, rfl, h0⟩ := cons_of 17 h
  obtain ⟨x1, l1, rfl, h1⟩ := cons_of 16 h0
  obtain ⟨x2, l2, rfl, h2⟩ := cons_of 15 h1
  obtain ⟨x3, l3, rfl, h3⟩ := cons_of 14 h2
  obtain ⟨x4, l4, rfl, h4⟩ := cons_of 13 h3
  obtain ⟨x5, l5, rfl, h5⟩ := cons_of 12 h4
  obtain ⟨x6, l6, rfl, h6⟩ := cons_of 11 h5
  obtain ⟨x7, l7, rfl, h7⟩ := cons_of 10 h6
  obtain ⟨x8, l8, rfl, h8⟩ := cons_of 9 h7
  obtain ⟨x9, l9, rfl, h9⟩ := cons_of 8 h8
  obtain ⟨x10, l10, rfl, h10⟩ := cons_of 7 h9
  obtain ⟨x11, l11, rfl, h11⟩ := cons_of 6 h10
  obtain ⟨x12, l12, rfl, h12⟩ := cons_of 5 h11
  obtain ⟨x13, l13, rfl, h13⟩ := cons_of 4 h12
  obtain ⟨x14, l14, rfl, h14⟩ := cons_of 3 h13
  obtain ⟨x15, l15, rfl, h15⟩ := cons_of 2 h14
  obtain ⟨x16, l16, rfl, h16⟩ := cons_of 1 h15
  obtain ⟨x17, l17, rfl, h17⟩ := cons_of 0 h16
  exact ⟨x0, x1, x2, x3, x4, x5, x6, x7, x8, x9, x10, x11, x12, x13, x14, x15, x16, x17, l17, rfl⟩
/-- what is put is taken -/
theorem take_put (f : Fr) (h : fputE f = 0) : ftakeE (fbytes f) = 0 ∧ ftakeF (fbytes f) = f := by
  obtain ⟨d0, d1, d2, d3, d4, d5, s0, s1, s2, s3, s4, s5, tag, pri, vid, ty, data⟩ := f
  have hm : fmay ⟨d0, d1, d2, d3, d4, d5, s0, s1, s2, s3, s4, s5, tag, pri, vid, ty, data⟩ = true := by
    unfold fputE at h
    split at h
    · simp at h
    · rename_i hn; simpa using hn
  have hl : flen ⟨d0, d1, d2, d3, d4, d5, s0, s1, s2, s3, s4, s5, tag, pri, vid, ty, data⟩ ≤ 1522 := by
    unfold fputE at h
    split at h
    · simp at h
    · split at h
      · simp at h
      · omega
  have hlen := fbytes_len ⟨d0, d1, d2, d3, d4, d5, s0, s1, s2, s3, s4, s5, tag, pri, vid, ty, data⟩
  cases tag
  · have hb : fbytes ⟨d0, d1, d2, d3, d4, d5, s0, s1, s2, s3, s4, s5, false, pri, vid, ty, data⟩ = d0 :: d1 :: d2 :: d3 :: d4 :: d5 :: s0 :: s1 :: s2 :: s3 :: s4 :: s5 :: UInt8.ofNat (ty.toNat / 256 % 256) :: UInt8.ofNat (ty.toNat % 256) :: data := rfl
    simp [fmay] at hm
    obtain ⟨rfl, rfl, hty⟩ := hm
    have ht : ftag (fbytes ⟨d0, d1, d2, d3, d4, d5, s0, s1, s2, s3, s4, s5, false, 0, 0, ty, data⟩) = false := by
      rw [hb]
      unfold ftag
      simp
      intro h1 h2
      apply hty
      have := ty.toNat_lt
      have e := u16_dig ty
      rw [h1, h2] at e
      rw [← e]
      rfl
    have he : ftakeE (fbytes ⟨d0, d1, d2, d3, d4, d5, s0, s1, s2, s3, s4, s5, false, 0, 0, ty, data⟩) = 0 := by
      unfold ftakeE
      rw [if_neg (by rw [hlen]; omega), if_neg (by rw [hlen]; simp [flen]), if_pos ht]
    refine ⟨he, ?_⟩
    unfold ftakeF fofb
    rw [if_pos he, ht, hb]
    simp [u16_dig]
  · have hb : fbytes ⟨d0, d1, d2, d3, d4, d5, s0, s1, s2, s3, s4, s5, true, pri, vid, ty, data⟩ = d0 :: d1 :: d2 :: d3 :: d4 :: d5 :: s0 :: s1 :: s2 :: s3 :: s4 :: s5 :: 129 :: 0 :: UInt8.ofNat ((pri.toNat * 8192 + vid.toNat) / 256 % 256) :: UInt8.ofNat ((pri.toNat * 8192 + vid.toNat) % 256) :: UInt8.ofNat (ty.toNat / 256 % 256) :: UInt8.ofNat (ty.toNat % 256) :: data := rfl
    simp [fmay] at hm
    have ht : ftag (fbytes ⟨d0, d1, d2, d3, d4, d5, s0, s1, s2, s3, s4, s5, true, pri, vid, ty, data⟩) = true := by
      rw [hb]; rfl
    have h14 : (UInt8.ofNat ((pri.toNat * 8192 + vid.toNat) / 256 % 256)).toNat = pri.toNat * 32 + vid.toNat / 256 := by simp; omega
    have h15 : (UInt8.ofNat ((pri.toNat * 8192 + vid.toNat) % 256)).toNat = vid.toNat % 256 := by simp; omega
    have he : ftakeE (fbytes ⟨d0, d1, d2, d3, d4, d5, s0, s1, s2, s3, s4, s5, true, pri, vid, ty, data⟩) = 0 := by
      unfold ftakeE
      rw [if_neg (by rw [hlen]; omega), if_neg (by rw [hlen]; simp [flen]; omega), if_neg (by rw [ht]; simp), if_neg (by rw [hlen]; simp [flen]; omega), if_neg (by
        rw [hb]
        simp only [List.getD_cons_succ, List.getD_cons_zero]
        rw [h14]
        omega), if_neg (by rw [hlen]; simp [flen])]
    refine ⟨he, ?_⟩
    unfold ftakeF fofb
    rw [if_pos he, ht, if_pos rfl, hb]
    simp only [List.getD_cons_succ, List.getD_cons_zero, List.drop_succ_cons, List.drop_zero]
    rw [h14, h15, u16_dig]
    have hp : UInt8.ofNat ((pri.toNat * 32 + vid.toNat / 256) / 32) = pri := by
      rw [show (pri.toNat * 32 + vid.toNat / 256) / 32 = pri.toNat by omega]
      simp
    have hv : UInt16.ofNat ((pri.toNat * 32 + vid.toNat / 256) % 16 * 256 + vid.toNat % 256) = vid := by
      rw [show (pri.toNat * 32 + vid.toNat / 256) % 16 * 256 + vid.toNat % 256 = vid.toNat by omega]
      simp
    rw [hp, hv]
/-- bytes that are taken are put as themselves -/
theorem put_take (s : List UInt8) (h : ftakeE s = 0) : fputE (ftakeF s) = 0 ∧ fbytes (ftakeF s) = s := by
  have hF : ftakeF s = fofb s := by unfold ftakeF; rw [if_pos h]
  rw [hF]
  unfold ftakeE at h
  split at h
  · simp at h
  rename_i h0
  split at h
  · simp at h
  rename_i h1
  split at h
  · rename_i ht
    obtain ⟨x0, x1, x2, x3, x4, x5, x6, x7, x8, x9, x10, x11, x12, x13, r, rfl⟩ := list14 (l := s) (by omega)
    unfold fofb
    rw [ht]
    simp only [Bool.false_eq_true, if_false, List.getD_cons_succ, List.getD_cons_zero, List.drop_succ_cons, List.drop_zero]
    have hb : fbytes ⟨x0, x1, x2, x3, x4, x5, x6, x7, x8, x9, x10, x11, false, 0, 0, u16of x12 x13, r⟩ = x0 :: x1 :: x2 :: x3 :: x4 :: x5 :: x6 :: x7 :: x8 :: x9 :: x10 :: x11 :: x12 :: x13 :: r := by
      unfold fbytes fhead Fr.dst Fr.src
      simp only [Bool.false_eq_true, if_false]
      rw [dig_u16]
      rfl
    have hty : u16of x12 x13 ≠ 33024 := by
      intro e
      have e2 := congrArg UInt16.toNat e
      rw [u16of_nat] at e2
      have e3 : (33024 : UInt16).toNat = 33024 := rfl
      have hb1 := x12.toNat_lt
      have hb2 := x13.toNat_lt
      have a1 : x12 = 129 := by apply UInt8.toNat_inj.1; show x12.toNat = 129; omega
      have a2 : x13 = 0 := by apply UInt8.toNat_inj.1; show x13.toNat = 0; omega
      subst a1 a2
      simp [ftag] at ht
    refine ⟨?_, hb⟩
    have hl := fbytes_len ⟨x0, x1, x2, x3, x4, x5, x6, x7, x8, x9, x10, x11, false, 0, 0, u16of x12 x13, r⟩
    rw [hb] at hl
    unfold fputE
    rw [if_neg (by simp [fmay, hty]), if_neg (by omega)]
  rename_i ht
  split at h
  · simp at h
  rename_i h2
  split at h
  · simp at h
  rename_i h3
  split at h
  · simp at h
  rename_i h4
  obtain ⟨x0, x1, x2, x3, x4, x5, x6, x7, x8, x9, x10, x11, x12, x13, x14, x15, x16, x17, r, rfl⟩ := list18 (l := s) (by omega)
  have ht' : ftag (x0 :: x1 :: x2 :: x3 :: x4 :: x5 :: x6 :: x7 :: x8 :: x9 :: x10 :: x11 :: x12 :: x13 :: x14 :: x15 :: x16 :: x17 :: r) = true := by simpa using ht
  unfold fofb
  rw [ht', if_pos rfl]
  simp only [List.getD_cons_succ, List.getD_cons_zero, List.drop_succ_cons, List.drop_zero] at h3 ⊢
  have hx14 := x14.toNat_lt
  have hx15 := x15.toNat_lt
  have hp : (UInt8.ofNat (x14.toNat / 32)).toNat = x14.toNat / 32 := by simp; omega
  have hv : (UInt16.ofNat (x14.toNat % 16 * 256 + x15.toNat)).toNat = x14.toNat % 16 * 256 + x15.toNat := by simp; omega
  have ht2 : x12 = 129 ∧ x13 = 0 := by simpa [ftag] using ht'
  obtain ⟨rfl, rfl⟩ := ht2
  have hb : fbytes ⟨x0, x1, x2, x3, x4, x5, x6, x7, x8, x9, x10, x11, true, UInt8.ofNat (x14.toNat / 32), UInt16.ofNat (x14.toNat % 16 * 256 + x15.toNat), u16of x16 x17, r⟩ = x0 :: x1 :: x2 :: x3 :: x4 :: x5 :: x6 :: x7 :: x8 :: x9 :: x10 :: x11 :: 129 :: 0 :: x14 :: x15 :: x16 :: x17 :: r := by
    unfold fbytes fhead Fr.dst Fr.src
    simp only [if_true]
    rw [dig_u16, hp, hv, show x14.toNat / 32 * 8192 + (x14.toNat % 16 * 256 + x15.toNat) = (u16of x14 x15).toNat by rw [u16of_nat]; omega, dig_u16]
    rfl
  refine ⟨?_, hb⟩
  have hl := fbytes_len ⟨x0, x1, x2, x3, x4, x5, x6, x7, x8, x9, x10, x11, true, UInt8.ofNat (x14.toNat / 32), UInt16.ofNat (x14.toNat % 16 * 256 + x15.toNat), u16of x16 x17, r⟩
  rw [hb] at hl
  unfold fputE
  rw [if_neg (by simp only [fmay, if_true, hp, hv]; simp; omega), if_neg (by omega)]
end Go.Proofs.Ytieopgmmjpmflaa
