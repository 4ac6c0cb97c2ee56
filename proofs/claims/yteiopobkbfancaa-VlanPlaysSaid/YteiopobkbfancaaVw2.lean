/- Package vlan: New, told, In, SetOwn, Drop. -/
import Derived.Test.YteiopobkbfancaaVw1
import Derived.Test.YteiopobkbfancaaFramePut
import Derived.Deep.RegionHeld3
namespace Go.Proofs.Yteiopobkbfancaa
open Go.RowKit
set_option linter.unusedVariables false
set_option linter.unusedSimpArgs false
set_option maxRecDepth 100000

def own0 : List UInt16 := [0, 0, 0, 0, 0, 0, 0, 0]
theorem own0_co (a b : Value) : ∀ i x, own0[i]? = some x → (#[a, b, .int .u16 0, .int .u16 0, .int .u16 0, .int .u16 0, .int .u16 0, .int .u16 0, .int .u16 0, .int .u16 0] : Array Value)[2 + i]? = some (.int .u16 x.toNat) := by
  intro i x hx
  have hi : i < 8 := (List.getElem?_eq_some_iff.1 hx).1
  obtain rfl | rfl | rfl | rfl | rfl | rfl | rfl | rfl : i = 0 ∨ i = 1 ∨ i = 2 ∨ i = 3 ∨ i = 4 ∨ i = 5 ∨ i = 6 ∨ i = 7 := by omega
  all_goals (cases hx; rfl)
theorem tbl_new (w : World) (N : Nat) (h1 : 1 ≤ N) (h8 : N ≤ 8) : Tbl (w.alloc (.cells #[.int .u8 (mask N : Nat), .map none, .int .u16 0, .int .u16 0, .int .u16 0, .int .u16 0, .int .u16 0, .int .u16 0, .int .u16 0, .int .u16 0] 57)) w.heap.size none N [] own0 :=
  ⟨⟨_, Blk.new w _ _, ⟨rfl, rfl, rfl, rfl, own0_co _ _⟩⟩, rfl, h1, h8, Nat.zero_le _, List.Pairwise.nil⟩

set_option maxHeartbeats 4000000 in
theorem new_any {w : World} (N : Nat) (h1 : 1 ≤ N) (h8 : N ≤ 8) :
    Calls Try.prog 8 #[.int .i64 N] w fun e w' => ∃ t, e = .returned (.tuple #[.pointer (some ⟨t, 0, none⟩), .int .i64 0]) ∧ Tbl w' t none N [] own0 ∧ w.heap.size ≤ t ∧ Below w.heap.size w w' := by
  have hn := tbl_new w N h1 h8
  have hb := (Below.refl w.heap.size w).alloc (Nat.le_refl _) (.cells #[.int .u8 (mask N : Nat), .map none, .int .u16 0, .int .u16 0, .int .u16 0, .int .u16 0, .int .u16 0, .int .u16 0, .int .u16 0, .int .u16 0] 57)
  obtain rfl | rfl | rfl | rfl | rfl | rfl | rfl | rfl : N = 1 ∨ N = 2 ∨ N = 3 ∨ N = 4 ∨ N = 5 ∨ N = 6 ∨ N = 7 ∨ N = 8 := by omega
  all_goals (have HN := Lib.hid hn; have HB := Lib.hid hb; clear hn hb; go_enter Try.func8, Try.ntmps8)
  all_goals go_wp2
  all_goals exact bodyPost_ret (v := .tuple #[.pointer (some ⟨w.heap.size, 0, none⟩), .int .i64 0]) (by simp [results, Try.results8, go_sem]) rfl ⟨_, rfl, HN.out, Nat.le_refl _, HB.out⟩
set_option maxHeartbeats 1000000 in
theorem new_no {w : World} (n : Int) (h : n < 1 ∨ 8 < n) :
    Calls Try.prog 8 #[.int .i64 n] w fun e w' => e = .returned (.tuple #[.pointer none, .int .i64 2]) ∧ w = w' := by
  by_cases h1 : n < 1
  · clear h
    go_enter Try.func8, Try.ntmps8
    go_wp2
    exact bodyPost_ret (v := .tuple #[.pointer none, .int .i64 2]) (by simp [results, Try.results8, go_sem]) rfl ⟨rfl, rfl⟩
  · have h2 : 8 < n := by omega
    clear h
    go_enter Try.func8, Try.ntmps8
    go_wp2
    exact bodyPost_ret (v := .tuple #[.pointer none, .int .i64 2]) (by simp [results, Try.results8, go_sem]) rfl ⟨rfl, rfl⟩

theorem has8_mask {N : Nat} (h : N ≤ 8) (p : UInt8) : has8 (UInt8.ofNat (mask N)) p = decide (p.toNat < N) := by
  have hm : (UInt8.ofNat (mask N)).toNat = mask N := by
    have := mask_lt h
    simp; omega
  unfold has8
  rw [hm, Bool.eq_iff_iff]
  simp only [beq_iff_eq, decide_eq_true_eq]
  rcases Nat.lt_or_ge p.toNat 8 with hp | hp
  · generalize p.toNat = q at hp
    unfold mask
    obtain rfl | rfl | rfl | rfl | rfl | rfl | rfl | rfl | rfl : N = 0 ∨ N = 1 ∨ N = 2 ∨ N = 3 ∨ N = 4 ∨ N = 5 ∨ N = 6 ∨ N = 7 ∨ N = 8 := by omega
    all_goals (obtain rfl | rfl | rfl | rfl | rfl | rfl | rfl | rfl : q = 0 ∨ q = 1 ∨ q = 2 ∨ q = 3 ∨ q = 4 ∨ q = 5 ∨ q = 6 ∨ q = 7 := by omega) <;> decide
  · have hl := mask_lt h
    have : mask N / 2 ^ p.toNat = 0 := Nat.div_eq_of_lt (Nat.lt_of_lt_of_le (show mask N < 2 ^ 8 by simpa using hl) (Nat.pow_le_pow_right (by decide) hp))
    rw [this]
    omega
def vtold (N : Nat) (own : List UInt16) (p : UInt8) (f : Fr) : UInt16 := if f.tag && (f.vid != 0) then f.vid else if p.toNat < N then own.getD p.toNat 0 else 0
def vinV (N : Nat) (L : List Vn) (own : List UInt16) (p : UInt8) (f : Fr) : UInt16 := if has8 (vm L (vtold N own p f)) p then vtold N own p f else 0
def vinB (N : Nat) (L : List Vn) (own : List UInt16) (p : UInt8) (f : Fr) : Bool := has8 (vm L (vtold N own p f)) p

theorem in_ex {w : World} (p : UInt8) :
    Calls Try.prog 28 #[.int .u8 p.toNat] w fun e w' => ∃ g, e = .returned (.func (.func 39) #[] #[.pointer (some ⟨g, 0, none⟩)]) ∧ w'.cell? ⟨g, 0, none⟩ = some (.int .u8 p.toNat) ∧ Below w.heap.size w w' :=
  (in_any p).mono fun e w' ⟨he, hw⟩ => ⟨w.heap.size, he, by rw [hw]; exact (Blk.new w _ _).cell 0, by rw [hw]; exact (Below.refl _ _).alloc (Nat.le_refl _) _⟩
theorem keepT {W w w' : World} (t : Nat) (v : Value) (h0 : w.cell? ⟨t, 0, none⟩ = some v) (hB : Hid (Below W.heap.size W w)) (hb : Below w.heap.size w w') : w'.cell? ⟨t, 0, none⟩ = some v ∧ Hid (Below W.heap.size W w') :=
  ⟨(hb.cell (p := ⟨t, 0, none⟩) (World.block_lt_of_cell? w _ h0)).trans h0, Lib.hid (hB.out.trans (hb.mono hB.out.size))⟩
theorem keepT2 {W w w' : World} (t j : Nat) (v u : Value) (h0 : w.cell? ⟨t, 0, none⟩ = some v) (h1 : w.cell? ⟨t, j, none⟩ = some u) (hB : Hid (Below W.heap.size W w)) (hb : Below w.heap.size w w') : w'.cell? ⟨t, 0, none⟩ = some v ∧ w'.cell? ⟨t, j, none⟩ = some u ∧ Hid (Below W.heap.size W w') :=
  ⟨(hb.cell (p := ⟨t, 0, none⟩) (World.block_lt_of_cell? w _ h0)).trans h0, (hb.cell (p := ⟨t, j, none⟩) (World.block_lt_of_cell? w _ h1)).trans h1, Lib.hid (hB.out.trans (hb.mono hB.out.size))⟩
theorem cell0_new (p : UInt8) : ∀ w : World, (w.alloc (.cells #[.int .u8 p.toNat] 5)).cell? ⟨w.heap.size, 0, none⟩ = some (.int .u8 p.toNat) := fun w => (Blk.new w _ _).cell 0
theorem in1_mask {w : World} {N : Nat} (h : N ≤ 8) (p : UInt8) {g : Nat} (hc : w.cell? ⟨g, 0, none⟩ = some (.int .u8 p.toNat)) :
    Calls Try.prog 39 #[.int .u8 (mask N : Nat), .pointer (some ⟨g, 0, none⟩)] w fun e w' => e = .returned (.bool (decide (p.toNat < N))) ∧ w = w' := by
  have := in1_any (UInt8.ofNat (mask N)) p hc
  rw [has8_mask h] at this
  have hm : (UInt8.ofNat (mask N)).toNat = mask N := by
    have := mask_lt h
    simp; omega
  rwa [hm] at this
theorem toldV (N : Nat) (own : List UInt16) (p : UInt8) (f : Fr) (h1 : f.tag = true) (h2 : f.vid.toNat ≠ 0) : vtold N own p f = f.vid := by
  have : f.vid ≠ 0 := fun e => h2 (by rw [e]; rfl)
  simp [vtold, h1, this]
theorem toldO (N : Nat) (own : List UInt16) (p : UInt8) (f : Fr) (h : f.tag = false ∨ f.vid.toNat = 0) : vtold N own p f = if p.toNat < N then own.getD p.toNat 0 else 0 := by
  rcases h with h | h
  · simp [vtold, h]
  · have : f.vid = 0 := UInt16.toNat_inj.1 h
    simp [vtold, this]
set_option maxHeartbeats 2000000 in
theorem told_any {w : World} {t N : Nat} {mb : Option Nat} {L : List Vn} {own : List UInt16} (h : Tbl w t mb N L own) (p : UInt8) (f : Fr) :
    Calls Try.prog 27 #[.pointer (some ⟨t, 0, none⟩), .int .u8 p.toNat, FV f] w fun e w' => e = .returned (.int .u16 (vtold N own p f).toNat) ∧ Below w.heap.size w w' := by
  obtain ⟨w1, hw1⟩ : ∃ w1, w.alloc (.cells #[.int .u8 f.d0.toNat, .int .u8 f.d1.toNat, .int .u8 f.d2.toNat, .int .u8 f.d3.toNat, .int .u8 f.d4.toNat, .int .u8 f.d5.toNat, .int .u8 f.s0.toNat, .int .u8 f.s1.toNat, .int .u8 f.s2.toNat, .int .u8 f.s3.toNat, .int .u8 f.s4.toNat, .int .u8 f.s5.toNat, .bool f.tag, .int .u8 f.pri.toNat, .int .u16 f.vid.toNat, .int .u16 f.ty.toNat, .string ⟨f.data.toArray⟩] 27) = w1 := ⟨_, rfl⟩
  have hF : FrA w1 w.heap.size f := by rw [← hw1]; exact FrA.new w f
  have c2 := hF.cells.c12
  have c4 := hF.cells.c14
  have hB : Below w.heap.size w w1 := by rw [← hw1]; exact (Below.refl w.heap.size w).alloc (Nat.le_refl _) _
  have HB := Lib.hid hB
  have HT := Lib.hid (h.next hB)
  have HV := Lib.hid (toldV N own p f)
  have HO := Lib.hid (toldO N own p f)
  clear hB h hF
  by_cases hg : f.tag = true ∧ f.vid.toNat ≠ 0
  · obtain ⟨h1, h2⟩ := hg
    have HR := Lib.hid (HV.out h1 h2)
    rw [h1] at c2
    obtain ⟨v, hv⟩ : ∃ v, f.vid.toNat = v := ⟨_, rfl⟩
    have HQ := Lib.hid hv
    rw [hv] at c4 h2
    clear h1 hv
    go_enter Try.func27, Try.ntmps27
    go_wp2
    go_ret
    rw [HR.out, HQ.out]
    exact ⟨rfl, HB.out⟩
  · have HR := Lib.hid (HO.out (by cases hq : f.tag; exact .inl rfl; exact .inr (by have : ¬ (f.vid.toNat ≠ 0) := fun e => hg ⟨hq, e⟩; omega)))
    have hg' : f.tag = false ∨ (f.tag = true ∧ f.vid.toNat = 0) := by
      cases hq : f.tag
      · exact .inl rfl
      · exact .inr ⟨rfl, by have : ¬ (f.vid.toNat ≠ 0) := fun e => hg ⟨hq, e⟩; omega⟩
    have c0 := HT.out.c0
    clear hg
    go_enter Try.func27, Try.ntmps27
    have hlt : t < w1.heap.size := HT.out.lt t (.inl rfl)
    have HN := Lib.hid HT.out.n8
    by_cases hp : p.toNat < N
    · obtain ⟨x, hx⟩ : ∃ x, own[p.toNat]? = some x := ⟨_, List.getElem?_eq_getElem (by have := HT.out.own8; have := HN.out; omega)⟩
      have hco := HT.out.co hx
      have HX := Lib.hid (show vtold N own p f = x by rw [HR.out, if_pos hp, List.getD_eq_getElem?_getD, hx]; rfl)
      have hp8 : (p.toNat : Int) < 8 := by have := HN.out; omega
      clear hx
      rcases hg' with h1 | ⟨h1, h2⟩
      · rw [h1] at c2
        clear h1
        have c0d : w1.drew.cell? ⟨t, 0, none⟩ = some (.int .u8 (mask N : Nat)) := c0
        have HBd : Hid (Below w.heap.size w w1.drew) := Lib.hid HB.out.drew
        have cod : w1.drew.cell? ⟨t, 2 + p.toNat, none⟩ = some (.int .u16 x.toNat) := hco
        go_upto_region 3 with fail
        go_region_held3 (fun w_ => w_.cell? ⟨t, 0, none⟩ = some (.int .u8 (mask N : Nat)) ∧ w_.cell? ⟨t, 2 + p.toNat, none⟩ = some (.int .u16 x.toNat) ∧ Hid (Below w.heap.size w w_)) (go_keep)
          (first
          | (go_at_call 28; with_reducible refine (in_ex p).mono ?_; rintro r w_ ⟨g_, rfl, hg_, hb_⟩; obtain ⟨k0, k1, k2⟩ := keepT2 t (2 + p.toNat) (.int .u8 (mask N : Nat)) (.int .u16 x.toNat) (by assumption) (by assumption) (by assumption) hb_; clear hb_)
          | (go_at_call 39; with_reducible refine (in1_mask HN.out p (by assumption)).mono ?_; rintro r w_ ⟨rfl, rfl⟩))
        clear c2 c4 c0 c0d hco cod
        go_wp2
        go_ret
        rw [HX.out]
        exact ⟨rfl, Hid.out (by assumption)⟩
      · rw [h1] at c2
        rw [h2] at c4
        clear h1 h2
        have c0d : w1.drew.cell? ⟨t, 0, none⟩ = some (.int .u8 (mask N : Nat)) := c0
        have HBd : Hid (Below w.heap.size w w1.drew) := Lib.hid HB.out.drew
        have cod : w1.drew.cell? ⟨t, 2 + p.toNat, none⟩ = some (.int .u16 x.toNat) := hco
        go_upto_region 3 with fail
        go_region_held3 (fun w_ => w_.cell? ⟨t, 0, none⟩ = some (.int .u8 (mask N : Nat)) ∧ w_.cell? ⟨t, 2 + p.toNat, none⟩ = some (.int .u16 x.toNat) ∧ Hid (Below w.heap.size w w_)) (go_keep)
          (first
          | (go_at_call 28; with_reducible refine (in_ex p).mono ?_; rintro r w_ ⟨g_, rfl, hg_, hb_⟩; obtain ⟨k0, k1, k2⟩ := keepT2 t (2 + p.toNat) (.int .u8 (mask N : Nat)) (.int .u16 x.toNat) (by assumption) (by assumption) (by assumption) hb_; clear hb_)
          | (go_at_call 39; with_reducible refine (in1_mask HN.out p (by assumption)).mono ?_; rintro r w_ ⟨rfl, rfl⟩))
        clear c2 c4 c0 c0d hco cod
        go_wp2
        go_ret
        rw [HX.out]
        exact ⟨rfl, Hid.out (by assumption)⟩
    · have HX := Lib.hid (show vtold N own p f = 0 by rw [HR.out, if_neg hp])
      rcases hg' with h1 | ⟨h1, h2⟩
      · rw [h1] at c2
        clear h1
        have c0d : w1.drew.cell? ⟨t, 0, none⟩ = some (.int .u8 (mask N : Nat)) := c0
        have HBd : Hid (Below w.heap.size w w1.drew) := Lib.hid HB.out.drew
        go_upto_region 3 with fail
        go_region_held3 (fun w_ => w_.cell? ⟨t, 0, none⟩ = some (.int .u8 (mask N : Nat)) ∧ Hid (Below w.heap.size w w_)) (go_keep)
          (first
          | (go_at_call 28; with_reducible refine (in_ex p).mono ?_; rintro r w_ ⟨g_, rfl, hg_, hb_⟩; obtain ⟨k0, k1⟩ := keepT t (.int .u8 (mask N : Nat)) (by assumption) (by assumption) hb_; clear hb_)
          | (go_at_call 39; with_reducible refine (in1_mask HN.out p (by assumption)).mono ?_; rintro r w_ ⟨rfl, rfl⟩))
        go_wp2
        go_ret
        rw [HX.out]
        exact ⟨rfl, Hid.out (by assumption)⟩
      · rw [h1] at c2
        rw [h2] at c4
        clear h1 h2
        have c0d : w1.drew.cell? ⟨t, 0, none⟩ = some (.int .u8 (mask N : Nat)) := c0
        have HBd : Hid (Below w.heap.size w w1.drew) := Lib.hid HB.out.drew
        go_upto_region 3 with fail
        go_region_held3 (fun w_ => w_.cell? ⟨t, 0, none⟩ = some (.int .u8 (mask N : Nat)) ∧ Hid (Below w.heap.size w w_)) (go_keep)
          (first
          | (go_at_call 28; with_reducible refine (in_ex p).mono ?_; rintro r w_ ⟨g_, rfl, hg_, hb_⟩; obtain ⟨k0, k1⟩ := keepT t (.int .u8 (mask N : Nat)) (by assumption) (by assumption) hb_; clear hb_)
          | (go_at_call 39; with_reducible refine (in1_mask HN.out p (by assumption)).mono ?_; rintro r w_ ⟨rfl, rfl⟩))
        go_wp2
        go_ret
        rw [HX.out]
        exact ⟨rfl, Hid.out (by assumption)⟩
end Go.Proofs.Yteiopobkbfancaa
