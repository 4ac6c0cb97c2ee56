/- slices.Sort at uint16, twelve elements or fewer. -/
import Derived.Test.YteiopobkbfancaaLeaf
import Derived.Test.YteiopobkbfancaaVKeys
import Derived.BigQuiet
import Derived.BigRegion
import Derived.Deep.QuietTactic
import Derived.IntWalk
import Derived.Deep.DeepCutAuto
namespace Go.Proofs.Yteiopobkbfancaa
open Go.RowKit
set_option linter.unusedVariables false
set_option linter.unusedSimpArgs false
set_option maxRecDepth 100000

/-- the row at g holds these -/
def HoldU (w : World) (g : Nat) (zs : List Int) : Prop := ∀ k x, zs[k]? = some x → w.cell? ⟨g, k, none⟩ = some (.int .u16 x) ∧ w.frozen? ⟨g, k, none⟩ = false
theorem HoldU.drew {w : World} {g : Nat} {zs : List Int} (h : HoldU w g zs) (n : Nat) : HoldU (w.drewN n) g zs := h
theorem HoldU.put {w : World} {g : Nat} {zs : List Int} (h : HoldU w g zs) {j : Nat} (hj : j < zs.length) (x : Int) : HoldU (w.setCell ⟨g, j, none⟩ (.int .u16 x)) g (zs.set j x) := by
  intro k y hk
  rw [List.getElem?_set] at hk
  rw [World.frozen?_setCell]
  by_cases e : j = k
  · subst e
    rw [if_pos rfl, if_pos hj] at hk
    cases hk
    obtain ⟨h1, h2⟩ := h j zs[j] (List.getElem?_eq_getElem hj)
    exact ⟨World.cell?_setCell_same' _ _ _ (by rw [h1]; rfl), h2⟩
  · rw [if_neg e] at hk
    obtain ⟨h1, h2⟩ := h k y hk
    refine ⟨?_, h2⟩
    rw [World.cell?_setCell_other]
    · exact h1
    · intro e'; exact e (by simpa using e'.symm)
def zg (zs : List Int) (k : Nat) : Int := zs.getD k 0
/-- sorted up to i -/
def SoTo (i : Nat) (zs : List Int) : Prop := ∀ x y, x < y → y < i → zg zs x ≤ zg zs y
/-- sorted up to i, but for what stands at j, which is no more than what is behind it -/
structure InsI (i j : Nat) (zs : List Int) : Prop where
  a : ∀ x y, x < y → y ≤ i → x ≠ j → y ≠ j → zg zs x ≤ zg zs y
  b : ∀ y, j < y → y ≤ i → zg zs j ≤ zg zs y
theorem InsI.start {i : Nat} {zs : List Int} (h : SoTo i zs) : InsI i i zs := ⟨fun x y h1 h2 _ h4 => h x y h1 (by omega), fun y h1 h2 => by omega⟩
theorem zg_get {zs : List Int} {k : Nat} (h : k < zs.length) : zs[k]? = some (zg zs k) := by
  unfold zg
  rw [List.getD_eq_getElem?_getD, List.getElem?_eq_getElem h]; rfl
/-- two neighbours, the other way round -/
def swp (zs : List Int) (j : Nat) : List Int := (zs.set j (zg zs (j - 1))).set (j - 1) (zg zs j)
theorem swp_len (zs : List Int) (j : Nat) : (swp zs j).length = zs.length := by simp [swp]
theorem swp_get {zs : List Int} {j : Nat} (h0 : 0 < j) (hj : j < zs.length) (k : Nat) : zg (swp zs j) k = if k = j - 1 then zg zs j else if k = j then zg zs (j - 1) else zg zs k := by
  unfold zg swp
  simp only [List.getD_eq_getElem?_getD, List.getElem?_set, List.length_set]
  by_cases h1 : k = j - 1
  · subst h1
    rw [if_pos rfl, if_pos (by omega), if_pos rfl]
    rfl
  · rw [if_neg (by omega), if_neg h1]
    by_cases h2 : k = j
    · subst h2
      rw [if_pos rfl, if_pos hj, if_pos rfl]
      rfl
    · rw [if_neg (by omega), if_neg h2]
theorem swp_perm {zs : List Int} {j : Nat} (h0 : 0 < j) (hj : j < zs.length) : (swp zs j).Perm zs := by
  have h1 : zg zs (j - 1) = zs[j - 1]'(by omega) := by unfold zg; rw [List.getD_eq_getElem?_getD, List.getElem?_eq_getElem (by omega)]; rfl
  have h2 : zg zs j = zs[j] := by unfold zg; rw [List.getD_eq_getElem?_getD, List.getElem?_eq_getElem hj]; rfl
  unfold swp
  rw [h1, h2]
  exact List.set_set_perm hj (by omega)
theorem InsI.step {i j : Nat} {zs : List Int} (h : InsI i j zs) (h0 : 0 < j) (hj : j < zs.length) (hji : j ≤ i) (hlt : zg zs j < zg zs (j - 1)) : InsI i (j - 1) (swp zs j) := by
  constructor
  · intro x y h1 h2 h3 h4
    rw [swp_get h0 hj, swp_get h0 hj, if_neg h3, if_neg h4]
    by_cases ey : y = j
    · rw [if_pos ey, if_neg (by omega)]
      exact h.a x (j - 1) (by omega) (by omega) (by omega) (by omega)
    · rw [if_neg ey]
      by_cases ex : x = j
      · rw [if_pos ex]
        exact h.a (j - 1) y (by omega) h2 (by omega) ey
      · rw [if_neg ex]
        exact h.a x y h1 h2 ex ey
  · intro y h1 h2
    rw [swp_get h0 hj, swp_get h0 hj, if_pos rfl, if_neg (by omega)]
    by_cases ey : y = j
    · rw [if_pos ey]; omega
    · rw [if_neg ey]
      exact h.b y (by omega) h2
theorem InsI.done {i j : Nat} {zs : List Int} (h : InsI i j zs) (hq : j = 0 ∨ zg zs (j - 1) ≤ zg zs j) : SoTo (i + 1) zs := by
  intro x y h1 h2
  by_cases ex : x = j
  · subst ex; exact h.b y h1 (by omega)
  · by_cases ey : y = j
    · subst ey
      rcases hq with e | e
      · omega
      · by_cases e1 : x = y - 1
        · subst e1; exact e
        · exact Int.le_trans (h.a x (y - 1) (by omega) (by omega) ex (by omega)) e
    · exact h.a x y h1 (by omega) ex ey
theorem SoTo.pair {zs : List Int} (h : SoTo zs.length zs) : zs.Pairwise (· ≤ ·) := by
  rw [List.pairwise_iff_getElem]
  intro i j hi hj hij
  have := h i j hij hj
  unfold zg at this
  rw [List.getD_eq_getElem?_getD, List.getD_eq_getElem?_getD, List.getElem?_eq_getElem hi, List.getElem?_eq_getElem hj] at this
  exact this

set_option maxHeartbeats 1000000 in
theorem nanU {w : World} (x : Int) : Calls Try.prog 69 #[.int .u16 x] w fun e w' => e = .returned (.bool false) ∧ w = w' := by
  go_enter Try.func69, Try.ntmps69
  go_wp2
  go_ret
  exact ⟨ret_ (by simp), rfl⟩
set_option maxHeartbeats 1000000 in
theorem lessU {w : World} (x y : Int) : Calls Try.prog 59 #[.int .u16 x, .int .u16 y] w fun e w' => e = .returned (.bool (decide (x < y))) ∧ w = w' := by
  go_enter Try.func59, Try.ntmps59
  go_wp2_with (go_at_call 69; refine (nanU x).mono ?_; rintro e w2 ⟨rfl, rfl⟩)
  go_ret
  exact ⟨rfl, rfl⟩
theorem quietU {f : FuncId} {args : Array Value} {w : World} {n : Nat} {v : Value} (h : Calls Try.prog f args (w.drewN n) fun e w' => e = .returned v ∧ w.drewN n = w') :
    Calls Try.prog f args (w.drewN n) fun e w'' => e = .returned v ∧ ∃ m, w'' = w.drewN m := h.mono fun _ _ ⟨he, hm⟩ => ⟨he, n, hm.symm⟩
theorem lessB {w : World} {x y : Int} {b : Bool} (h : Hid (decide (x < y) = b)) : Calls Try.prog 59 #[.int .u16 x, .int .u16 y] w fun e w' => e = .returned (.bool b) ∧ w = w' := by
  have := lessU (w := w) x y
  rwa [h.out] at this

set_option maxRecDepth 100000 in
set_option maxHeartbeats 4000000 in
theorem insU {w : World} {g c : Nat} {zs0 : List Int} (n : Nat) (hn : n = zs0.length) (h12 : n ≤ 12) (hc : n ≤ c) (hg : g < w.heap.size) (h : HoldU w g zs0) :
    Calls Try.prog 53 #[.slice (some ⟨g, 0, none⟩) n c, .int .i64 0, .int .i64 n] w fun e w' => e = .returned (.tuple #[]) ∧ ∃ zs, zs.Perm zs0 ∧ zs.Pairwise (· ≤ ·) ∧ HoldU w' g zs ∧ Chg (fun k => k = g) w w' := by
  have HN := Lib.hid hn
  clear hn
  have HH := Lib.hid h
  clear h
  go_enter Try.func53, Try.ntmps53
  go_wp2
  go_loopw [6] (fun i wr => ∃ (k : Nat) (zs : List Int), i = .int .i64 k ∧ 1 ≤ k ∧ Hid (zs.Perm zs0 ∧ SoTo k zs ∧ HoldU wr g zs ∧ Chg (fun k => k = g) w wr)) (fun i _ => n - (intOf i).toNat)
  case atStart => exact ⟨1, zs0, rfl, by omega, Lib.hid ⟨.refl _, fun x y h1 h2 => by omega, HH.out, Chg.refl _ _⟩⟩
  case round =>
    obtain ⟨k, zs, rfl, hk1, HS⟩ := hrel
    by_cases hlt : k < n
    · obtain ⟨wo, rfl⟩ : ∃ wo, wo = wr := ⟨_, rfl⟩
      have hkl : k < zs.length := by rw [HS.out.1.length_eq, ← HN.out]; exact hlt
      go_wp2_with fail
      go_loopw [7] (fun i wi => ∃ (j : Nat) (zs : List Int), i = .int .i64 j ∧ j ≤ k ∧ Hid (zs.Perm zs0 ∧ InsI k j zs ∧ HoldU wi g zs ∧ Chg (fun k => k = g) w wi)) (fun i _ => (intOf i).toNat)
      case atStart => exact ⟨k, zs, rfl, Nat.le_refl _, Lib.hid ⟨HS.out.1, InsI.start HS.out.2.1, HS.out.2.2.1, HS.out.2.2.2⟩⟩
      case round =>
        obtain ⟨wi, rfl⟩ : ∃ wi, wi = wr := ⟨_, rfl⟩
        clear HS hkl
        obtain ⟨j, zs, rfl, hjk, HS⟩ := hrel
        have HL : Hid (zs.length = n) := Lib.hid (by rw [HS.out.1.length_eq, ← HN.out])
        by_cases h0 : j = 0
        · subst h0
          go_wp2_with fail
          go_quiet (fail)
          go_wp2_with fail
          go_roundw
          case rel => exact ⟨k + 1, zs, by go_num, by omega, Lib.hid ⟨HS.out.1, HS.out.2.1.done (.inl rfl), HS.out.2.2.1, HS.out.2.2.2.drewN _⟩⟩
          case measure => simp [intOf]; omega
        · obtain ⟨i, rfl⟩ : ∃ i, j = i + 1 := ⟨j - 1, by omega⟩
          have hlj : i + 1 < zs.length := by rw [HL.out]; omega
          obtain ⟨x, hx⟩ : ∃ x, zg zs (i + 1) = x := ⟨_, rfl⟩
          obtain ⟨y, hy⟩ : ∃ y, zg zs i = y := ⟨_, rfl⟩
          have hc1 := (HS.out.2.2.1 (i + 1) x (by rw [zg_get hlj, hx])).1
          have hc0 := (HS.out.2.2.1 i y (by rw [zg_get (by omega), hy])).1
          have hf1 := (HS.out.2.2.1 (i + 1) x (by rw [zg_get hlj, hx])).2
          have hf0 := (HS.out.2.2.1 i y (by rw [zg_get (by omega), hy])).2
          have hb1 : ((i + 1 : Nat) : Int) < n := by have := HL.out; omega
          have hb0 : (i : Int) < n := by omega
          have hw0 : IntKind.i64.wrap (((i + 1 : Nat) : Int) - 1) = (i : Int) := by simp [IntKind.wrap, IntKind.signed, IntKind.bits]; omega
          have HX := Lib.hid (And.intro hx hy)
          have HLJ := Lib.hid hlj
          clear hx hy hlj
          cases hd : decide (x < y)
          · have HD := Lib.hid hd
            clear hd
            go_wp2_with fail
            go_quiet ((go_at_call 59; exact quietU (lessB HD)))
            go_wp2_with fail
            go_roundw
            case rel => exact ⟨k + 1, zs, by go_num, by omega, Lib.hid ⟨HS.out.1, HS.out.2.1.done (.inr (by have := HD.out; rw [← HX.out.1, ← HX.out.2] at this; simpa using this)), HS.out.2.2.1, HS.out.2.2.2.drewN _⟩⟩
            case measure => simp [intOf]; omega
          · have HD := Lib.hid hd
            clear hd
            go_wp2_with fail
            go_quiet ((go_at_call 59; exact quietU (lessB HD)))
            go_upto_region 6 with fail
            have HP : Hid (zs.Perm zs0 ∧ InsI k i (swp zs (i + 1)) ∧ swp zs (i + 1) = (zs.set (i + 1) y).set i x) := Lib.hid ⟨HS.out.1, by
              have := HS.out.2.1.step (Nat.succ_pos i) HLJ.out hjk (by have := HD.out; rw [← HX.out.1, ← HX.out.2] at this; simpa using this)
              simpa using this, by unfold swp; simp [HX.out.1, HX.out.2]⟩
            have HQ : Hid ((swp zs (i + 1)).Perm zs0) := Lib.hid ((swp_perm (Nat.succ_pos i) HLJ.out).trans HP.out.1)
            go_region
            go_wp2_with fail
            go_roundw
            case rel =>
              refine ⟨i, swp zs (i + 1), by go_num, by omega, Lib.hid ⟨HQ.out, HP.out.2.1, ?_, ?_⟩⟩
              · rw [HP.out.2.2]
                exact HoldU.put (HoldU.put (HoldU.drew (HoldU.drew HS.out.2.2.1 _) 1) HLJ.out y) (by have := HLJ.out; simp; omega) x
              · exact (((HS.out.2.2.2.drewN _).drew.setCell (p := ⟨g, i + 1, none⟩) (.inr rfl) _).setCell (p := ⟨g, i, none⟩) (.inr rfl) _)
            case measure => simp [intOf]
    · have HE : Hid (zs.Pairwise (· ≤ ·)) := Lib.hid (SoTo.pair (by
        have hl : zs.length = n := by rw [HS.out.1.length_eq, ← HN.out]
        rw [hl]
        exact fun x y h1 h2 => HS.out.2.1 x y h1 (by omega)))
      go_wp2_with fail
      go_end0
      exact ⟨rfl, zs, HS.out.1, HE.out, HS.out.2.2.1, HS.out.2.2.2⟩

set_option maxHeartbeats 1000000 in
theorem pdqU {w : World} {g c : Nat} {zs0 : List Int} (n : Nat) (lim : Int) (hn : n = zs0.length) (h12 : n ≤ 12) (hc : n ≤ c) (hg : g < w.heap.size) (h : HoldU w g zs0) :
    Calls Try.prog 47 #[.slice (some ⟨g, 0, none⟩) n c, .int .i64 0, .int .i64 n, .int .i64 lim] w fun e w' => e = .returned (.tuple #[]) ∧ ∃ zs, zs.Perm zs0 ∧ zs.Pairwise (· ≤ ·) ∧ HoldU w' g zs ∧ Chg (fun k => k = g) w w' := by
  have HH := Lib.hid h
  have HN := Lib.hid hn
  clear h hn
  go_enter Try.func47, Try.ntmps47
  go_wp2
  refine wp_loop_rounds 1 ?_
  rw [rounds_succ]
  go_wp2_with (go_at_call 53; refine (insU n HN.out h12 hc hg HH.out).mono ?_; rintro e w2 ⟨rfl, hz⟩)
  exact bodyPost_ret (results_none rfl _ _ _) rfl ⟨rfl, hz⟩
set_option maxHeartbeats 1000000 in
theorem insU_nil {w : World} {A : Option Addr} {c : Nat} : Calls Try.prog 53 #[.slice A 0 c, .int .i64 0, .int .i64 0] w fun e w' => e = .returned (.tuple #[]) ∧ w = w' := by
  go_enter Try.func53, Try.ntmps53
  go_wp2
  refine wp_loop_rounds 1 ?_
  rw [rounds_succ]
  go_wp2
  go_end0
  exact ⟨rfl, rfl⟩
set_option maxHeartbeats 1000000 in
theorem pdqU_nil {w : World} {A : Option Addr} {c : Nat} (lim : Int) : Calls Try.prog 47 #[.slice A 0 c, .int .i64 0, .int .i64 0, .int .i64 lim] w fun e w' => e = .returned (.tuple #[]) ∧ w = w' := by
  go_enter Try.func47, Try.ntmps47
  go_wp2
  refine wp_loop_rounds 1 ?_
  rw [rounds_succ]
  go_wp2_with (go_at_call 53; refine insU_nil.mono ?_; rintro e w2 ⟨rfl, rfl⟩)
  exact bodyPost_ret (results_none rfl _ _ _) rfl ⟨rfl, rfl⟩
set_option maxHeartbeats 1000000 in
theorem bitsLenU {w : World} (n : Nat) (h : n ≤ 12) : Calls Try.prog 48 #[.int .u64 n] w fun e w' => (∃ z, e = .returned (.int .i64 z)) ∧ w = w' := by
  go_enter Try.func48, Try.ntmps48
  go_wp2_with (go_at_call 63; refine (len64_any n w (by omega) (by omega)).mono ?_; rintro e w2 ⟨rfl, rfl⟩)
  go_ret
  exact ⟨⟨_, rfl⟩, rfl⟩
set_option maxHeartbeats 1000000 in
theorem sortU {w : World} {g c : Nat} {zs0 : List Int} (n : Nat) (hn : n = zs0.length) (h12 : n ≤ 12) (hc : n ≤ c) (hg : g < w.heap.size) (h : HoldU w g zs0) :
    Calls Try.prog 37 #[.slice (some ⟨g, 0, none⟩) n c] w fun e w' => e = .returned (.tuple #[]) ∧ ∃ zs, zs.Perm zs0 ∧ zs.Pairwise (· ≤ ·) ∧ HoldU w' g zs ∧ Chg (fun k => k = g) w w' := by
  have HH := Lib.hid h
  have HN := Lib.hid hn
  clear h hn
  have hw : IntKind.u64.wrap (n : Int) = (n : Int) := by simp [IntKind.wrap, IntKind.signed, IntKind.bits]; omega
  go_enter Try.func37, Try.ntmps37
  go_wp2_with fail
  refine (bitsLenU n h12).mono ?_
  rintro e w2 ⟨⟨z, rfl⟩, rfl⟩
  go_wp2_with fail
  refine (pdqU n z HN.out h12 hc hg HH.out).mono ?_
  rintro e w2 ⟨rfl, hz⟩
  go_wp2
  go_end0
  exact ⟨rfl, hz⟩
set_option maxHeartbeats 1000000 in
theorem sortU_nil {w : World} {A : Option Addr} {c : Nat} : Calls Try.prog 37 #[.slice A 0 c] w fun e w' => e = .returned (.tuple #[]) ∧ w = w' := by
  have hw : IntKind.u64.wrap (0 : Int) = (0 : Int) := by simp [IntKind.wrap, IntKind.signed, IntKind.bits]
  go_enter Try.func37, Try.ntmps37
  go_wp2_with fail
  refine (bitsLenU 0 (by omega)).mono ?_
  rintro e w2 ⟨⟨z, rfl⟩, rfl⟩
  go_wp2_with fail
  refine (pdqU_nil z).mono ?_
  rintro e w2 ⟨rfl, rfl⟩
  go_wp2
  go_end0
  exact ⟨rfl, rfl⟩

/-- a number, as a row's element -/
def encU (x : Int) : List Value := [.int .u16 x]
theorem sorted_is {L : List Vn} {zs : List Int} (hr : Ris L) (hp : zs.Perm (vks L)) (hs : zs.Pairwise (· ≤ ·)) : zs = vks L :=
  hp.eq_of_pairwise (le := (· ≤ ·)) (fun a b _ _ h1 h2 => Int.le_antisymm h1 h2) hs ((vks_ris hr).imp fun h => by omega)
set_option maxHeartbeats 2000000 in
/-- slices.Sorted(maps.Keys(m)), the second call -/
theorem sortedU (mb : Option Nat) (L : List Vn) (hr : Ris L) (h8 : L.length ≤ 8) (Bm : Nat) (w : World) (hBm : Bm < w.heap.size) (hm : w.cell? ⟨Bm, 0, none⟩ = some (.map mb)) (hv : Vof w mb L) :
    Calls Try.prog 23 #[.func (.func 38) #[] #[.pointer (some ⟨Bm, 0, none⟩)]] w fun e w' => ∃ A c, e = .returned (.slice A L.length c) ∧ Els 1 encU w' A (vks L) ∧ (∀ b off, A = some ⟨b, off, none⟩ → w.heap.size ≤ b) ∧ Below w.heap.size w w' := by
  go_enter Try.func23, Try.ntmps23
  go_wp2_with fail
  refine (collectU_any mb L hr h8 Bm w hBm hm hv).mono ?_
  rintro e w2 ⟨v, ys, hp, rfl, hrow, hnil, hb⟩
  have hlen : ys.length = L.length := by rw [hp.length_eq, vks_len]
  rcases hrow.2 with ⟨rfl, h0⟩ | ⟨g, cap, cur, rfl, hgb, hgg, h1, h2, h3⟩
  · have hys : ys = [] := hnil.1 rfl
    subst hys
    have HL : Hid (L.length = 0) := Lib.hid (by simpa using hlen.symm)
    have HB := Lib.hid hb
    clear hrow hnil hb hp hlen h0
    go_wp2_with fail
    refine sortU_nil.mono ?_
    rintro e w3 ⟨rfl, rfl⟩
    go_wp2
    go_ret
    refine ⟨none, 0, ret_ (by rw [HL.out]; rfl), fun h => ?_, (fun b off e => by cases e), HB.out⟩
    rw [vks_len, HL.out] at h
    omega
  · have hhold : HoldU w2 g ys := by
      intro k x hk
      have hc := World.ownsRow.cells hrow (g := g) rfl k (.int .u16 x) (by simp [hk])
      have hadd : (⟨g, 0, none⟩ : Addr).add k = ⟨g, k, none⟩ := by unfold Addr.add; split <;> simp_all
      rw [hadd] at hc
      exact ⟨hc, by simp [World.frozen?, hgg]⟩
    have HO := Lib.hid hhold
    have HP := Lib.hid hp
    have HL := Lib.hid hlen
    have HB := Lib.hid hb
    have HG := Lib.hid hgb
    have hcap : ys.length ≤ cap := by omega
    have hglt : g < w2.heap.size := (Array.getElem?_eq_some_iff.1 hgg).1
    obtain ⟨n, hn⟩ : ∃ n, ys.length = n := ⟨_, rfl⟩
    have HN := Lib.hid hn.symm
    rw [hn] at hcap ⊢
    have hn12 : n ≤ 12 := by omega
    clear hrow hnil hb hp hlen hgb hgg h1 h2 h3 hhold hn
    go_wp2_with fail
    refine (sortU n HN.out hn12 hcap hglt HO.out).mono ?_
    rintro e w3 ⟨rfl, zs, hzp, hzs, hzh, hzc⟩
    have hz : zs = vks L := sorted_is hr (hzp.trans HP.out) hzs
    subst hz
    have HH := Lib.hid hzh
    have HC := Lib.hid hzc
    clear hzh hzc hzp hzs
    go_wp2
    go_ret
    have hnl : n = L.length := by rw [← HL.out, ← HN.out]
    subst hnl
    refine ⟨some ⟨g, 0, none⟩, cap, rfl, fun h0 => ⟨g, 0, rfl, ?_, fun i hi j v hv => ?_⟩, fun b off e => ?_, ?_⟩
    · exact Nat.lt_of_lt_of_le hglt HC.out.size
    · obtain rfl : j = 0 := by
        have := (List.getElem?_eq_some_iff.1 hv).1
        simp only [encU, List.length_cons, List.length_nil] at this
        omega
      have hv' : v = .int .u16 (vks L)[i] := by simpa [encU] using hv.symm
      subst hv'
      have := (HH.out i _ (List.getElem?_eq_getElem hi)).1
      simpa using this
    · cases e; exact HG.out
    · exact HB.out.trans (HC.out.below HB.out.size (fun k hk e => by have := HG.out; omega))
set_option maxHeartbeats 1000000 in
theorem vlans_any {w : World} {t N : Nat} {mb : Option Nat} {L : List Vn} {own : List UInt16} (h : Tbl w t mb N L own) :
    Calls Try.prog 10 #[.pointer (some ⟨t, 0, none⟩)] w fun e w' => ∃ A c, e = .returned (.slice A L.length c) ∧ Els 1 encU w' A (vks L) ∧ (∀ b off, A = some ⟨b, off, none⟩ → w.heap.size ≤ b) ∧ Below w.heap.size w w' := by
  have HT := Lib.hid h
  have c1 := h.c1
  clear h
  go_enter Try.func10, Try.ntmps10
  go_wp2_with fail
  refine (keysU_any mb).mono ?_
  rintro e w2 ⟨rfl, hw2⟩
  have hb : Below w.heap.size w w2 := by rw [hw2]; exact (Below.refl _ _).alloc (Nat.le_refl _) _
  have HT2 := Lib.hid (HT.out.next hb)
  have HB := Lib.hid hb
  have HM := Lib.hid (show w2.cell? ⟨w.heap.size, 0, none⟩ = some (.map mb) by rw [hw2]; exact (Blk.new w _ _).cell 0)
  have HL := Lib.hid (show w.heap.size < w2.heap.size by rw [hw2]; simp)
  clear hw2 hb c1
  go_wp2_with fail
  refine (sortedU mb L HT2.out.ris HT2.out.l8 w.heap.size w2 HL.out HM.out HT2.out.vof).mono ?_
  rintro e w3 ⟨A, c, rfl, hE, hA, hb3⟩
  have HX := Lib.hid (And.intro hE (And.intro hA hb3))
  clear hE hA hb3
  go_wp2
  go_ret
  exact ⟨A, c, rfl, HX.out.1, fun b off e => Nat.le_trans HB.out.size (HX.out.2.1 b off e), HB.out.trans (HX.out.2.2.mono HB.out.size)⟩
set_option maxHeartbeats 1000000 in
theorem vlans_nil {w : World} :
    Calls Try.prog 10 #[.pointer none] w fun e w' => e = .returned (.slice none 0 0) ∧ w = w' := by
  go_enter Try.func10, Try.ntmps10
  go_wp2
  go_ret
  exact ⟨rfl, rfl⟩
end Go.Proofs.Yteiopobkbfancaa
