/- Layer 7: the document's Drop, SetOwn. -/
import Derived.Test.YteiopobkbfancaaRBit
namespace Go.Proofs.Yteiopobkbfancaa
open Go.RowKit
set_option linter.unusedVariables false
set_option linter.unusedSimpArgs false
set_option maxRecDepth 100000

theorem els_row {w : World} {A : Option Addr} {L : List Vn} {g : Nat} {t : TypeId} {cs0 : Array Value} (h : Els 3 encN w A L) (hg : Blk w g t cs0) (hn : ∀ b off, A = some ⟨b, off, none⟩ → 0 < L.length → b ≠ g) (cs : Array Value) : Els 3 encN (w.setRow g cs) A L := by
  intro h0
  obtain ⟨b, off, e, hlt, hc⟩ := h h0
  refine ⟨b, off, e, by simpa using hlt, fun i hi j u hu => ?_⟩
  rw [World.cell?_of_block (w := w) (a := ⟨b, off + i * 3 + j, none⟩) (setRow_other w g b _ (hn b off e h0))]
  exact hc i hi j u hu
theorem els_lt {w : World} {A : Option Addr} {L : List Vn} {b off : Nat} (h : Els 3 encN w A L) (hA : A = some ⟨b, off, none⟩) (h0 : 0 < L.length) : b < w.heap.size := by
  obtain ⟨b', off', e, hlt, _⟩ := h h0
  rw [hA] at e
  cases e
  exact hlt
/-- what the document's Set, Drop, SetOwn hand back -/
def DP (w : World) (A : Option Addr) (L0 : List Vn) (N : Nat) (code : Int) (L' : List Vn) (own' : List UInt16) (e : Ending) (w' : World) : Prop :=
  ∃ cs' A' c', e = .returned (.tuple #[.agg cs', .int .i64 code]) ∧ DTV cs' N A' c' L' own' ∧ Els 3 encN w' A' L' ∧ (∀ b off, A' = some ⟨b, off, none⟩ → (A' = A ∧ L' = L0) ∨ w.heap.size ≤ b) ∧ Below w.heap.size w w'
theorem okV_no {v : UInt16} (h : okV v = false) : v.toNat < 1 ∨ 4094 < v.toNat := by
  unfold okV at h
  simp at h
  omega
theorem okV_yes {v : UInt16} (h : okV v = true) : 1 ≤ v.toNat ∧ v.toNat ≤ 4094 := by
  unfold okV at h
  simpa using h

set_option maxHeartbeats 2000000 in
theorem ddrop_bad {w : World} {cs : Array Value} {N c : Nat} {A : Option Addr} {L : List Vn} {own : List UInt16} (hv : DTV cs N A c L own) (hE : Els 3 encN w A L) (h8 : L.length ≤ 8) (v : UInt16) (hk : okV v = false) :
    Calls Try.prog 20 #[.agg cs, .int .u16 v.toNat] w fun e w' => DP w A L N (2) (L) (own) e w' := by
  obtain ⟨w1, hw1⟩ : ∃ w1, (w.alloc (.cells cs 36)).alloc (.cells #[.int .i64 0, .slice none 0 0, .int .u16 0, .int .u16 0, .int .u16 0, .int .u16 0, .int .u16 0, .int .u16 0, .int .u16 0, .int .u16 0] 36) = w1 := ⟨_, rfl⟩
  obtain ⟨g, hg⟩ : ∃ g, w.heap.size = g := ⟨_, rfl⟩
  have HB := Lib.hid (show Below w.heap.size w w1 by rw [← hw1]; exact ((Below.refl w.heap.size w).alloc (Nat.le_refl _) _).alloc (by simp) _)
  have HD := Lib.hid (show DT w1 g cs N A c L own from ⟨by rw [← hw1, ← hg]; exact (Blk.new w _ _).alloc _, hv⟩)
  have HZ := Lib.hid (show Blk w1 (g + 1) 36 #[.int .i64 0, .slice none 0 0, .int .u16 0, .int .u16 0, .int .u16 0, .int .u16 0, .int .u16 0, .int .u16 0, .int .u16 0, .int .u16 0] by rw [← hw1, ← hg]; have := Blk.new (w.alloc (.cells cs 36)) 36 #[.int .i64 0, .slice none 0 0, .int .u16 0, .int .u16 0, .int .u16 0, .int .u16 0, .int .u16 0, .int .u16 0, .int .u16 0, .int .u16 0]; simpa using this)
  have HE := Lib.hid (hE.next HB.out)
  have HG := Lib.hid hg
  have HA : Hid (∀ b off, A = some ⟨b, off, none⟩ → 0 < L.length → b < g) := Lib.hid (fun b off e h0 => by rw [← hg]; exact els_lt hE e h0)
  clear hv hE
  have hq := okV_no hk
  obtain ⟨q, hqv⟩ : ∃ q, v.toNat = q := ⟨_, rfl⟩
  rw [hqv] at hq ⊢
  clear hqv hk
  by_cases h1 : q < 1
  · clear hq
    go_enter Try.func20, Try.ntmps20
    go_upto_region 1 with fail
    clear hw1 hg
    go_wp2_with (first | refine wpList_load_dt 2 rfl (by kernel_rfl) g rfl _ HD.out.blk HD.out.v.sz ?_ | refine wpList_store_row rfl 36 (.tmp 4) _ rfl (g + 1) rfl (cs) rfl 36 _ HZ.out (by rw [HD.out.v.sz]; exact info_rt) (by first | rw [HD.out.v.sz]; rfl | (rw [HD.out.v.sz]; exact rfl)) HD.out.v.one ?_)
    have HR := Lib.hid (HZ.out.row (cs))
    refine bodyPost_ret (v := .tuple #[.agg (cs), .int .i64 2]) (results_cell_slot Try.results20 _ _ (g + 1) 36 _ _ rfl HR.out Try.underlying36 rfl (by rw [HD.out.v.sz]; exact info_rt) _ rfl) rfl ⟨_, _, _, rfl, HD.out.v, els_row HE.out HZ.out (fun b off e h0 => by have := HA.out b off e h0; show b ≠ g + 1; omega) _, ?_, below_row HB.out (by rw [HG.out]; omega) _⟩
    exact fun b off e => .inl ⟨rfl, rfl⟩
  · have h2 : 4094 < q := by omega
    clear hq
    go_enter Try.func20, Try.ntmps20
    go_upto_region 1 with fail
    clear hw1 hg
    go_wp2_with (first | refine wpList_load_dt 2 rfl (by kernel_rfl) g rfl _ HD.out.blk HD.out.v.sz ?_ | refine wpList_store_row rfl 36 (.tmp 4) _ rfl (g + 1) rfl (cs) rfl 36 _ HZ.out (by rw [HD.out.v.sz]; exact info_rt) (by first | rw [HD.out.v.sz]; rfl | (rw [HD.out.v.sz]; exact rfl)) HD.out.v.one ?_)
    have HR := Lib.hid (HZ.out.row (cs))
    refine bodyPost_ret (v := .tuple #[.agg (cs), .int .i64 2]) (results_cell_slot Try.results20 _ _ (g + 1) 36 _ _ rfl HR.out Try.underlying36 rfl (by rw [HD.out.v.sz]; exact info_rt) _ rfl) rfl ⟨_, _, _, rfl, HD.out.v, els_row HE.out HZ.out (fun b off e h0 => by have := HA.out b off e h0; show b ≠ g + 1; omega) _, ?_, below_row HB.out (by rw [HG.out]; omega) _⟩
    exact fun b off e => .inl ⟨rfl, rfl⟩

set_option maxHeartbeats 2000000 in
theorem ddrop_none {w : World} {cs : Array Value} {N c : Nat} {A : Option Addr} {L : List Vn} {own : List UInt16} (hv : DTV cs N A c L own) (hE : Els 3 encN w A L) (h8 : L.length ≤ 8) (v : UInt16) (hk : okV v = true) (hh : vhas L v = false) :
    Calls Try.prog 20 #[.agg cs, .int .u16 v.toNat] w fun e w' => DP w A L N (7) (L) (own) e w' := by
  obtain ⟨w1, hw1⟩ : ∃ w1, (w.alloc (.cells cs 36)).alloc (.cells #[.int .i64 0, .slice none 0 0, .int .u16 0, .int .u16 0, .int .u16 0, .int .u16 0, .int .u16 0, .int .u16 0, .int .u16 0, .int .u16 0] 36) = w1 := ⟨_, rfl⟩
  obtain ⟨g, hg⟩ : ∃ g, w.heap.size = g := ⟨_, rfl⟩
  have HB := Lib.hid (show Below w.heap.size w w1 by rw [← hw1]; exact ((Below.refl w.heap.size w).alloc (Nat.le_refl _) _).alloc (by simp) _)
  have HD := Lib.hid (show DT w1 g cs N A c L own from ⟨by rw [← hw1, ← hg]; exact (Blk.new w _ _).alloc _, hv⟩)
  have HZ := Lib.hid (show Blk w1 (g + 1) 36 #[.int .i64 0, .slice none 0 0, .int .u16 0, .int .u16 0, .int .u16 0, .int .u16 0, .int .u16 0, .int .u16 0, .int .u16 0, .int .u16 0] by rw [← hw1, ← hg]; have := Blk.new (w.alloc (.cells cs 36)) 36 #[.int .i64 0, .slice none 0 0, .int .u16 0, .int .u16 0, .int .u16 0, .int .u16 0, .int .u16 0, .int .u16 0, .int .u16 0, .int .u16 0]; simpa using this)
  have HE := Lib.hid (hE.next HB.out)
  have HG := Lib.hid hg
  have HA : Hid (∀ b off, A = some ⟨b, off, none⟩ → 0 < L.length → b < g) := Lib.hid (fun b off e h0 => by rw [← hg]; exact els_lt hE e h0)
  clear hv hE
  have hq := okV_yes hk
  have H8 : Hid (L.length ≤ 1000) := Lib.hid (by omega)
  have HH := Lib.hid hh
  have hk1 : ¬ ((v.toNat : Int) < 1) := by omega
  have hk2 : ¬ ((4094 : Int) < v.toNat) := by omega
  clear hq hk hh h8
  go_enter Try.func20, Try.ntmps20
  go_upto_region 1 with fail
  clear hw1 hg
  go_wp2_with (refine wpList_load_dt 2 rfl (by kernel_rfl) g rfl _ HD.out.blk HD.out.v.sz ?_)
  refine (find_any HD.out.v HE.out H8.out v).mono ?_
  rintro e w2 ⟨z, rfl, hz, hb⟩
  have hz1 : z = -1 := by
    rcases hz with ⟨_, e⟩ | ⟨k, x, rfl, hx, hf⟩
    · exact e
    · have := vfind_none.2 HH.out
      rw [this] at hf
      cases hf
  subst hz1
  have HD2 := Lib.hid (HD.out.next hb)
  have HE2 := Lib.hid (HE.out.next hb)
  have HZ2 := Lib.hid (HZ.out.below hb HZ.out.lt)
  have HB2 : Hid (Below w.heap.size w w2) := Lib.hid (HB.out.trans (hb.mono HB.out.size))
  clear hb hz HD HE HZ HB
  go_wp2_with (first | refine wpList_load_dt 2 rfl (by kernel_rfl) g rfl _ HD2.out.blk HD2.out.v.sz ?_ | refine wpList_store_row rfl 36 (.tmp 4) _ rfl (g + 1) rfl (cs) rfl 36 _ HZ2.out (by rw [HD2.out.v.sz]; exact info_rt) (by first | rw [HD2.out.v.sz]; rfl | (rw [HD2.out.v.sz]; exact rfl)) HD2.out.v.one ?_)
  have HR := Lib.hid (HZ2.out.row (cs))
  refine bodyPost_ret (v := .tuple #[.agg (cs), .int .i64 7]) (results_cell_slot Try.results20 _ _ (g + 1) 36 _ _ rfl HR.out Try.underlying36 rfl (by rw [HD2.out.v.sz]; exact info_rt) _ rfl) rfl ⟨_, _, _, rfl, HD2.out.v, els_row HE2.out HZ2.out (fun b off e h0 => by have := HA.out b off e h0; show b ≠ g + 1; omega) _, ?_, below_row HB2.out (by rw [HG.out]; omega) _⟩
  exact fun b off e => .inl ⟨rfl, rfl⟩
set_option maxHeartbeats 2000000 in
theorem ddrop_ok {w : World} {cs : Array Value} {N c : Nat} {A : Option Addr} {L : List Vn} {own : List UInt16} (hv : DTV cs N A c L own) (hE : Els 3 encN w A L) (h8 : L.length ≤ 8) (v : UInt16) (hk : okV v = true) (hh : vhas L v = true) :
    Calls Try.prog 20 #[.agg cs, .int .u16 v.toNat] w fun e w' => DP w A L N (0) (vdel L v) (own) e w' := by
  obtain ⟨w1, hw1⟩ : ∃ w1, (w.alloc (.cells cs 36)).alloc (.cells #[.int .i64 0, .slice none 0 0, .int .u16 0, .int .u16 0, .int .u16 0, .int .u16 0, .int .u16 0, .int .u16 0, .int .u16 0, .int .u16 0] 36) = w1 := ⟨_, rfl⟩
  obtain ⟨g, hg⟩ : ∃ g, w.heap.size = g := ⟨_, rfl⟩
  have HB := Lib.hid (show Below w.heap.size w w1 by rw [← hw1]; exact ((Below.refl w.heap.size w).alloc (Nat.le_refl _) _).alloc (by simp) _)
  have HD := Lib.hid (show DT w1 g cs N A c L own from ⟨by rw [← hw1, ← hg]; exact (Blk.new w _ _).alloc _, hv⟩)
  have HZ := Lib.hid (show Blk w1 (g + 1) 36 #[.int .i64 0, .slice none 0 0, .int .u16 0, .int .u16 0, .int .u16 0, .int .u16 0, .int .u16 0, .int .u16 0, .int .u16 0, .int .u16 0] by rw [← hw1, ← hg]; have := Blk.new (w.alloc (.cells cs 36)) 36 #[.int .i64 0, .slice none 0 0, .int .u16 0, .int .u16 0, .int .u16 0, .int .u16 0, .int .u16 0, .int .u16 0, .int .u16 0, .int .u16 0]; simpa using this)
  have HE := Lib.hid (hE.next HB.out)
  have HG := Lib.hid hg
  have HA : Hid (∀ b off, A = some ⟨b, off, none⟩ → 0 < L.length → b < g) := Lib.hid (fun b off e h0 => by rw [← hg]; exact els_lt hE e h0)
  clear hv hE
  have hq := okV_yes hk
  have H8 : Hid (L.length ≤ 8) := Lib.hid h8
  have HH := Lib.hid hh
  have hk1 : ¬ ((v.toNat : Int) < 1) := by omega
  have hk2 : ¬ ((4094 : Int) < v.toNat) := by omega
  clear hq hk hh h8
  go_enter Try.func20, Try.ntmps20
  go_upto_region 1 with fail
  clear hw1 hg
  go_wp2_with (refine wpList_load_dt 2 rfl (by kernel_rfl) g rfl _ HD.out.blk HD.out.v.sz ?_)
  refine (find_any HD.out.v HE.out (by have := H8.out; omega) v).mono ?_
  rintro e w2 ⟨z, rfl, hz, hb⟩
  have hz1 : 0 ≤ z := by
    rcases hz with ⟨e, _⟩ | ⟨k, x, rfl, hx, hf⟩
    · rw [HH.out] at e; cases e
    · omega
  have HD2 := Lib.hid (HD.out.next hb)
  have HE2 := Lib.hid (HE.out.next hb)
  have HZ2 := Lib.hid (HZ.out.below hb HZ.out.lt)
  have HB2 : Hid (Below w.heap.size w w2) := Lib.hid (HB.out.trans (hb.mono HB.out.size))
  clear hb hz HD HE HZ HB
  go_wp2_with (refine wpList_load_dt 2 rfl (by kernel_rfl) g rfl _ HD2.out.blk HD2.out.v.sz ?_)
  refine (without_any HD2.out.v HE2.out H8.out v).mono ?_
  rintro e w3 ⟨cs', A', c', rfl, hv', hE', hA', hb⟩
  have HV3 := Lib.hid hv'
  have HE3 := Lib.hid hE'
  have HA3 := Lib.hid hA'
  have HL2 := Lib.hid HZ2.out.lt
  have HZ3 := Lib.hid (HZ2.out.below hb HZ2.out.lt)
  have HB3 : Hid (Below w.heap.size w w3) := Lib.hid (HB2.out.trans (hb.mono HB2.out.size))
  have HS2 := Lib.hid HB2.out.size
  clear hb hv' hE' hA' HD2 HE2 HZ2 HB2
  go_wp2_with (refine wpList_store_row rfl 36 (.tmp 4) _ rfl (g + 1) rfl (cs') rfl 36 _ HZ3.out (by rw [HV3.out.sz]; exact info_rt) (by first | rw [HV3.out.sz]; rfl | (rw [HV3.out.sz]; exact rfl)) HV3.out.one ?_)
  have HR := Lib.hid (HZ3.out.row (cs'))
  refine bodyPost_ret (v := .tuple #[.agg (cs'), .int .i64 0]) (results_cell_slot Try.results20 _ _ (g + 1) 36 _ _ rfl HR.out Try.underlying36 rfl (by rw [HV3.out.sz]; exact info_rt) _ rfl) rfl ⟨_, _, _, rfl, HV3.out, els_row HE3.out HZ3.out (fun b off e h0 => by have := HA3.out b off e; have := HL2.out; show b ≠ g + 1; omega) _, ?_, below_row HB3.out (by rw [HG.out]; omega) _⟩
  exact fun b off e => .inr (Nat.le_trans HS2.out (HA3.out b off e))

set_option maxHeartbeats 2000000 in
theorem dset_bad {w : World} {cs : Array Value} {N c : Nat} {A : Option Addr} {L : List Vn} {own : List UInt16} (hv : DTV cs N A c L own) (hE : Els 3 encN w A L) (h8 : L.length ≤ 8) (p : UInt8) (v : UInt16) (hk : ¬ (p.toNat < N ∧ v.toNat ≤ 4094)) :
    Calls Try.prog 21 #[.agg cs, .int .u8 p.toNat, .int .u16 v.toNat] w fun e w' => DP w A L N (2) (L) (own) e w' := by
  obtain ⟨w1, hw1⟩ : ∃ w1, (w.alloc (.cells cs 36)).alloc (.cells #[.int .i64 0, .slice none 0 0, .int .u16 0, .int .u16 0, .int .u16 0, .int .u16 0, .int .u16 0, .int .u16 0, .int .u16 0, .int .u16 0] 36) = w1 := ⟨_, rfl⟩
  obtain ⟨g, hg⟩ : ∃ g, w.heap.size = g := ⟨_, rfl⟩
  have HB := Lib.hid (show Below w.heap.size w w1 by rw [← hw1]; exact ((Below.refl w.heap.size w).alloc (Nat.le_refl _) _).alloc (by simp) _)
  have HD := Lib.hid (show DT w1 g cs N A c L own from ⟨by rw [← hw1, ← hg]; exact (Blk.new w _ _).alloc _, hv⟩)
  have HZ := Lib.hid (show Blk w1 (g + 1) 36 #[.int .i64 0, .slice none 0 0, .int .u16 0, .int .u16 0, .int .u16 0, .int .u16 0, .int .u16 0, .int .u16 0, .int .u16 0, .int .u16 0] by rw [← hw1, ← hg]; have := Blk.new (w.alloc (.cells cs 36)) 36 #[.int .i64 0, .slice none 0 0, .int .u16 0, .int .u16 0, .int .u16 0, .int .u16 0, .int .u16 0, .int .u16 0, .int .u16 0, .int .u16 0]; simpa using this)
  have HE := Lib.hid (hE.next HB.out)
  have HG := Lib.hid hg
  have HA : Hid (∀ b off, A = some ⟨b, off, none⟩ → 0 < L.length → b < g) := Lib.hid (fun b off e h0 => by rw [← hg]; exact els_lt hE e h0)
  clear hv hE
  obtain ⟨q, hqv⟩ : ∃ q, v.toNat = q := ⟨_, rfl⟩
  obtain ⟨r, hr⟩ : ∃ r, p.toNat = r := ⟨_, rfl⟩
  rw [hqv, hr] at hk ⊢
  have c0 := HD.out.c0
  have hr8 : r < 256 := by rw [← hr]; exact p.toNat_lt
  have hwr : wrap64 (r : Int) = (r : Int) := by simp [wrap64]; omega
  clear hqv hr hr8
  by_cases h1 : N ≤ r
  · clear hk
    go_enter Try.func21, Try.ntmps21
    go_upto_region 1 with fail
    clear hw1 hg
    go_wp2_with (first | refine wpList_load_dt 3 rfl (by kernel_rfl) g rfl _ HD.out.blk HD.out.v.sz ?_ | refine wpList_store_row rfl 36 (.tmp 6) _ rfl (g + 1) rfl (cs) rfl 36 _ HZ.out (by rw [HD.out.v.sz]; exact info_rt) (by first | rw [HD.out.v.sz]; rfl | (rw [HD.out.v.sz]; exact rfl)) HD.out.v.one ?_)
    have HR := Lib.hid (HZ.out.row (cs))
    refine bodyPost_ret (v := .tuple #[.agg (cs), .int .i64 2]) (results_cell_slot Try.results21 _ _ (g + 1) 36 _ _ rfl HR.out Try.underlying36 rfl (by rw [HD.out.v.sz]; exact info_rt) _ rfl) rfl ⟨_, _, _, rfl, HD.out.v, els_row HE.out HZ.out (fun b off e h0 => by have := HA.out b off e h0; show b ≠ g + 1; omega) _, ?_, below_row HB.out (by rw [HG.out]; omega) _⟩
    exact fun b off e => .inl ⟨rfl, rfl⟩
  · have h2 : 4094 < q := by omega
    have h3 : ¬ ((N : Int) ≤ (r : Int)) := by omega
    clear hk h1
    go_enter Try.func21, Try.ntmps21
    go_upto_region 1 with fail
    clear hw1 hg
    go_wp2_with (first | refine wpList_load_dt 3 rfl (by kernel_rfl) g rfl _ HD.out.blk HD.out.v.sz ?_ | refine wpList_store_row rfl 36 (.tmp 6) _ rfl (g + 1) rfl (cs) rfl 36 _ HZ.out (by rw [HD.out.v.sz]; exact info_rt) (by first | rw [HD.out.v.sz]; rfl | (rw [HD.out.v.sz]; exact rfl)) HD.out.v.one ?_)
    have HR := Lib.hid (HZ.out.row (cs))
    refine bodyPost_ret (v := .tuple #[.agg (cs), .int .i64 2]) (results_cell_slot Try.results21 _ _ (g + 1) 36 _ _ rfl HR.out Try.underlying36 rfl (by rw [HD.out.v.sz]; exact info_rt) _ rfl) rfl ⟨_, _, _, rfl, HD.out.v, els_row HE.out HZ.out (fun b off e h0 => by have := HA.out b off e h0; show b ≠ g + 1; omega) _, ?_, below_row HB.out (by rw [HG.out]; omega) _⟩
    exact fun b off e => .inl ⟨rfl, rfl⟩

set_option maxHeartbeats 2000000 in
theorem dset_ok {w : World} {cs : Array Value} {N c : Nat} {A : Option Addr} {L : List Vn} {own : List UInt16} (hv : DTV cs N A c L own) (hE : Els 3 encN w A L) (h8 : L.length ≤ 8) (hN : N ≤ 8) (p : UInt8) (v : UInt16) (hp : p.toNat < N) (hq : v.toNat ≤ 4094) :
    Calls Try.prog 21 #[.agg cs, .int .u8 p.toNat, .int .u16 v.toNat] w fun e w' => DP w A L N (0) (L) (own.set p.toNat v) e w' := by
  obtain ⟨w1, hw1⟩ : ∃ w1, (w.alloc (.cells cs 36)).alloc (.cells #[.int .i64 0, .slice none 0 0, .int .u16 0, .int .u16 0, .int .u16 0, .int .u16 0, .int .u16 0, .int .u16 0, .int .u16 0, .int .u16 0] 36) = w1 := ⟨_, rfl⟩
  obtain ⟨g, hg⟩ : ∃ g, w.heap.size = g := ⟨_, rfl⟩
  have HB := Lib.hid (show Below w.heap.size w w1 by rw [← hw1]; exact ((Below.refl w.heap.size w).alloc (Nat.le_refl _) _).alloc (by simp) _)
  have HD := Lib.hid (show DT w1 g cs N A c L own from ⟨by rw [← hw1, ← hg]; exact (Blk.new w _ _).alloc _, hv⟩)
  have HZ := Lib.hid (show Blk w1 (g + 1) 36 #[.int .i64 0, .slice none 0 0, .int .u16 0, .int .u16 0, .int .u16 0, .int .u16 0, .int .u16 0, .int .u16 0, .int .u16 0, .int .u16 0] by rw [← hw1, ← hg]; have := Blk.new (w.alloc (.cells cs 36)) 36 #[.int .i64 0, .slice none 0 0, .int .u16 0, .int .u16 0, .int .u16 0, .int .u16 0, .int .u16 0, .int .u16 0, .int .u16 0, .int .u16 0]; simpa using this)
  have HE := Lib.hid (hE.next HB.out)
  have HG := Lib.hid hg
  have HA : Hid (∀ b off, A = some ⟨b, off, none⟩ → 0 < L.length → b < g) := Lib.hid (fun b off e h0 => by rw [← hg]; exact els_lt hE e h0)
  clear hv hE
  have c0 := HD.out.c0
  have hp8 : (p.toNat : Int) < 8 := by omega
  have hp8' : p.toNat < 8 := by omega
  have hpn : ¬ ((N : Int) ≤ (p.toNat : Int)) := by omega
  have hqn : ¬ ((4094 : Int) < (v.toNat : Int)) := by omega
  obtain ⟨x, hx⟩ : ∃ x, own[p.toNat]? = some x := ⟨_, List.getElem?_eq_getElem (by have := HD.out.v.own8; omega)⟩
  have hco := HD.out.co hx
  have hfz : w1.frozen? ⟨g, 2 + p.toNat, none⟩ = false := HD.out.blk.frozen _
  obtain ⟨w5, hw5⟩ : ∃ w5, w1.setCell ⟨g, 2 + p.toNat, none⟩ (.int .u16 v.toNat) = w5 := ⟨_, rfl⟩
  have HD5 := Lib.hid (show DT w5 g (cs.setIfInBounds (2 + p.toNat) (.int .u16 v.toNat)) N A c L (own.set p.toNat v) from ⟨by rw [← hw5]; exact HD.out.blk.put _ _, HD.out.v.setOwn hp8' v⟩)
  have HZ5 := Lib.hid (show Blk w5 (g + 1) 36 #[.int .i64 0, .slice none 0 0, .int .u16 0, .int .u16 0, .int .u16 0, .int .u16 0, .int .u16 0, .int .u16 0, .int .u16 0, .int .u16 0] by rw [← hw5]; exact (HZ.out.far (p := ⟨g, 2 + p.toNat, none⟩) (by simp) _))
  have HB5 := Lib.hid (show Below w.heap.size w w5 by rw [← hw5]; exact HB.out.setCell (p := ⟨g, 2 + p.toNat, none⟩) (by rw [HG.out]; exact Nat.le_refl _) _)
  have HE5 := Lib.hid (show Els 3 encN w5 A L by
    rw [← hw5]
    intro h0
    obtain ⟨b, off, e, hlt, hc⟩ := HE.out h0
    refine ⟨b, off, e, by simpa [World.setCell] using hlt, fun i hi j u hu => ?_⟩
    rw [World.cell?_of_block (w := w1) (a := ⟨b, off + i * 3 + j, none⟩) (Below.heap_setCell w1 ⟨g, 2 + p.toNat, none⟩ _ b (by have := HA.out b off e h0; show b ≠ g; omega))]
    exact hc i hi j u hu)
  clear hp hq hx hN h8 HE HZ HB
  go_enter Try.func21, Try.ntmps21
  go_upto_region 1 with fail
  clear hw1 hg
  go_upto_region 4 with fail
  clear hw5 hfz hco c0 HD
  go_wp2_with (first | refine wpList_load_dt 3 rfl (by kernel_rfl) g rfl _ HD5.out.blk HD5.out.v.sz ?_ | refine wpList_store_row rfl 36 (.tmp 6) _ rfl (g + 1) rfl ((cs.setIfInBounds (2 + p.toNat) (.int .u16 v.toNat))) rfl 36 _ HZ5.out (by rw [HD5.out.v.sz]; exact info_rt) (by first | rw [HD5.out.v.sz]; rfl | (rw [HD5.out.v.sz]; exact rfl)) HD5.out.v.one ?_)
  have HR := Lib.hid (HZ5.out.row ((cs.setIfInBounds (2 + p.toNat) (.int .u16 v.toNat))))
  refine bodyPost_ret (v := .tuple #[.agg ((cs.setIfInBounds (2 + p.toNat) (.int .u16 v.toNat))), .int .i64 0]) (results_cell_slot Try.results21 _ _ (g + 1) 36 _ _ rfl HR.out Try.underlying36 rfl (by rw [HD5.out.v.sz]; exact info_rt) _ rfl) rfl ⟨_, _, _, rfl, HD5.out.v, els_row HE5.out HZ5.out (fun b off e h0 => by have := HA.out b off e h0; show b ≠ g + 1; omega) _, ?_, below_row HB5.out (by rw [HG.out]; omega) _⟩
  exact fun b off e => .inl ⟨rfl, rfl⟩
end Go.Proofs.Yteiopobkbfancaa
