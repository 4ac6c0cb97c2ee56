/- Package vlan: In, SetOwn, Drop. -/
import Derived.Test.YteiopobkbfancaaVw2
import Derived.Deep.RegionHeld3
namespace Go.Proofs.Yteiopobkbfancaa
open Go.RowKit
set_option linter.unusedVariables false
set_option linter.unusedSimpArgs false
set_option maxRecDepth 100000

theorem told_nil {w : World} (p : UInt8) (f : Fr) :
    Calls Try.prog 27 #[.pointer none, .int .u8 p.toNat, FV f] w fun e w' => ∃ v : UInt16, e = .returned (.int .u16 v.toNat) ∧ Below w.heap.size w w' := by
  obtain ⟨w1, hw1⟩ : ∃ w1, w.alloc (.cells #[.int .u8 f.d0.toNat, .int .u8 f.d1.toNat, .int .u8 f.d2.toNat, .int .u8 f.d3.toNat, .int .u8 f.d4.toNat, .int .u8 f.d5.toNat, .int .u8 f.s0.toNat, .int .u8 f.s1.toNat, .int .u8 f.s2.toNat, .int .u8 f.s3.toNat, .int .u8 f.s4.toNat, .int .u8 f.s5.toNat, .bool f.tag, .int .u8 f.pri.toNat, .int .u16 f.vid.toNat, .int .u16 f.ty.toNat, .string ⟨f.data.toArray⟩] 27) = w1 := ⟨_, rfl⟩
  have hF : FrA w1 w.heap.size f := by rw [← hw1]; exact FrA.new w f
  have hB : Below w.heap.size w w1 := by rw [← hw1]; exact (Below.refl w.heap.size w).alloc (Nat.le_refl _) _
  have HF := Lib.hid hF
  have HB := Lib.hid hB
  have c2 := hF.cells.c12
  have c4 := hF.cells.c14
  clear hF hB
  by_cases hg : f.tag = true ∧ f.vid.toNat ≠ 0
  · obtain ⟨h1, h2⟩ := hg
    rw [h1] at c2
    obtain ⟨v, hv⟩ : ∃ v, f.vid.toNat = v := ⟨_, rfl⟩
    have HQ := Lib.hid hv
    rw [hv] at c4 h2
    clear h1 hv
    go_enter Try.func27, Try.ntmps27
    go_wp2
    go_ret
    exact ⟨f.vid, ret_ (by rw [HQ.out]; rfl), HB.out⟩
  · have hg' : f.tag = false ∨ (f.tag = true ∧ f.vid.toNat = 0) := by
      cases hq : f.tag
      · exact .inl rfl
      · exact .inr ⟨rfl, by have : ¬ (f.vid.toNat ≠ 0) := fun e => hg ⟨hq, e⟩; omega⟩
    clear hg
    rcases hg' with h1 | ⟨h1, h2⟩
    · rw [h1] at c2
      clear h1
      go_enter Try.func27, Try.ntmps27
      go_upto_region 3 with fail
      go_quiet (fail)
      go_wp2
      go_ret
      exact ⟨0, rfl, ⟨HB.out.os, HB.out.tape, HB.out.output, HB.out.size, HB.out.block⟩⟩
    · rw [h1] at c2
      rw [h2] at c4
      clear h1 h2
      go_enter Try.func27, Try.ntmps27
      go_upto_region 3 with fail
      go_quiet (fail)
      go_wp2
      go_ret
      exact ⟨0, rfl, ⟨HB.out.os, HB.out.tape, HB.out.output, HB.out.size, HB.out.block⟩⟩
set_option maxHeartbeats 2000000 in
theorem in_impl {w : World} {t N : Nat} {mb : Option Nat} {L : List Vn} {own : List UInt16} (h : Tbl w t mb N L own) (p : UInt8) (f : Fr) :
    Calls Try.prog 13 #[.pointer (some ⟨t, 0, none⟩), .int .u8 p.toNat, FV f] w fun e w' => e = .returned (.tuple #[.int .u16 (vinV N L own p f).toNat, .bool (vinB N L own p f)]) ∧ Below w.heap.size w w' := by
  obtain ⟨w1, hw1⟩ : ∃ w1, w.alloc (.cells #[.int .u8 f.d0.toNat, .int .u8 f.d1.toNat, .int .u8 f.d2.toNat, .int .u8 f.d3.toNat, .int .u8 f.d4.toNat, .int .u8 f.d5.toNat, .int .u8 f.s0.toNat, .int .u8 f.s1.toNat, .int .u8 f.s2.toNat, .int .u8 f.s3.toNat, .int .u8 f.s4.toNat, .int .u8 f.s5.toNat, .bool f.tag, .int .u8 f.pri.toNat, .int .u16 f.vid.toNat, .int .u16 f.ty.toNat, .string ⟨f.data.toArray⟩] 27) = w1 := ⟨_, rfl⟩
  have hF : FrA w1 w.heap.size f := by rw [← hw1]; exact FrA.new w f
  have hB : Below w.heap.size w w1 := by rw [← hw1]; exact (Below.refl w.heap.size w).alloc (Nat.le_refl _) _
  have HF := Lib.hid hF
  have HB := Lib.hid hB
  have HT1 := Lib.hid (h.next hB)
  clear h
  clear hF hB
  go_enter Try.func13, Try.ntmps13
  go_wp2_with (refine wpList_load_frame 5 rfl (by kernel_rfl) w.heap.size f rfl HF.out ?_)
  refine (told_any HT1.out p f).mono ?_
  obtain ⟨v, hv⟩ : ∃ v, vtold N own p f = v := ⟨_, rfl⟩
  have HV : Hid (vinV N L own p f = (if has8 (vm L v) p then v else 0) ∧ vinB N L own p f = has8 (vm L v) p) := Lib.hid (by unfold vinV vinB; rw [hv]; exact ⟨rfl, rfl⟩)
  rw [hv]
  clear hv
  rintro e w2 ⟨rfl, hb2⟩
  have HT2 := Lib.hid (HT1.out.next hb2)
  have HB2 : Hid (Below w.heap.size w w2) := Lib.hid (HB.out.trans (hb2.mono HB.out.size))
  clear hb2 HF HB hw1
  go_wp2_with fail
  refine (in_ex p).mono ?_
  rintro e w3 ⟨g, rfl, hg, hb3⟩
  have HT3 := Lib.hid (HT2.out.next hb3)
  have HB3 : Hid (Below w.heap.size w w3) := Lib.hid (HB2.out.trans (hb3.mono HB2.out.size))
  clear hb3
  go_wp2_with fail
  refine (members_any HT3.out v).mono ?_
  rintro e w4 ⟨rfl, hb4⟩
  have hg4 : w4.cell? ⟨g, 0, none⟩ = some (.int .u8 p.toNat) := (hb4.cell (p := ⟨g, 0, none⟩) (World.block_lt_of_cell? w3 _ hg)).trans hg
  have HB4 : Hid (Below w.heap.size w w4) := Lib.hid (HB3.out.trans (hb4.mono HB3.out.size))
  clear hb4 hg
  go_wp2_with fail
  refine (in1_any (vm L v) p hg4).mono ?_
  cases hq : has8 (vm L v) p
  · rw [hq] at HV
    clear hq
    rintro e w5 ⟨rfl, rfl⟩
    go_wp2
    rw [HV.out.1, HV.out.2]
    exact bodyPost_ret (v := .tuple #[.int .u16 0, .bool false]) (by simp [results, Try.results13, go_sem]) rfl ⟨rfl, HB4.out⟩
  · rw [hq] at HV
    clear hq
    rintro e w5 ⟨rfl, rfl⟩
    go_wp2
    rw [HV.out.1, HV.out.2]
    exact bodyPost_ret (v := .tuple #[.int .u16 v.toNat, .bool true]) (by simp [results, Try.results13, go_sem]) rfl ⟨rfl, HB4.out⟩
set_option maxHeartbeats 2000000 in
theorem in_nil {w : World} (p : UInt8) (f : Fr) :
    Calls Try.prog 13 #[.pointer none, .int .u8 p.toNat, FV f] w fun e w' => e = .returned (.tuple #[.int .u16 0, .bool false]) ∧ Below w.heap.size w w' := by
  obtain ⟨w1, hw1⟩ : ∃ w1, w.alloc (.cells #[.int .u8 f.d0.toNat, .int .u8 f.d1.toNat, .int .u8 f.d2.toNat, .int .u8 f.d3.toNat, .int .u8 f.d4.toNat, .int .u8 f.d5.toNat, .int .u8 f.s0.toNat, .int .u8 f.s1.toNat, .int .u8 f.s2.toNat, .int .u8 f.s3.toNat, .int .u8 f.s4.toNat, .int .u8 f.s5.toNat, .bool f.tag, .int .u8 f.pri.toNat, .int .u16 f.vid.toNat, .int .u16 f.ty.toNat, .string ⟨f.data.toArray⟩] 27) = w1 := ⟨_, rfl⟩
  have hF : FrA w1 w.heap.size f := by rw [← hw1]; exact FrA.new w f
  have hB : Below w.heap.size w w1 := by rw [← hw1]; exact (Below.refl w.heap.size w).alloc (Nat.le_refl _) _
  have HF := Lib.hid hF
  have HB := Lib.hid hB
  clear hF hB
  go_enter Try.func13, Try.ntmps13
  go_wp2_with (refine wpList_load_frame 5 rfl (by kernel_rfl) w.heap.size f rfl HF.out ?_)
  refine (told_nil p f).mono ?_
  rintro e w2 ⟨v, rfl, hb2⟩
  have HB2 : Hid (Below w.heap.size w w2) := Lib.hid (HB.out.trans (hb2.mono HB.out.size))
  clear hb2 HF HB hw1
  go_wp2_with fail
  refine (in_ex p).mono ?_
  rintro e w3 ⟨g, rfl, hg, hb3⟩
  have HB3 : Hid (Below w.heap.size w w3) := Lib.hid (HB2.out.trans (hb3.mono HB2.out.size))
  clear hb3
  go_wp2_with fail
  refine (members_nil v).mono ?_
  rintro e w4 ⟨rfl, hb4⟩
  have hg4 : w4.cell? ⟨g, 0, none⟩ = some (.int .u8 p.toNat) := (hb4.cell (p := ⟨g, 0, none⟩) (World.block_lt_of_cell? w3 _ hg)).trans hg
  have HB4 : Hid (Below w.heap.size w w4) := Lib.hid (HB3.out.trans (hb4.mono HB3.out.size))
  clear hb4 hg
  go_wp2_with fail
  refine (in1_any 0 p hg4).mono ?_
  rw [show has8 0 p = false by simp [has8]]
  rintro e w5 ⟨rfl, rfl⟩
  go_wp2
  exact bodyPost_ret (v := .tuple #[.int .u16 0, .bool false]) (by simp [results, Try.results13, go_sem]) rfl ⟨rfl, HB4.out⟩

theorem in1_maskB {w : World} {N : Nat} (h : N ≤ 8) (p : UInt8) {b : Bool} (hb : Hid (decide (p.toNat < N) = b)) {g : Nat} (hc : w.cell? ⟨g, 0, none⟩ = some (.int .u8 p.toNat)) :
    Calls Try.prog 39 #[.int .u8 (mask N : Nat), .pointer (some ⟨g, 0, none⟩)] w fun e w' => e = .returned (.bool b) ∧ w = w' := by
  have := in1_mask h p hc
  rwa [hb.out] at this
/-- SetOwn's error -/
def sownE (N : Nat) (p : UInt8) (v : UInt16) : Int := if p.toNat < N ∧ v.toNat ≤ 4094 then 0 else 2
set_option maxHeartbeats 1000000 in
theorem setOwn_nil {w : World} (p : UInt8) (v : UInt16) :
    Calls Try.prog 19 #[.pointer none, .int .u8 p.toNat, .int .u16 v.toNat] w fun e w' => e = .returned (.int .i64 1) ∧ w = w' := by
  go_enter Try.func19, Try.ntmps19
  go_wp2
  go_ret
  exact ⟨rfl, rfl⟩
set_option maxHeartbeats 2000000 in
theorem setOwn_ok {w : World} {t N : Nat} {mb : Option Nat} {L : List Vn} {own : List UInt16} (h : Tbl w t mb N L own) (p : UInt8) (v : UInt16) (hp : p.toNat < N) (hv : v.toNat ≤ 4094) :
    Calls Try.prog 19 #[.pointer (some ⟨t, 0, none⟩), .int .u8 p.toNat, .int .u16 v.toNat] w fun e w' => e = .returned (.int .i64 0) ∧ Tbl w' t mb N L (own.set p.toNat v) ∧ Chg (tset t mb) w w' := by
  have c0 := h.c0
  have c0d : w.drew.cell? ⟨t, 0, none⟩ = some (.int .u8 (mask N : Nat)) := c0
  have HN := Lib.hid h.n8
  have HBd : Hid (Below w.heap.size w w.drew) := Lib.hid (Below.refl _ _).drew
  have HT := Lib.hid h
  clear h
  have hp8 : (p.toNat : Int) < 8 := by have := HN.out; omega
  have hpn : p.toNat < 8 := by omega
  have hd : Hid (decide (p.toNat < N) = true) := Lib.hid (by simpa using hp)
  go_enter Try.func19, Try.ntmps19
  go_upto_region 3 with fail
  go_region_held3 (fun w_ => w_.cell? ⟨t, 0, none⟩ = some (.int .u8 (mask N : Nat)) ∧ Hid (Below w.heap.size w w_)) (go_keep)
    (first
    | (go_at_call 28; with_reducible refine (in_ex p).mono ?_; rintro r w_ ⟨g_, rfl, hg_, hb_⟩; obtain ⟨k0, k1⟩ := keepT t (.int .u8 (mask N : Nat)) (by assumption) (by assumption) hb_; clear hb_)
    | (go_at_call 39; with_reducible refine (in1_maskB HN.out p hd (by assumption)).mono ?_; rintro r w_ ⟨rfl, rfl⟩))
  clear c0 c0d
  have HB' : Hid (Below w.heap.size w w_) := by assumption
  have HTw := Lib.hid (HT.out.next HB'.out)
  have hfz := HTw.out.fz (2 + p.toNat)
  obtain ⟨x, hx⟩ : ∃ x, own[p.toNat]? = some x := ⟨_, List.getElem?_eq_getElem (by have := HT.out.own8; omega)⟩
  have hco := HTw.out.co hx
  clear hx
  go_wp2
  go_ret
  refine ⟨rfl, (HTw.out.setOwn hpn v).1, (Chg.of_below HB'.out).trans ?_⟩
  exact (HTw.out.setOwn hpn v).2
set_option maxHeartbeats 2000000 in
theorem setOwn_no {w : World} {t N : Nat} {mb : Option Nat} {L : List Vn} {own : List UInt16} (h : Tbl w t mb N L own) (p : UInt8) (v : UInt16) (hpv : ¬ (p.toNat < N ∧ v.toNat ≤ 4094)) :
    Calls Try.prog 19 #[.pointer (some ⟨t, 0, none⟩), .int .u8 p.toNat, .int .u16 v.toNat] w fun e w' => e = .returned (.int .i64 2) ∧ Below w.heap.size w w' := by
  have c0 := h.c0
  have c0d : w.drew.cell? ⟨t, 0, none⟩ = some (.int .u8 (mask N : Nat)) := c0
  have HN := Lib.hid h.n8
  have HBd : Hid (Below w.heap.size w w.drew) := Lib.hid (Below.refl _ _).drew
  have HT := Lib.hid h
  clear h
  by_cases hp : p.toNat < N
  · have hv : 4094 < v.toNat := by have : ¬ v.toNat ≤ 4094 := fun e => hpv ⟨hp, e⟩; omega
    clear hpv
    have hd : Hid (decide (p.toNat < N) = true) := Lib.hid (by simpa using hp)
    go_enter Try.func19, Try.ntmps19
    go_upto_region 3 with fail
    go_region_held3 (fun w_ => w_.cell? ⟨t, 0, none⟩ = some (.int .u8 (mask N : Nat)) ∧ Hid (Below w.heap.size w w_)) (go_keep)
      (first
      | (go_at_call 28; with_reducible refine (in_ex p).mono ?_; rintro r w_ ⟨g_, rfl, hg_, hb_⟩; obtain ⟨k0, k1⟩ := keepT t (.int .u8 (mask N : Nat)) (by assumption) (by assumption) hb_; clear hb_)
      | (go_at_call 39; with_reducible refine (in1_maskB HN.out p hd (by assumption)).mono ?_; rintro r w_ ⟨rfl, rfl⟩))
    go_wp2
    go_ret
    exact ⟨rfl, Hid.out (by assumption)⟩
  · have hd : Hid (decide (p.toNat < N) = false) := Lib.hid (by simpa using hp)
    have hlt : t < w.heap.size := HT.out.lt t (.inl rfl)
    have c0a : ∀ o, (w.drew.alloc o).cell? ⟨t, 0, none⟩ = some (.int .u8 (mask N : Nat)) := fun o => (World.cell?_of_block (w := w) (Below.heap_alloc w.drew o t hlt)).trans c0
    have hcc := cell0_new p
    clear hp hpv
    go_enter Try.func19, Try.ntmps19
    go_upto_region 3 with fail
    first
    | go_region_with (first | (go_at_call 28; refine (in_any p).mono ?_; rintro e w2 ⟨rfl, rfl⟩) | (go_at_call 39; refine (in1_maskB HN.out p hd (w := (w.alloc (.cells #[.int .u8 p.toNat] 5)).drew) (hcc w)).mono ?_; rintro e w2 ⟨rfl, rfl⟩))
    | fail "no"
    all_goals (
      go_wp2
      go_ret
      exact ⟨rfl, (Below.refl _ _).drew.alloc (Nat.le_refl _) _⟩)

/-- Drop's error -/
def dropE (L : List Vn) (v : UInt16) : Int := if okV v then (if vhas L v then 0 else 7) else 2
set_option maxHeartbeats 1000000 in
theorem drop_nil {w : World} (v : UInt16) :
    Calls Try.prog 18 #[.pointer none, .int .u16 v.toNat] w fun e w' => e = .returned (.int .i64 1) ∧ w = w' := by
  go_enter Try.func18, Try.ntmps18
  go_wp2
  go_ret
  exact ⟨rfl, rfl⟩
set_option maxHeartbeats 1000000 in
theorem drop_bad {w : World} {t : Nat} (v : UInt16) (hv : okV v = false) :
    Calls Try.prog 18 #[.pointer (some ⟨t, 0, none⟩), .int .u16 v.toNat] w fun e w' => e = .returned (.int .i64 2) ∧ w = w' := by
  go_enter Try.func18, Try.ntmps18
  go_wp2_with fail
  refine (canBe_any v).mono ?_
  rw [hv]
  rintro e w2 ⟨rfl, rfl⟩
  go_wp2
  go_ret
  exact ⟨rfl, rfl⟩
set_option maxHeartbeats 1000000 in
theorem drop_none {w : World} {t N : Nat} {mb : Option Nat} {L : List Vn} {own : List UInt16} (h : Tbl w t mb N L own) (v : UInt16) (hv : okV v = true) (hh : vhas L v = false) :
    Calls Try.prog 18 #[.pointer (some ⟨t, 0, none⟩), .int .u16 v.toNat] w fun e w' => e = .returned (.int .i64 7) ∧ Below w.heap.size w w' := by
  have HT := Lib.hid h
  clear h
  go_enter Try.func18, Try.ntmps18
  go_wp2_with fail
  refine (canBe_any v).mono ?_
  rw [hv]
  rintro e w2 ⟨rfl, rfl⟩
  go_wp2_with fail
  refine (has_any HT.out v).mono ?_
  rw [hh]
  rintro e w3 ⟨rfl, hb⟩
  clear hv hh
  go_wp2
  go_ret
  exact ⟨rfl, hb⟩
set_option maxHeartbeats 1000000 in
theorem drop_ok {w : World} {t N : Nat} {mb : Option Nat} {L : List Vn} {own : List UInt16} (h : Tbl w t mb N L own) (v : UInt16) (hv : okV v = true) (hh : vhas L v = true) :
    Calls Try.prog 18 #[.pointer (some ⟨t, 0, none⟩), .int .u16 v.toNat] w fun e w' => e = .returned (.int .i64 0) ∧ Tbl w' t mb N (vdel L v) own ∧ Chg (tset t mb) w w' := by
  obtain ⟨b, rfl⟩ : ∃ b, mb = some b := by
    cases mb with
    | none => obtain rfl : L = [] := h.vof; simp [vhas] at hh
    | some b => exact ⟨b, rfl⟩
  have HT := Lib.hid h
  clear h
  go_enter Try.func18, Try.ntmps18
  go_wp2_with fail
  refine (canBe_any v).mono ?_
  rw [hv]
  rintro e w2 ⟨rfl, rfl⟩
  go_wp2_with fail
  refine (has_any HT.out v).mono ?_
  rw [hh]
  rintro e w3 ⟨rfl, hb⟩
  have HT3 := Lib.hid (HT.out.next hb)
  have HB := Lib.hid hb
  clear hv hh hb
  have c1 := HT3.out.c1
  go_wp2_with (at_delete; refine wpList_delete_own _ rfl _ _ 55 23 rfl 69 key_law map_und setsR b L.length (encL L) rfl HT3.out.vof _ (kL v) rfl (key_at v) ?_; intro w4 hown4 hturn4)
  go_ret
  have hm : Vmap w4 b (vdel L v) := by rw [del_enc] at hown4; exact Vmap.of hown4
  have ht := HT3.out.turn hm hturn4 (Nat.le_trans (vdel_le _ _) HT3.out.l8) (vdel_ris _ HT3.out.ris)
  exact ⟨rfl, ht.1, (Chg.of_below HB.out).trans ht.2⟩
end Go.Proofs.Yteiopobkbfancaa
