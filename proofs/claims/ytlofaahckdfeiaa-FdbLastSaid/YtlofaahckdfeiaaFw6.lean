/- Package fdb: Look, Tick, Flush. -/
import Derived.Test.YtlofaahckdfeiaaFw5
import Derived.Shelf.SlSortCmp.QuietGrown
import Derived.BigQuiet
namespace Go.Proofs.Ytlofaahckdfeiaa
open Go.RowKit
open Go.Sort
set_option linter.unusedVariables false
set_option linter.unusedSimpArgs false
set_option maxRecDepth 100000

/-- the set of one port -/
def pow8 (p : UInt8) : UInt8 := UInt8.ofNat (2 ^ p.toNat)
theorem pow8_nat {p : UInt8} (h : p.toNat < 8) : (pow8 p).toNat = 2 ^ p.toNat := by
  unfold pow8
  rw [UInt8.toNat_ofNat']
  exact Nat.mod_eq_of_lt (Nat.lt_of_lt_of_le (Nat.pow_lt_pow_right (by decide) h) (by decide))
/-- the learnt entry of a place -/
def lget (L : List En) (k : Pl) : Option En := L.find? fun e => decide (k = e.k)
def lookP (L : List En) (S : List (Pl × UInt8)) (k : Pl) : UInt8 := match sget S k with | some x => x | none => match lget L k with | some e => pow8 e.p | none => 0
def lookB (L : List En) (S : List (Pl × UInt8)) (k : Pl) : Bool := shas S k || (lget L k).isSome
theorem idx_get (L : List En) (k : Pl) : (∃ i, ∃ h : i < L.length, idxV (fun e => decide (k = e.k)) L = (i : Int) ∧ lget L k = some L[i]) ∨ (idxV (fun e => decide (k = e.k)) L = -1 ∧ lget L k = none) := by
  cases hf : L.findIdx? (fun e => decide (k = e.k)) with
  | none =>
    right
    refine ⟨by unfold idxV; rw [hf], ?_⟩
    unfold lget
    rw [List.find?_eq_none]
    rw [List.findIdx?_eq_none_iff] at hf
    intro x hx
    simpa using hf x hx
  | some i =>
    left
    obtain ⟨hi, h1, h2⟩ := idx_some hf
    refine ⟨i, hi, by unfold idxV; rw [hf], ?_⟩
    unfold lget
    rw [List.find?_eq_some_iff_getElem]
    exact ⟨h1, i, hi, rfl, fun j hj => by simpa using h2 j hj⟩
set_option maxHeartbeats 1000000 in
theorem look_nil (w : World) (v : UInt16) (m : Mc) : Calls Try.prog 18 #[.pointer none, .int .u16 v.toNat, mV m] w fun e w' => e = .returned (.tuple #[.int .u8 0, .bool false]) ∧ Gro w w' := by
  go_enter Try.func18, Try.ntmps18
  go_wp2
  exact bodyPost_ret (v := .tuple #[.int .u8 0, .bool false]) (by simp [results, Try.results18, go_sem]) rfl ⟨rfl, (Gro.refl w).alloc _⟩
theorem cell_gr6 {w : World} {a : Addr} {v : Value} (h : w.cell? a = some v) (n : Nat) (os : Array Obj) : (grow (w.drewN n) os).cell? a = some v := cell_grown (World.block_lt_of_cell? w _ h) h n os
set_option maxHeartbeats 2000000 in
theorem look_any {w : World} {t c : Nat} {A : Option Addr} {mb : Option Nat} {L : List En} {S : List (Pl × UInt8)} (h : Tab w t A c mb L S) (v : UInt16) (m : Mc) :
    Calls Try.prog 18 #[.pointer (some ⟨t, 0, none⟩), .int .u16 v.toNat, mV m] w fun e w' => e = .returned (.tuple #[.int .u8 (lookP L S (Pl.mk v m)).toNat, .bool (lookB L S (Pl.mk v m))]) ∧ Gro w w' := by
  obtain ⟨w1, hw1⟩ : ∃ w1, (w.alloc (.cells #[.int .u8 m.a.toNat, .int .u8 m.b.toNat, .int .u8 m.c.toNat, .int .u8 m.d.toNat, .int .u8 m.e.toNat, .int .u8 m.f.toNat] 25)).alloc (.cells #[.int .u16 v.toNat, .int .u8 m.a.toNat, .int .u8 m.b.toNat, .int .u8 m.c.toNat, .int .u8 m.d.toNat, .int .u8 m.e.toNat, .int .u8 m.f.toNat] 71) = w1 := ⟨_, rfl⟩
  obtain ⟨g, hg⟩ : ∃ g, w.heap.size = g := ⟨_, rfl⟩
  have hG : Gro w w1 := by rw [← hw1]; exact ((Gro.refl w).alloc _).alloc _
  have hM : Blk w1 g 25 #[.int .u8 m.a.toNat, .int .u8 m.b.toNat, .int .u8 m.c.toNat, .int .u8 m.d.toNat, .int .u8 m.e.toNat, .int .u8 m.f.toNat] := by rw [← hw1, ← hg]; exact (Blk.new w _ _).alloc _
  have hP : Blk w1 (g + 1) 71 #[.int .u16 v.toNat, .int .u8 m.a.toNat, .int .u8 m.b.toNat, .int .u8 m.c.toNat, .int .u8 m.d.toNat, .int .u8 m.e.toNat, .int .u8 m.f.toNat] := by
    rw [← hw1, ← hg]
    have := Blk.new (w.alloc (.cells #[.int .u8 m.a.toNat, .int .u8 m.b.toNat, .int .u8 m.c.toNat, .int .u8 m.d.toNat, .int .u8 m.e.toNat, .int .u8 m.f.toNat] 25)) 71 #[.int .u16 v.toNat, .int .u8 m.a.toNat, .int .u8 m.b.toNat, .int .u8 m.c.toNat, .int .u8 m.d.toNat, .int .u8 m.e.toNat, .int .u8 m.f.toNat]
    simpa using this
  have HT1 := Lib.hid (h.gro hG)
  have HG1 := Lib.hid hG
  have HM1 := Lib.hid hM
  have HP1 := Lib.hid hP
  have HLT : Hid (∀ k, tset t A mb k → k < g) := Lib.hid (by rw [← hg]; exact h.lt)
  clear h hG
  obtain ⟨p0, p1, p2, p3, p4, p5, p6⟩ := plcells hP
  have HIS := fun W (hg : Gro w1 W) => isStatic_any (HT1.out.gro hg) (Pl.mk v m)
  clear hM hP
  cases hs : shas S (Pl.mk v m) with
  | true =>
    have HS := Lib.hid hs
    obtain ⟨x, hx⟩ : ∃ x, sget S (Pl.mk v m) = some x := by rw [shas_get] at hs; exact Option.isSome_iff_exists.1 hs
    have HV : Hid (lookP L S (Pl.mk v m) = x ∧ lookB L S (Pl.mk v m) = true) := Lib.hid ⟨by unfold lookP; rw [hx], by unfold lookB; rw [hs]; rfl⟩
    have HX := Lib.hid hx
    rw [HV.out.1, HV.out.2]
    clear hs hx
    go_enter Try.func18, Try.ntmps18
    go_wp2_with fail
    refine (HIS w1 (Gro.refl _)).mono ?_
    rw [HS.out]
    rintro e w2 ⟨rfl, hgr⟩
    have HT2 := Lib.hid (HT1.out.gro hgr)
    have HG2 := Lib.hid (HG1.out.trans hgr)
    have HP2 := Lib.hid (hgr.blk HP1.out)
    clear hgr p0 p1 p2 p3 p4 p5 p6 HIS HT1 HG1 HM1 HP1
    obtain ⟨p0, p1, p2, p3, p4, p5, p6⟩ := plcells HP2.out
    have c1 := HT2.out.c1
    have hl := fun n => (HT2.out.gro ((Gro.refl _).drewN n)).map.run (Pl.mk v m) false
    rw [HX.out] at hl
    go_wp2_with fail
    go_quiet (fail)
    go_wp2
    refine bodyPost_ret (v := .tuple #[.int .u8 x.toNat, .bool true]) ?_ rfl ?_
    · simp [results, Try.results18, go_sem]
    exact ⟨rfl, HG2.out.drewN _⟩
  | false =>
    have HS := Lib.hid hs
    have hsn := sget_none hs
    rcases idx_get L (Pl.mk v m) with ⟨i, hi, hv, hgt⟩ | ⟨hv, hgt⟩
    · have HV : Hid (lookP L S (Pl.mk v m) = pow8 L[i].p ∧ lookB L S (Pl.mk v m) = true) := Lib.hid ⟨by unfold lookP; rw [hsn, hgt], by unfold lookB; rw [hgt, hs]; rfl⟩
      have HIX := Lib.hid hv
      have hp8 := HT1.out.prt L[i] (List.getElem_mem hi)
      obtain ⟨p, hp⟩ : ∃ p, L[i].p = p := ⟨_, rfl⟩
      have HPe := Lib.hid hp
      rw [HV.out.1, HV.out.2, hp]
      rw [hp] at hp8
      obtain ⟨hi'⟩ : Nonempty (i < L.length) := ⟨hi⟩
      have h32 := HT1.out.l32
      have hpw := pow8_nat hp8
      obtain ⟨q, hq⟩ : ∃ q, pow8 p = q := ⟨_, rfl⟩
      rw [hq] at hpw
      rw [hq]
      have HPW := Lib.hid hpw
      have HP8 := Lib.hid hp8
      have H32 := Lib.hid h32
      clear hs hsn hgt hv hq hp hpw hp8 h32 HM1
      go_enter Try.func18, Try.ntmps18
      go_wp2_with fail
      refine (HIS w1 (Gro.refl _)).mono ?_
      rw [HS.out]
      rintro e w2 ⟨rfl, hgr⟩
      have HT2 := Lib.hid (HT1.out.gro hgr)
      have HG2 := Lib.hid (HG1.out.trans hgr)
      have HP2 := Lib.hid (hgr.blk HP1.out)
      clear hgr p0 p1 p2 p3 p4 p5 p6 HIS HT1 HG1 HP1
      obtain ⟨p0, p1, p2, p3, p4, p5, p6⟩ := plcells HP2.out
      have c0 := HT2.out.c0
      go_wp2_with fail
      have g0 := fun n os => cell_gr6 c0 n os
      have g1 := fun n os => cell_gr6 p0 n os
      have g2 := fun n os => cell_gr6 p1 n os
      have g3 := fun n os => cell_gr6 p2 n os
      have g4 := fun n os => cell_gr6 p3 n os
      have g5 := fun n os => cell_gr6 p4 n os
      have g6 := fun n os => cell_gr6 p5 n os
      have g7 := fun n os => cell_gr6 p6 n os
      have kI : ∀ n os, Calls Try.prog 35 #[.slice A L.length c, .func (.func 30) #[kV (Pl.mk v m)] #[]] (grow (w2.drewN n) os) fun e w' => e = .returned (.int .i64 (i : Int)) ∧ ∃ q os', w' = grow ((grow (w2.drewN n) os).drewN q) os' := fun n os => (idx_any (grow (w2.drewN n) os) _ #[kV (Pl.mk v m)] #[] eg_isOf (fun e => decide ((Pl.mk v m) = e.k)) L A c (by have := H32.out; omega) ((HT2.out.gro (Gro.of_grow n os)).els) (fun W x _ => isOf_any W (Pl.mk v m) x)).mono (by rw [HIX.out]; exact fun _ _ hh => ⟨hh.1, hh.2.out⟩)
      have mixed : Try.prog.follows .mixedOrders = true := by kernel_rfl
      refine wp_region_quiet_grown mixed (by kernel_rfl) ?_
      repeat (first | go_big_quiet_step ((go_at_call 35; exact Calls.grown_of (kI _ _))) | quiet_step ((go_at_call 35; exact Calls.grown_of (kI _ _))))
      refine wpQuiet_nil ?_
      intro _ hw'
      obtain ⟨⟨nq, osq⟩, hw''⟩ := hw'
      subst hw''
      have hgr := Gro.of_grow (w := w2) nq osq
      clear kI g0 g1 g2 g3 g4 g5 g6 g7
      generalize grow (w2.drewN nq) osq = w3 at *
      have hT3 := HT2.out.gro hgr
      have HG3 := Lib.hid (HG2.out.trans hgr)
      have c0 := hT3.c0
      obtain ⟨b, off, rfl, hcell⟩ := hT3.els.at9 hi'
      have e7 := hcell 7 _ rfl
      rw [HPe.out] at e7
      have hlz : (i : Int) < (L.length : Int) := by omega
      have H32i : Hid (i < 32) := Lib.hid (by have := H32.out; omega)
      have hi32 : i < 32 := H32i.out
      clear hgr p0 p1 p2 p3 p4 p5 p6 hT3 hcell HT2 HP2 HG2
      go_wp2
      refine bodyPost_ret (v := .tuple #[.int .u8 q.toNat, .bool true]) ?_ rfl ?_
      · have e1 := HPW.out
        have e2 := HP8.out
        have hlt : (2 : Nat) ^ p.toNat < 256 := Nat.lt_of_lt_of_le (Nat.pow_lt_pow_right (by decide) e2) (by decide)
        simp [results, Try.results18, go_sem]
        rw [Nat.min_eq_left (by omega)]
        have e3 : (2 : Int) ^ p.toNat = ((2 ^ p.toNat : Nat) : Int) := by push_cast; rfl
        rw [e3]
        omega
      exact ⟨rfl, HG3.out⟩
    · have HV : Hid (lookP L S (Pl.mk v m) = 0 ∧ lookB L S (Pl.mk v m) = false) := Lib.hid ⟨by unfold lookP; rw [hsn, hgt], by unfold lookB; rw [hgt, hs]; rfl⟩
      have HIX := Lib.hid hv
      have H32 := Lib.hid HT1.out.l32
      rw [HV.out.1, HV.out.2]
      clear hs hsn hgt hv HM1
      go_enter Try.func18, Try.ntmps18
      go_wp2_with fail
      refine (HIS w1 (Gro.refl _)).mono ?_
      rw [HS.out]
      rintro e w2 ⟨rfl, hgr⟩
      have HT2 := Lib.hid (HT1.out.gro hgr)
      have HG2 := Lib.hid (HG1.out.trans hgr)
      have HP2 := Lib.hid (hgr.blk HP1.out)
      clear hgr p0 p1 p2 p3 p4 p5 p6 HIS HT1 HG1 HP1
      obtain ⟨p0, p1, p2, p3, p4, p5, p6⟩ := plcells HP2.out
      have c0 := HT2.out.c0
      go_wp2_with fail
      have g0 := fun n os => cell_gr6 c0 n os
      have g1 := fun n os => cell_gr6 p0 n os
      have g2 := fun n os => cell_gr6 p1 n os
      have g3 := fun n os => cell_gr6 p2 n os
      have g4 := fun n os => cell_gr6 p3 n os
      have g5 := fun n os => cell_gr6 p4 n os
      have g6 := fun n os => cell_gr6 p5 n os
      have g7 := fun n os => cell_gr6 p6 n os
      have kI : ∀ n os, Calls Try.prog 35 #[.slice A L.length c, .func (.func 30) #[kV (Pl.mk v m)] #[]] (grow (w2.drewN n) os) fun e w' => e = .returned (.int .i64 (-1)) ∧ ∃ q os', w' = grow ((grow (w2.drewN n) os).drewN q) os' := fun n os => (idx_any (grow (w2.drewN n) os) _ #[kV (Pl.mk v m)] #[] eg_isOf (fun e => decide ((Pl.mk v m) = e.k)) L A c (by have := H32.out; omega) ((HT2.out.gro (Gro.of_grow n os)).els) (fun W x _ => isOf_any W (Pl.mk v m) x)).mono (by rw [HIX.out]; exact fun _ _ hh => ⟨hh.1, hh.2.out⟩)
      have mixed : Try.prog.follows .mixedOrders = true := by kernel_rfl
      refine wp_region_quiet_grown mixed (by kernel_rfl) ?_
      repeat (first | go_big_quiet_step ((go_at_call 35; exact Calls.grown_of (kI _ _))) | quiet_step ((go_at_call 35; exact Calls.grown_of (kI _ _))))
      refine wpQuiet_nil ?_
      intro _ hw'
      obtain ⟨⟨nq, osq⟩, hw''⟩ := hw'
      subst hw''
      have hgr := Gro.of_grow (w := w2) nq osq
      clear kI g0 g1 g2 g3 g4 g5 g6 g7
      generalize grow (w2.drewN nq) osq = w3 at *
      have HG3 := Lib.hid (HG2.out.trans hgr)
      clear hgr p0 p1 p2 p3 p4 p5 p6 HT2 HP2 HG2 c0
      go_wp2
      refine bodyPost_ret (v := .tuple #[.int .u8 0, .bool false]) ?_ rfl ?_
      · simp [results, Try.results18, go_sem]
      exact ⟨rfl, HG3.out⟩
/-- a tick older -/
def older (e : En) : En := ⟨e.k, e.p, e.a + 1⟩
def tk (L : List En) (k : Nat) : List En := (L.take k).map older ++ L.drop k
theorem tk_len (L : List En) {k : Nat} (h : k ≤ L.length) : (tk L k).length = L.length := by simp [tk]; omega
theorem tk_zero (L : List En) : tk L 0 = L := by simp [tk]
theorem tk_all (L : List En) : tk L L.length = L.map older := by simp [tk]
theorem tk_get (L : List En) {k : Nat} (h : k < L.length) (h' : k < (tk L k).length) : (tk L k)[k] = L[k] := by
  have : (tk L k)[k]? = some L[k] := by
    unfold tk
    rw [List.getElem?_append_right (by simp; exact Nat.min_le_left _ _)]
    simp [Nat.min_eq_left (Nat.le_of_lt h), h, Nat.min_le_left]
  rw [List.getElem?_eq_getElem h'] at this
  exact Option.some.inj this
theorem tk_succ (L : List En) {k : Nat} (h : k < L.length) : tk L (k + 1) = (tk L k).set k (older L[k]) := by
  unfold tk
  rw [List.take_succ_eq_append_getElem h, List.map_append, List.drop_eq_getElem_cons h, List.set_append_right _ _ (by simp; omega)]
  simp [Nat.min_eq_left (Nat.le_of_lt h)]
  rw [List.drop_eq_getElem_cons h]
  rfl
def ltick (L : List En) : List En := (L.map older).filter fun e => !decide (e.a = 40)
theorem enV_split (e : En) : enV e = (enV e).take 8 ++ [.int .i64 (e.a : Nat)] := rfl
/-- an age laid anew -/
theorem Tab.bump {w : World} {t c : Nat} {A : Option Addr} {mb : Option Nat} {L : List En} {S : List (Pl × UInt8)} (h : Tab w t A c mb L S) {k : Nat} (hk : k < L.length) (ha : L[k].a < 40) :
    ∃ g, A = some ⟨g, 0, none⟩ ∧ w.cell? ⟨g, k * 9 + 8, none⟩ = some (.int .i64 (L[k].a : Nat)) ∧ w.frozen? ⟨g, k * 9 + 8, none⟩ = false ∧ Tab (w.setCell ⟨g, k * 9 + 8, none⟩ (.int .i64 ((L[k].a : Int) + 1))) t A c mb (L.set k (older L[k])) S ∧ Chg (tset t A mb) w (w.setCell ⟨g, k * 9 + 8, none⟩ (.int .i64 ((L[k].a : Int) + 1))) := by
  cases A with
  | none =>
    have := h.nil0.1
    rw [this] at hk
    simp at hk
  | some a =>
    obtain ⟨g, rfl⟩ := h.off0 a rfl
    obtain ⟨_, hcap, hmax, hbase, sp, hrow, hlen⟩ := RowE.of h.row
    have e1 : ((L.take k).flatMap enV).length = k * 9 := by rw [flat9, List.length_take]; congr 1; omega
    have e2 : L.flatMap enV ++ sp = ((L.take k).flatMap enV ++ (enV L[k]).take 8) ++ [.int .i64 (L[k].a : Nat)] ++ ((L.drop (k + 1)).flatMap enV ++ sp) := by
      rw [flat9_split L k, List.drop_eq_getElem_cons hk, List.flatMap_cons]
      simp [enV]
    have e3 : (L.set k (older L[k])).flatMap enV ++ sp = ((L.take k).flatMap enV ++ (enV L[k]).take 8) ++ [.int .i64 ((L[k].a : Int) + 1)] ++ ((L.drop (k + 1)).flatMap enV ++ sp) := by
      rw [List.set_eq_take_append_cons_drop, if_pos hk, List.flatMap_append, List.flatMap_cons]
      simp [older, enV]
    have hl8 : ((L.take k).flatMap enV ++ (enV L[k]).take 8).length = k * 9 + 8 := by rw [List.length_append, e1]; rfl
    have hb := hrow
    unfold RowE at hb
    rw [e2] at hb
    have hnew := blk_setCells [.int .i64 ((L[k].a : Int) + 1)] _ _ _ _ hb rfl
    rw [hl8] at hnew
    have hset : w.setCells g (k * 9 + 8) [.int .i64 ((L[k].a : Int) + 1)] = w.setCell ⟨g, k * 9 + 8, none⟩ (.int .i64 ((L[k].a : Int) + 1)) := rfl
    rw [hset] at hnew
    have hrow' : RowE (w.setCell ⟨g, k * 9 + 8, none⟩ (.int .i64 ((L[k].a : Int) + 1))) g (L.set k (older L[k])) sp := by unfold RowE; rw [e3]; exact hnew
    have hc : Chg (fun b => b = g) w (w.setCell ⟨g, k * 9 + 8, none⟩ (.int .i64 ((L[k].a : Int) + 1))) := (Chg.refl (fun b => b = g) w).setCell (p := ⟨g, k * 9 + 8, none⟩) (.inr rfl) _
    have hln : (L.set k (older L[k])).length = L.length := by simp
    refine ⟨g, rfl, hrow.cells hk rfl 8 _ rfl, hrow.frozen _, ⟨?_, ?_, ?_, by rw [hln]; exact h.l32, h.s16, h.nd, ?_, ?_⟩, ?_⟩
    · rw [hln]
      exact h.blk.chg hc (fun e => h.neRow (by rw [e]; rfl))
    · have := hrow'.own (base := 0) (cap := c) (by rw [e3, ← hlen, e2]; simp) hmax (Nat.zero_le _) (m := (L.set k (older L[k])).length) (Nat.le_refl _)
      rw [List.take_length] at this
      exact this
    · exact h.map.chg hc (fun b e => by subst e; rintro rfl; exact h.neMap.2 rfl)
    · intro e he
      rcases List.mem_or_eq_of_mem_set he with he | he
      · exact h.age e he
      · rw [he]; show L[k].a + 1 ≤ 40; omega
    · intro e he
      rcases List.mem_or_eq_of_mem_set he with he | he
      · exact h.prt e he
      · rw [he]; exact h.prt L[k] (List.getElem_mem hk)
    · exact hc.mono (fun k _ hk => .inr (.inl (by rw [hk]; rfl)))
set_option maxHeartbeats 1000000 in
theorem tick_nil (w : World) : Calls Try.prog 8 #[.pointer none] w fun e w' => e = .returned (.tuple #[]) ∧ Gro w w' := by
  go_enter Try.func8, Try.ntmps8
  go_wp2
  exact bodyPost_ret (v := .tuple #[]) (by simp [results, Try.results8, go_sem]) rfl ⟨rfl, Gro.refl w⟩
set_option maxHeartbeats 2000000 in
theorem tick_any {w : World} {t c : Nat} {A : Option Addr} {mb : Option Nat} {L : List En} {S : List (Pl × UInt8)} (h : Tab w t A c mb L S) (ho : ∀ e ∈ L, e.a < 40) :
    Calls Try.prog 8 #[.pointer (some ⟨t, 0, none⟩)] w fun e w' => e = .returned (.tuple #[]) ∧ ∃ A' c', Tab w' t A' c' mb (ltick L) S ∧ Chg (tset t A mb) w w' ∧ rb A' = rb A := by
  have HT := Lib.hid h
  have HO := Lib.hid ho
  have c0 := h.c0
  obtain ⟨n, hn⟩ : ∃ n, L.length = n := ⟨_, rfl⟩
  have HN := Lib.hid hn
  have h32 : n ≤ 32 := by rw [← hn]; exact h.l32
  rw [hn] at c0
  clear h hn ho
  go_enter Try.func8, Try.ntmps8
  go_wp2
  go_loopw [2, 10] (fun _ i wr => ∃ k : Nat, k ≤ n ∧ i = .int .i64 k ∧ Hid (Tab wr t A c mb (tk L k) S) ∧ Hid (Chg (tset t A mb) w wr)) (fun _ i _ => n - (intOf i).toNat)
  case atStart => exact ⟨0, Nat.zero_le _, rfl, Lib.hid (by rw [tk_zero]; exact HT.out), Lib.hid (Chg.refl _ _)⟩
  case round =>
    obtain ⟨k, hk, rfl, HK, HC⟩ := hrel
    by_cases hlt : k < n
    · have hltz : (k : Int) < (n : Int) := by omega
      have hkL : k < L.length := by rw [HN.out]; exact hlt
      have hkt : k < (tk L k).length := by rw [tk_len L (Nat.le_of_lt hkL)]; exact hkL
      have hget := tk_get L hkL hkt
      have hage : L[k].a < 40 := HO.out _ (List.getElem_mem hkL)
      obtain ⟨g, hA, hcell, hfz, hT, hCh⟩ := HK.out.bump hkt (by rw [hget]; exact hage)
      rw [hget] at hcell hT hCh
      rw [← tk_succ L hkL] at hT
      have c0 := HK.out.c0
      rw [tk_len L (Nat.le_of_lt hkL), HN.out] at c0
      subst hA
      obtain ⟨a, ha⟩ : ∃ a, L[k].a = a := ⟨_, rfl⟩
      rw [ha] at hcell hT hCh hage
      obtain ⟨w2, hw2⟩ : ∃ w2, wr.setCell ⟨g, k * 9 + 8, none⟩ (.int .i64 ((a : Int) + 1)) = w2 := ⟨_, rfl⟩
      rw [hw2] at hT hCh
      have HT2 := Lib.hid hT
      have HC2 := Lib.hid (HC.out.trans hCh)
      clear hT hCh hget HK HC ha hkL hkt
      go_wp2
      go_roundw
      case rel => exact ⟨k + 1, by omega, by go_num, HT2, HC2⟩
      case measure => simp [intOf]; omega
    · obtain rfl : k = n := by omega
      have hT := HK.out
      rw [← HN.out, tk_all] at hT
      have HTm := Lib.hid hT
      clear hT hk hlt HK c0
      go_wp2_with fail
      refine (forget_any HTm.out _ #[] #[] eg_tick1 (fun e => decide (e.a = 40)) (fun W x _ => tick1_any W x)).mono ?_
      rintro e w3 ⟨rfl, A', c', hT3, hC3, hrb⟩
      have HT3 := Lib.hid hT3
      have HC3 := Lib.hid (HC.out.trans hC3)
      have HR := Lib.hid hrb
      clear hT3 hC3 hrb
      go_wp2_with fail
      refine bodyPost_end (v := .tuple #[]) ?_ rfl ?_
      · simp [results, Try.results8, go_sem]
      exact ⟨rfl, A', c', HT3.out, HC3.out, HR.out⟩
def lflush (L : List En) (s : UInt8) : List En := L.filter fun e => !pbit s e.p
set_option maxHeartbeats 1000000 in
theorem flush_nil (w : World) (s : UInt8) : Calls Try.prog 10 #[.pointer none, .int .u8 s.toNat] w fun e w' => e = .returned (.int .i64 0) ∧ Gro w w' := by
  go_enter Try.func10, Try.ntmps10
  go_wp2
  go_ret
  exact ⟨rfl, (Gro.refl w).alloc _⟩
set_option maxHeartbeats 2000000 in
theorem flush_any {w : World} {t c : Nat} {A : Option Addr} {mb : Option Nat} {L : List En} {S : List (Pl × UInt8)} (h : Tab w t A c mb L S) (s : UInt8) :
    Calls Try.prog 10 #[.pointer (some ⟨t, 0, none⟩), .int .u8 s.toNat] w fun e w' => e = .returned (.int .i64 ((L.length : Int) - ((lflush L s).length : Int))) ∧ ∃ A' c', Tab w' t A' c' mb (lflush L s) S ∧ Chg (tset t A mb) w w' ∧ rb A' = rb A := by
  have hg := (Gro.refl w).alloc (.cells #[.int .u8 s.toNat] 5)
  have hcell := (Blk.new w 5 #[.int .u8 s.toNat]).cell 0
  have hF := forget_any (h.gro hg) _ #[] #[.pointer (some ⟨w.heap.size, 0, none⟩)] eg_flush1 (fun e => pbit s e.p) (fun W x hc => flush1_any W x s w.heap.size (by
    rw [hc.cell (p := ⟨w.heap.size, 0, none⟩) (by simp) (fun e => by have := h.lt _ e; exact absurd this (Nat.lt_irrefl _))]
    exact hcell))
  have HF := Lib.hid hF
  clear hF hcell
  go_enter Try.func10, Try.ntmps10
  go_wp2_with fail
  refine HF.out.mono ?_
  rintro e w3 ⟨rfl, A', c', hT3, hC3, hrb⟩
  have HT3 := Lib.hid hT3
  have HC3 : Hid (Chg (tset t A mb) w w3) := Lib.hid ((Chg.of_below hg.below).trans (hC3.mono fun k _ hk => hk) |> fun x => x)
  have HR := Lib.hid hrb
  clear hT3 hC3 hrb
  go_wp2_with fail
  go_ret
  exact ⟨rfl, A', c', HT3.out, HC3.out, HR.out⟩
end Go.Proofs.Ytlofaahckdfeiaa
