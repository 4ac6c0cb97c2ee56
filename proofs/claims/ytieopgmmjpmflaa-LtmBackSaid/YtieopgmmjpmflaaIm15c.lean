/- Layer 15: package ltm's Take keeps the words of Law15. -/
import Derived.Test.YtieopgmmjpmflaaIm15a
import Derived.Test.YtieopgmmjpmflaaNumW
import Derived.Maps.OwnSet
import Derived.BigQuiet
import Derived.Deep.QuietTactic
import Derived.Deep.RegionHeld3
import Derived.Deep.RegionLaw
import Derived.Deep.DeepCutAuto
import Derived.OwnWalk
import Derived.StillTailTactics
namespace Go.Proofs.Ytieopgmmjpmflaa
open Go.RowKit
set_option linter.unusedVariables false
set_option linter.unusedSimpArgs false
set_option maxRecDepth 100000

structure RtS (W : World) (b g : Nat) (PV : Array Value) (L : List UInt8) (er : Int) (cs : Array Value) (w : World) : Prop where
  pdu : Blk w W.heap.size 31 PV
  res : Blk w (W.heap.size + 1) 35 #[.int .u8 0, .int .u32 0, .int .u8 0, .int .u8 0, .int .u8 0, .int .u8 0, .int .u8 0, .int .u8 0, .int .u8 0, .int .u8 0, .int .u8 0, .int .u8 0, .int .u8 0, .int .u8 0, .int .u8 0]
  cur : Blk w g 35 cs
  rdr : Rdr w b L er
  below : Below W.heap.size W w
  lt1 : W.heap.size + 1 < b
  lt2 : b < g
section
variable {W w w' : World} {b g : Nat} {PV : Array Value} {L L' : List UInt8} {er er' : Int} {cs : Array Value}
theorem RtS.call (h : RtS W b g PV L er cs w) (hr : Rdr w' b L' er') (hc : Chg (only b) w w') : RtS W b g PV L' er' cs w' := by
  obtain ⟨h1, h2, h3, h4, h5, h6, h7⟩ := h
  exact ⟨h1.chg hc (by unfold only; omega), h2.chg hc (by unfold only; omega), h3.chg hc (by unfold only; omega), hr, h5.trans (Chg.below (hc.mono (S' := only b) (fun _ _ h => h)) h5.size (fun k hk hs => by unfold only at hs; omega)), h6, h7⟩
theorem RtS.put (h : RtS W b g PV L er cs w) (i : Nat) (v : Value) : RtS W b g PV L er (cs.setIfInBounds i v) (w.setCell ⟨g, i, none⟩ v) := by
  obtain ⟨h1, h2, h3, h4, h5, h6, h7⟩ := h
  exact ⟨h1.far (p := ⟨g, i, none⟩) (by show W.heap.size ≠ g; omega) v, h2.far (p := ⟨g, i, none⟩) (by show W.heap.size + 1 ≠ g; omega) v, h3.put i v, Blk.far h4 (p := ⟨g, i, none⟩) (by show b ≠ g; omega) v, h5.setCell (p := ⟨g, i, none⟩) (by show W.heap.size ≤ g; omega) v, h6, h7⟩
theorem RtS.drew (h : RtS W b g PV L er cs w) : RtS W b g PV L er cs w.drew := by
  obtain ⟨h1, h2, h3, h4, h5, h6, h7⟩ := h
  exact ⟨h1.drew, h2.drew, h3.drew, Blk.drew h4, h5.drew, h6, h7⟩
end
theorem rt_is (s L1 L2 L3 L4 : List UInt8) (E1 E2 E3 E4 : Int) (a1 : tkL 4 s 0 = L1) (b1 : tkE 4 s 0 = E1) (a2 : tkL 1 L1 E1 = L2) (b2 : tkE 1 L1 E1 = E2) (a3 : tkL 6 L2 E2 = L3) (b3 : tkE 6 L2 E2 = E3) (a4 : tkL 6 L3 E3 = L4) (b4 : tkE 6 L3 E3 = E4) :
    (s.length = 17 → tkV 4 s 0 = s.take 4 ∧ UInt8.ofNat (num (tkV 1 L1 E1)) = s.getD 4 0 ∧ ta6 L2 E2 = a6of ((s.drop 5).take 6) ∧ ta6 L3 E3 = a6of (s.drop 11) ∧ ndE L4 E4 = 0) ∧ (s.length ≠ 17 → ndE L4 E4 ≠ 0) := by
  obtain ⟨h1, v1⟩ := str_tk 4 (str_0 s)
  rw [a1, b1] at h1
  obtain ⟨h2, v2⟩ := str_tk 1 h1
  rw [a2, b2] at h2
  obtain ⟨h3, v3⟩ := str_tk 6 h2
  rw [a3, b3] at h3
  obtain ⟨h4, v4⟩ := str_tk 6 h3
  rw [a4, b4] at h4
  obtain ⟨n1, n2⟩ := str_nd h4
  refine ⟨fun h => ⟨?_, ?_, ?_, ?_, (n1 (by omega)).2⟩, fun h => n2 (by omega)⟩
  · have := v1 (by omega)
    rwa [List.drop_zero] at this
  · rw [v2 (by omega)]
    exact one_at (s := s) (k := 0 + 4) (by omega)
  · unfold ta6
    rw [v3 (by omega)]
  · unfold ta6
    rw [v4 (by omega), List.take_of_length_le (by simp only [List.length_drop]; omega)]
set_option maxHeartbeats 4000000 in
theorem readtrace_any (A : Option Addr) (n k : Nat) (p : Pd) (W : World) :
    Calls Try.prog 35 #[.agg #[.int .u8 p.l.toNat, .int .u8 p.o.toNat, .int .u8 p.g.toNat, .string ⟨p.x.toArray⟩, .slice A n k]] W fun e w' => ∃ X E, e = .returned (.tuple #[TcV X, .int .i64 E]) ∧ (p.x.length = 17 → E = 0 ∧ X = tcQ p) ∧ (p.x.length ≠ 17 → E ≠ 0) ∧ Below W.heap.size W w' := by
  obtain ⟨L1, a1⟩ : ∃ L, tkL 4 p.x 0 = L := ⟨_, rfl⟩
  obtain ⟨E1, b1⟩ : ∃ L, tkE 4 p.x 0 = L := ⟨_, rfl⟩
  obtain ⟨L2, a2⟩ : ∃ L, tkL 1 L1 E1 = L := ⟨_, rfl⟩
  obtain ⟨E2, b2⟩ : ∃ L, tkE 1 L1 E1 = L := ⟨_, rfl⟩
  obtain ⟨L3, a3⟩ : ∃ L, tkL 6 L2 E2 = L := ⟨_, rfl⟩
  obtain ⟨E3, b3⟩ : ∃ L, tkE 6 L2 E2 = L := ⟨_, rfl⟩
  obtain ⟨L4, a4⟩ : ∃ L, tkL 6 L3 E3 = L := ⟨_, rfl⟩
  obtain ⟨E4, b4⟩ : ∃ L, tkE 6 L3 E3 = L := ⟨_, rfl⟩
  have hf := rt_is p.x L1 L2 L3 L4 E1 E2 E3 E4 a1 b1 a2 b2 a3 b3 a4 b4
  have K1 := Lib.hid (fun w b => @u32q_any w b p.x 0)
  have K2 := Lib.hid (fun w b => @u8q_any w b L1 E1)
  have K3 := Lib.hid (fun w b => @addr15_any w b L2 E2)
  have K4 := Lib.hid (fun w b => @addr15_any w b L3 E3)
  have K5 := Lib.hid (fun w b => @end_any w b L4 E4)
  rw [a1, b1] at K1
  rw [a2, b2] at K2
  rw [a3, b3] at K3
  rw [a4, b4] at K4
  obtain ⟨q, hq⟩ : ∃ q, UInt32.ofNat (num (tkV 4 p.x 0)) = q := ⟨_, rfl⟩
  obtain ⟨kk, hk⟩ : ∃ q, UInt8.ofNat (num (tkV 1 L1 E1)) = q := ⟨_, rfl⟩
  obtain ⟨ao, ho⟩ : ∃ q, ta6 L2 E2 = q := ⟨_, rfl⟩
  obtain ⟨at_, ht⟩ : ∃ q, ta6 L3 E3 = q := ⟨_, rfl⟩
  obtain ⟨E5, h5⟩ : ∃ q, ndE L4 E4 = q := ⟨_, rfl⟩
  rw [hq] at K1
  rw [hk] at K2
  rw [ho] at K3
  rw [ht] at K4
  rw [h5] at K5
  rw [hk, ho, ht, h5] at hf
  have HF : Hid ((p.x.length = 17 → E5 = 0 ∧ (⟨p.l, q, kk, ao, at_⟩ : Tc) = tcQ p) ∧ (p.x.length ≠ 17 → E5 ≠ 0)) := Lib.hid ⟨fun h => by
    obtain ⟨e1, e2, e3, e4, e5⟩ := hf.1 h
    refine ⟨e5, ?_⟩
    unfold tcQ
    rw [← e2, ← e3, ← e4, ← e1, hq], hf.2⟩
  clear hf a1 b1 a2 b2 a3 b3 a4 b4 hq hk ho ht h5
  obtain ⟨s, hs⟩ : ∃ s, p.x = s := ⟨_, rfl⟩
  rw [hs] at K1 HF ⊢
  clear hs
  have HP0 : Hid (Blk ((W.alloc (.cells #[.int .u8 p.l.toNat, .int .u8 p.o.toNat, .int .u8 p.g.toNat, .string ⟨s.toArray⟩, .slice A n k] 31)).alloc (.cells #[.int .u8 0, .int .u32 0, .int .u8 0, .int .u8 0, .int .u8 0, .int .u8 0, .int .u8 0, .int .u8 0, .int .u8 0, .int .u8 0, .int .u8 0, .int .u8 0, .int .u8 0, .int .u8 0, .int .u8 0] 35)) W.heap.size 31 #[.int .u8 p.l.toNat, .int .u8 p.o.toNat, .int .u8 p.g.toNat, .string ⟨s.toArray⟩, .slice A n k]) := Lib.hid ((Blk.new _ _ _).alloc _)
  have HR0 : Hid (Blk ((W.alloc (.cells #[.int .u8 p.l.toNat, .int .u8 p.o.toNat, .int .u8 p.g.toNat, .string ⟨s.toArray⟩, .slice A n k] 31)).alloc (.cells #[.int .u8 0, .int .u32 0, .int .u8 0, .int .u8 0, .int .u8 0, .int .u8 0, .int .u8 0, .int .u8 0, .int .u8 0, .int .u8 0, .int .u8 0, .int .u8 0, .int .u8 0, .int .u8 0, .int .u8 0] 35)) (W.heap.size + 1) 35 #[.int .u8 0, .int .u32 0, .int .u8 0, .int .u8 0, .int .u8 0, .int .u8 0, .int .u8 0, .int .u8 0, .int .u8 0, .int .u8 0, .int .u8 0, .int .u8 0, .int .u8 0, .int .u8 0, .int .u8 0]) := Lib.hid (by
    have := Blk.new (W.alloc (.cells #[.int .u8 p.l.toNat, .int .u8 p.o.toNat, .int .u8 p.g.toNat, .string ⟨s.toArray⟩, .slice A n k] 31)) 35 #[.int .u8 0, .int .u32 0, .int .u8 0, .int .u8 0, .int .u8 0, .int .u8 0, .int .u8 0, .int .u8 0, .int .u8 0, .int .u8 0, .int .u8 0, .int .u8 0, .int .u8 0, .int .u8 0, .int .u8 0]
    simpa using this)
  have hbz : (((W.alloc (.cells #[.int .u8 p.l.toNat, .int .u8 p.o.toNat, .int .u8 p.g.toNat, .string ⟨s.toArray⟩, .slice A n k] 31)).alloc (.cells #[.int .u8 0, .int .u32 0, .int .u8 0, .int .u8 0, .int .u8 0, .int .u8 0, .int .u8 0, .int .u8 0, .int .u8 0, .int .u8 0, .int .u8 0, .int .u8 0, .int .u8 0, .int .u8 0, .int .u8 0] 35))).heap.size = W.heap.size + 2 := by simp
  have p0 := HP0.out.cell 0
  have p3 := HP0.out.cell 3
  simp only [List.getElem?_toArray, List.getElem?_cons_succ, List.getElem?_cons_zero] at p0 p3
  go_enter Try.func35, Try.ntmps35
  go_wp2_with fail
  refine (of_any s).mono ?_
  rintro r w1 ⟨rfl, hr1, hb1⟩
  rw [hbz] at hr1 hb1
  obtain ⟨b, hb⟩ : ∃ b, W.heap.size + 2 = b := ⟨_, rfl⟩
  obtain ⟨g, hg⟩ : ∃ g, w1.heap.size = g := ⟨_, rfl⟩
  rw [hb] at hr1
  have HBG := Lib.hid (And.intro hb hg)
  have x0 := (HP0.out.below hb1 (by omega)).cell 0
  simp only [List.getElem?_toArray, List.getElem?_cons_succ, List.getElem?_cons_zero] at x0
  have x0 : (w1.alloc (.cells #[.int .u8 0, .int .u32 0, .int .u8 0, .int .u8 0, .int .u8 0, .int .u8 0, .int .u8 0, .int .u8 0, .int .u8 0, .int .u8 0, .int .u8 0, .int .u8 0, .int .u8 0, .int .u8 0, .int .u8 0] 35)).cell? ⟨W.heap.size, 0, none⟩ = some (.int .u8 p.l.toNat) := by
    have h := ((HP0.out.below hb1 (by omega)).alloc (.cells #[.int .u8 0, .int .u32 0, .int .u8 0, .int .u8 0, .int .u8 0, .int .u8 0, .int .u8 0, .int .u8 0, .int .u8 0, .int .u8 0, .int .u8 0, .int .u8 0, .int .u8 0, .int .u8 0, .int .u8 0] 35)).cell 0
    simpa only [List.getElem?_toArray, List.getElem?_cons_succ, List.getElem?_cons_zero] using h
  have H1 : Hid (RtS W b g #[.int .u8 p.l.toNat, .int .u8 p.o.toNat, .int .u8 p.g.toNat, .string ⟨s.toArray⟩, .slice A n k] s 0 #[.int .u8 p.l.toNat, .int .u32 0, .int .u8 0, .int .u8 0, .int .u8 0, .int .u8 0, .int .u8 0, .int .u8 0, .int .u8 0, .int .u8 0, .int .u8 0, .int .u8 0, .int .u8 0, .int .u8 0, .int .u8 0] (w1.alloc (.cells #[.int .u8 p.l.toNat, .int .u32 0, .int .u8 0, .int .u8 0, .int .u8 0, .int .u8 0, .int .u8 0, .int .u8 0, .int .u8 0, .int .u8 0, .int .u8 0, .int .u8 0, .int .u8 0, .int .u8 0, .int .u8 0] 35))) := Lib.hid (by
    have hlt := Blk.lt hr1
    have hz := hb1.size
    have k1 := Blk.new w1 35 #[.int .u8 p.l.toNat, .int .u32 0, .int .u8 0, .int .u8 0, .int .u8 0, .int .u8 0, .int .u8 0, .int .u8 0, .int .u8 0, .int .u8 0, .int .u8 0, .int .u8 0, .int .u8 0, .int .u8 0, .int .u8 0]
    rw [hg] at k1 hlt
    refine ⟨(HP0.out.below hb1 (by omega)).alloc _, (HR0.out.below hb1 (by omega)).alloc _, k1, Blk.alloc hr1 _, ?_, by omega, by omega⟩
    exact ((((Below.refl _ _).alloc (Nat.le_refl _) _).alloc (by simp) _).trans (hb1.mono (by omega))).alloc (by omega) _)
  clear hr1 hb1 HP0 HR0 p0 p3
  simp only [hbz, hb]
  clear hbz
  go_wp2_with fail
  refine (K1.out _ _ H1.out.rdr).mono ?_
  rintro r w2 ⟨rfl, hr, hc⟩
  have H2a := Lib.hid (H1.out.call hr hc)
  clear hr hc H1
  have H2 : Hid (RtS W b g #[.int .u8 p.l.toNat, .int .u8 p.o.toNat, .int .u8 p.g.toNat, .string ⟨s.toArray⟩, .slice A n k] L1 E1 #[.int .u8 p.l.toNat, .int .u32 q.toNat, .int .u8 0, .int .u8 0, .int .u8 0, .int .u8 0, .int .u8 0, .int .u8 0, .int .u8 0, .int .u8 0, .int .u8 0, .int .u8 0, .int .u8 0, .int .u8 0, .int .u8 0] (w2.setCell ⟨g, 1, none⟩ (.int .u32 q.toNat))) := Lib.hid (by
    have h := (H2a.out.put 1 (.int .u32 q.toNat))
    simpa using h)
  have c1 := H2a.out.cur.cell 1
  simp only [List.getElem?_toArray, List.getElem?_cons_succ, List.getElem?_cons_zero] at c1
  have f1 := H2a.out.cur.frozen 1
  clear H2a
  clear x0
  go_wp2_with fail
  refine (K2.out _ _ H2.out.rdr).mono ?_
  rintro r w3 ⟨rfl, hr, hc⟩
  have H3a := Lib.hid (H2.out.call hr hc)
  clear hr hc H2 c1 f1
  have H3 : Hid (RtS W b g #[.int .u8 p.l.toNat, .int .u8 p.o.toNat, .int .u8 p.g.toNat, .string ⟨s.toArray⟩, .slice A n k] L2 E2 #[.int .u8 p.l.toNat, .int .u32 q.toNat, .int .u8 kk.toNat, .int .u8 0, .int .u8 0, .int .u8 0, .int .u8 0, .int .u8 0, .int .u8 0, .int .u8 0, .int .u8 0, .int .u8 0, .int .u8 0, .int .u8 0, .int .u8 0] (w3.setCell ⟨g, 2, none⟩ (.int .u8 kk.toNat))) := Lib.hid (by
    have h := (H3a.out.put 2 (.int .u8 kk.toNat))
    simpa using h)
  have c2 := H3a.out.cur.cell 2
  simp only [List.getElem?_toArray, List.getElem?_cons_succ, List.getElem?_cons_zero] at c2
  have f2 := H3a.out.cur.frozen 2
  clear H3a
  go_wp2_with fail
  refine (K3.out _ _ H3.out.rdr).mono ?_
  rintro r w4 ⟨rfl, hr, hc⟩
  have H4a := Lib.hid (H3.out.call hr hc)
  clear hr hc H3 c2 f2
  have H4 : Hid (RtS W b g #[.int .u8 p.l.toNat, .int .u8 p.o.toNat, .int .u8 p.g.toNat, .string ⟨s.toArray⟩, .slice A n k] L3 E3 #[.int .u8 p.l.toNat, .int .u32 q.toNat, .int .u8 kk.toNat, .int .u8 ao.a.toNat, .int .u8 ao.b.toNat, .int .u8 ao.c.toNat, .int .u8 ao.d.toNat, .int .u8 ao.e.toNat, .int .u8 ao.f.toNat, .int .u8 0, .int .u8 0, .int .u8 0, .int .u8 0, .int .u8 0, .int .u8 0] ((((((w4.setCell ⟨g, 3, none⟩ (.int .u8 ao.a.toNat)).setCell ⟨g, 4, none⟩ (.int .u8 ao.b.toNat)).setCell ⟨g, 5, none⟩ (.int .u8 ao.c.toNat)).setCell ⟨g, 6, none⟩ (.int .u8 ao.d.toNat)).setCell ⟨g, 7, none⟩ (.int .u8 ao.e.toNat)).setCell ⟨g, 8, none⟩ (.int .u8 ao.f.toNat))) := Lib.hid (by
    have h := ((((((H4a.out.put 3 (.int .u8 ao.a.toNat)).put 4 (.int .u8 ao.b.toNat)).put 5 (.int .u8 ao.c.toNat)).put 6 (.int .u8 ao.d.toNat)).put 7 (.int .u8 ao.e.toNat)).put 8 (.int .u8 ao.f.toNat))
    simpa using h)
  have c3 := H4a.out.cur.cell 3
  have c4 := H4a.out.cur.cell 4
  have c5 := H4a.out.cur.cell 5
  have c6 := H4a.out.cur.cell 6
  have c7 := H4a.out.cur.cell 7
  have c8 := H4a.out.cur.cell 8
  simp only [List.getElem?_toArray, List.getElem?_cons_succ, List.getElem?_cons_zero] at c3 c4 c5 c6 c7 c8
  have f3 := H4a.out.cur.frozen 3
  have f4 := H4a.out.cur.frozen 4
  have f5 := H4a.out.cur.frozen 5
  have f6 := H4a.out.cur.frozen 6
  have f7 := H4a.out.cur.frozen 7
  have f8 := H4a.out.cur.frozen 8
  clear H4a
  go_wp2_with fail
  refine (K4.out _ _ H4.out.rdr).mono ?_
  rintro r w5 ⟨rfl, hr, hc⟩
  have H5a := Lib.hid (H4.out.call hr hc)
  clear hr hc H4 c3 c4 c5 c6 c7 c8 f3 f4 f5 f6 f7 f8
  have H5 : Hid (RtS W b g #[.int .u8 p.l.toNat, .int .u8 p.o.toNat, .int .u8 p.g.toNat, .string ⟨s.toArray⟩, .slice A n k] L4 E4 #[.int .u8 p.l.toNat, .int .u32 q.toNat, .int .u8 kk.toNat, .int .u8 ao.a.toNat, .int .u8 ao.b.toNat, .int .u8 ao.c.toNat, .int .u8 ao.d.toNat, .int .u8 ao.e.toNat, .int .u8 ao.f.toNat, .int .u8 at_.a.toNat, .int .u8 at_.b.toNat, .int .u8 at_.c.toNat, .int .u8 at_.d.toNat, .int .u8 at_.e.toNat, .int .u8 at_.f.toNat] ((((((w5.setCell ⟨g, 9, none⟩ (.int .u8 at_.a.toNat)).setCell ⟨g, 10, none⟩ (.int .u8 at_.b.toNat)).setCell ⟨g, 11, none⟩ (.int .u8 at_.c.toNat)).setCell ⟨g, 12, none⟩ (.int .u8 at_.d.toNat)).setCell ⟨g, 13, none⟩ (.int .u8 at_.e.toNat)).setCell ⟨g, 14, none⟩ (.int .u8 at_.f.toNat))) := Lib.hid (by
    have h := ((((((H5a.out.put 9 (.int .u8 at_.a.toNat)).put 10 (.int .u8 at_.b.toNat)).put 11 (.int .u8 at_.c.toNat)).put 12 (.int .u8 at_.d.toNat)).put 13 (.int .u8 at_.e.toNat)).put 14 (.int .u8 at_.f.toNat))
    simpa using h)
  have c9 := H5a.out.cur.cell 9
  have c10 := H5a.out.cur.cell 10
  have c11 := H5a.out.cur.cell 11
  have c12 := H5a.out.cur.cell 12
  have c13 := H5a.out.cur.cell 13
  have c14 := H5a.out.cur.cell 14
  simp only [List.getElem?_toArray, List.getElem?_cons_succ, List.getElem?_cons_zero] at c9 c10 c11 c12 c13 c14
  have f9 := H5a.out.cur.frozen 9
  have f10 := H5a.out.cur.frozen 10
  have f11 := H5a.out.cur.frozen 11
  have f12 := H5a.out.cur.frozen 12
  have f13 := H5a.out.cur.frozen 13
  have f14 := H5a.out.cur.frozen 14
  clear H5a
  have H5d := Lib.hid H5.out.drew
  clear H5
  have HS0 : Hid (Blk _ g 35 #[.int .u8 p.l.toNat, .int .u32 q.toNat, .int .u8 kk.toNat, .int .u8 ao.a.toNat, .int .u8 ao.b.toNat, .int .u8 ao.c.toNat, .int .u8 ao.d.toNat, .int .u8 ao.e.toNat, .int .u8 ao.f.toNat, .int .u8 at_.a.toNat, .int .u8 at_.b.toNat, .int .u8 at_.c.toNat, .int .u8 at_.d.toNat, .int .u8 at_.e.toNat, .int .u8 at_.f.toNat]) := Lib.hid H5d.out.cur
  go_wp2_with fail
  clear c9 c10 c11 c12 c13 c14 f9 f10 f11 f12 f13 f14
  refine wp_region_noPanic ?_
  refine wp_region_held_drew (S := fun w_ => Blk w_ g 35 #[.int .u8 p.l.toNat, .int .u32 q.toNat, .int .u8 kk.toNat, .int .u8 ao.a.toNat, .int .u8 ao.b.toNat, .int .u8 ao.c.toNat, .int .u8 ao.d.toNat, .int .u8 ao.e.toNat, .int .u8 ao.f.toNat, .int .u8 at_.a.toNat, .int .u8 at_.b.toNat, .int .u8 at_.c.toNat, .int .u8 at_.d.toNat, .int .u8 at_.e.toNat, .int .u8 at_.f.toNat]) (by kernel_rfl) HS0.out (fun hHeld => ?_)
  refine wpAnyH_take (i := 0) (v := .agg #[.int .u8 p.l.toNat, .int .u32 q.toNat, .int .u8 kk.toNat, .int .u8 ao.a.toNat, .int .u8 ao.b.toNat, .int .u8 ao.c.toNat, .int .u8 ao.d.toNat, .int .u8 ao.e.toNat, .int .u8 ao.f.toNat, .int .u8 at_.a.toNat, .int .u8 at_.b.toNat, .int .u8 at_.c.toNat, .int .u8 at_.d.toNat, .int .u8 at_.e.toNat, .int .u8 at_.f.toNat]) rfl (by kernel_rfl) (by kernel_rfl) (by kernel_rfl) (fun _ _ _ h => h) (yieldsIf_row15 35 5 rfl (by rfl) g rfl 35 _ _ (fun w_ hw => hw) Try.underlying35 rfl (by kernel_rfl)) hHeld ?_
  try simp only [Act.put, List.getElem_toArray, List.getElem_cons_succ, List.getElem_cons_zero, List.setIfInBounds_toArray, List.set_cons_zero, List.set_cons_succ]
  refine wpAnyH_take (i := 1) (v := ?v1) rfl (by kernel_rfl) (by kernel_rfl) (by kernel_rfl) (fun _ _ _ h => h) (Or.inl ⟨by rfl, ?hy1⟩) hHeld ?rest1
  case hy1 =>
    intro w_ hSw; go_simp
    all_goals (with_reducible rfl)
  try simp only [Act.put, List.getElem_toArray, List.getElem_cons_succ, List.getElem_cons_zero, List.setIfInBounds_toArray, List.set_cons_zero, List.set_cons_succ]
  refine wpAnyH_ready (rs := [2]) (by kernel_rfl) (by simp) ?_
  refine AllReadyH.cons rfl (fun K hK => ?_) AllReadyH.nil
  go_simp
  go_at_call 51
  refine (K5.out _ _ H5d.out.rdr).mono ?_
  rintro e w6 ⟨rfl, hr, hc⟩
  have H6 := Lib.hid (H5d.out.call hr hc)
  clear hr hc
  refine hK.out _ _ (H6.out.cur) (fun hHeld => ?_)
  clear hK K
  try simp only [Act.put, List.getElem_toArray, List.getElem_cons_succ, List.getElem_cons_zero, List.setIfInBounds_toArray, List.set_cons_zero, List.set_cons_succ]
  refine wpAnyH_ready (rs := [3]) (by kernel_rfl) (by simp) ?_
  refine AllReadyH.cons rfl (fun K hK => ?_) AllReadyH.nil
  refine step_store_row15 rfl 35 (.tmp 2) (.tmp 24) rfl (W.heap.size + 1) rfl #[.int .u8 p.l.toNat, .int .u32 q.toNat, .int .u8 kk.toNat, .int .u8 ao.a.toNat, .int .u8 ao.b.toNat, .int .u8 ao.c.toNat, .int .u8 ao.d.toNat, .int .u8 ao.e.toNat, .int .u8 ao.f.toNat, .int .u8 at_.a.toNat, .int .u8 at_.b.toNat, .int .u8 at_.c.toNat, .int .u8 at_.d.toNat, .int .u8 at_.e.toNat, .int .u8 at_.f.toNat] rfl 35 _ H6.out.res (by kernel_rfl) rfl (by kernel_rfl) ?_
  have hR9 := Blk.row H6.out.res #[.int .u8 p.l.toNat, .int .u32 q.toNat, .int .u8 kk.toNat, .int .u8 ao.a.toNat, .int .u8 ao.b.toNat, .int .u8 ao.c.toNat, .int .u8 ao.d.toNat, .int .u8 ao.e.toNat, .int .u8 ao.f.toNat, .int .u8 at_.a.toNat, .int .u8 at_.b.toNat, .int .u8 at_.c.toNat, .int .u8 at_.d.toNat, .int .u8 at_.e.toNat, .int .u8 at_.f.toNat]
  have hB9 := below_row H6.out.below (show W.heap.size ≤ W.heap.size + 1 by omega) #[.int .u8 p.l.toNat, .int .u32 q.toNat, .int .u8 kk.toNat, .int .u8 ao.a.toNat, .int .u8 ao.b.toNat, .int .u8 ao.c.toNat, .int .u8 ao.d.toNat, .int .u8 ao.e.toNat, .int .u8 ao.f.toNat, .int .u8 at_.a.toNat, .int .u8 at_.b.toNat, .int .u8 at_.c.toNat, .int .u8 at_.d.toNat, .int .u8 at_.e.toNat, .int .u8 at_.f.toNat]
  have hne : g ≠ W.heap.size + 1 := by have := H6.out.lt1; have := H6.out.lt2; omega
  refine hK.out _ _ (H6.out.cur.rowFar hne _) (fun hHeld => ?_)
  clear hK K
  try simp only [Act.put, List.getElem_toArray, List.getElem_cons_succ, List.getElem_cons_zero, List.setIfInBounds_toArray, List.set_cons_zero, List.set_cons_succ]
  refine wpAnyH_take (i := 4) (v := ?v2) rfl (by kernel_rfl) (by kernel_rfl) (by kernel_rfl) (fun _ _ _ h => h) (Or.inl ⟨by rfl, ?hy2⟩) hHeld ?rest2
  case hy2 =>
    intro w_ hSw; go_simp
    all_goals (with_reducible rfl)
  try simp only [Act.put, List.getElem_toArray, List.getElem_cons_succ, List.getElem_cons_zero, List.setIfInBounds_toArray, List.set_cons_zero, List.set_cons_succ]
  refine wpAnyH_done (by kernel_rfl) ?_ _
  refine NoPanic.normal ?_
  have H9 := Lib.hid (And.intro hR9 hB9)
  clear hR9 hB9 hHeld
  go_wp2_with fail
  refine bodyPost_ret (v := .tuple #[.agg #[.int .u8 p.l.toNat, .int .u32 q.toNat, .int .u8 kk.toNat, .int .u8 ao.a.toNat, .int .u8 ao.b.toNat, .int .u8 ao.c.toNat, .int .u8 ao.d.toNat, .int .u8 ao.e.toNat, .int .u8 ao.f.toNat, .int .u8 at_.a.toNat, .int .u8 at_.b.toNat, .int .u8 at_.c.toNat, .int .u8 at_.d.toNat, .int .u8 at_.e.toNat, .int .u8 at_.f.toNat], .int .i64 E5]) (results_cell_slot (p := 2) (q := 3) (by kernel_rfl) _ _ (W.heap.size + 1) 35 _ _ rfl H9.out.1 Try.underlying35 rfl (by kernel_rfl) _ rfl) rfl ?_
  exact ⟨⟨p.l, q, kk, ao, at_⟩, E5, rfl, HF.out.1, HF.out.2, H9.out.2⟩
end Go.Proofs.Ytieopgmmjpmflaa
