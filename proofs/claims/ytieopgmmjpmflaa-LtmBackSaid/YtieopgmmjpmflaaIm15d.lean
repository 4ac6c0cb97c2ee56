/- Layer 15: package ltm's Take keeps the words of Law15; a reply's port. -/
import Derived.Test.YtieopgmmjpmflaaIm15c
import Derived.Test.YtieopgmmjpmflaaTlFind
import Derived.Maps.OwnSet
import Derived.BigQuiet
import Derived.Deep.QuietTactic
import Derived.Deep.RegionHeld3
import Derived.Deep.RegionLaw
import Derived.Deep.DeepCutAuto
import Derived.OwnWalk
import Derived.StillTailTactics
namespace Go.Proofs.Ytieopgmmjpmflaa
open Go.RowKit
set_option linter.unusedVariables false
set_option linter.unusedSimpArgs false
set_option maxRecDepth 100000

theorem and128_15 : ∀ k : Fin 256, (bits BinOp.and IntKind.u8 ((k.val : Nat) : Int) 128 == 0) = decide (k.val < 128) := by decide +kernel
theorem and128_15u (g : UInt8) : (bits BinOp.and IntKind.u8 (g.toNat : Int) 128 == 0) = decide (g.toNat < 128) := and128_15 ⟨g.toNat, g.toNat_lt⟩
theorem and64_15 : ∀ k : Fin 256, (bits BinOp.and IntKind.u8 ((k.val : Nat) : Int) 64 != 0) = decide (k.val / 64 % 2 = 1) := by decide +kernel
theorem and64_15u (g : UInt8) : (bits BinOp.and IntKind.u8 (g.toNat : Int) 64 != 0) = decide (g.toNat / 64 % 2 = 1) := and64_15 ⟨g.toNat, g.toNat_lt⟩
theorem and32_15 : ∀ k : Fin 256, (bits BinOp.and IntKind.u8 ((k.val : Nat) : Int) 32 != 0) = decide (k.val / 32 % 2 = 1) := by decide +kernel
theorem and32_15u (g : UInt8) : (bits BinOp.and IntKind.u8 (g.toNat : Int) 32 != 0) = decide (g.toNat / 32 % 2 = 1) := and32_15 ⟨g.toNat, g.toNat_lt⟩
set_option maxHeartbeats 8000000 in
theorem lttake_impl : LtTakeC := by
  intro A k p w hE hx ht hl hg
  clear hE
  obtain ⟨n, hn⟩ : ∃ n, p.t.length = n := ⟨_, rfl⟩
  show Calls _ _ #[.agg #[.int .u8 p.l.toNat, .int .u8 p.o.toNat, .int .u8 p.g.toNat, .string ⟨p.x.toArray⟩, .slice A p.t.length k]] _ _
  rw [hn]
  clear hn hx ht
  have HB0 : Hid (Below w.heap.size w ((w.alloc (.cells #[.int .u8 p.l.toNat, .int .u8 p.o.toNat, .int .u8 p.g.toNat, .string ⟨p.x.toArray⟩, .slice A n k] 31)).alloc (.cells #[.int .u8 0, .int .u32 0, .int .u8 0, .int .u8 0, .int .u8 0, .int .u8 0, .int .u8 0, .int .u8 0, .int .u8 0, .int .u8 0, .int .u8 0, .int .u8 0, .int .u8 0, .int .u8 0, .int .u8 0] 35))) := Lib.hid (((Below.refl _ _).alloc (Nat.le_refl _) _).alloc (by simp) _)
  have HK0 : Hid (Blk ((w.alloc (.cells #[.int .u8 p.l.toNat, .int .u8 p.o.toNat, .int .u8 p.g.toNat, .string ⟨p.x.toArray⟩, .slice A n k] 31)).alloc (.cells #[.int .u8 0, .int .u32 0, .int .u8 0, .int .u8 0, .int .u8 0, .int .u8 0, .int .u8 0, .int .u8 0, .int .u8 0, .int .u8 0, .int .u8 0, .int .u8 0, .int .u8 0, .int .u8 0, .int .u8 0] 35)) w.heap.size 31 #[.int .u8 p.l.toNat, .int .u8 p.o.toNat, .int .u8 p.g.toNat, .string ⟨p.x.toArray⟩, .slice A n k]) := Lib.hid ((Blk.new _ _ _).alloc _)
  have HR0 : Hid (Blk ((w.alloc (.cells #[.int .u8 p.l.toNat, .int .u8 p.o.toNat, .int .u8 p.g.toNat, .string ⟨p.x.toArray⟩, .slice A n k] 31)).alloc (.cells #[.int .u8 0, .int .u32 0, .int .u8 0, .int .u8 0, .int .u8 0, .int .u8 0, .int .u8 0, .int .u8 0, .int .u8 0, .int .u8 0, .int .u8 0, .int .u8 0, .int .u8 0, .int .u8 0, .int .u8 0] 35)) (w.heap.size + 1) 35 #[.int .u8 0, .int .u32 0, .int .u8 0, .int .u8 0, .int .u8 0, .int .u8 0, .int .u8 0, .int .u8 0, .int .u8 0, .int .u8 0, .int .u8 0, .int .u8 0, .int .u8 0, .int .u8 0, .int .u8 0]) := Lib.hid (by
    have := Blk.new (w.alloc (.cells #[.int .u8 p.l.toNat, .int .u8 p.o.toNat, .int .u8 p.g.toNat, .string ⟨p.x.toArray⟩, .slice A n k] 31)) 35 #[.int .u8 0, .int .u32 0, .int .u8 0, .int .u8 0, .int .u8 0, .int .u8 0, .int .u8 0, .int .u8 0, .int .u8 0, .int .u8 0, .int .u8 0, .int .u8 0, .int .u8 0, .int .u8 0, .int .u8 0]
    simpa using this)
  have K1 := Lib.hid (fun w => readtrace_any A n k p w)
  have p7 : ¬ (7 : Int) < (p.l.toNat : Int) := by omega
  have a1 := and128_15u p.g
  have j0 := HK0.out.cell 0
  have j1 := HK0.out.cell 1
  have j2 := HK0.out.cell 2
  have j3 := HK0.out.cell 3
  have j4 := HK0.out.cell 4
  simp only [List.getElem?_toArray, List.getElem?_cons_succ, List.getElem?_cons_zero] at j0 j1 j2 j3 j4
  go_enter Try.func16, Try.ntmps16
  go_wp2_with fail
  refine (K1.out _).mono ?_
  rintro r w1 ⟨X, E, rfl, h17, hn17, hb1⟩
  have HB1 : Hid (Below w.heap.size w w1) := Lib.hid (HB0.out.trans (hb1.mono HB0.out.size))
  have HK1 := Lib.hid (HK0.out.below hb1 HK0.out.lt)
  have HR1 := Lib.hid (HR0.out.below hb1 HR0.out.lt)
  have H17 := Lib.hid (And.intro h17 hn17)
  clear hb1 HB0 HK0 HR0 j0 j1 j2 j3 j4 h17 hn17
  have hlt := HK1.out.lt
  have j0 := HK1.out.cell 0
  have j1 := HK1.out.cell 1
  have j2 := HK1.out.cell 2
  have j3 := HK1.out.cell 3
  have j4 := HK1.out.cell 4
  simp only [List.getElem?_toArray, List.getElem?_cons_succ, List.getElem?_cons_zero] at j0 j1 j2 j3 j4
  have HR2 : Hid (Blk (w1.alloc (.cells #[.int .u8 X.l.toNat, .int .u32 X.q.toNat, .int .u8 X.k.toNat, .int .u8 X.o.a.toNat, .int .u8 X.o.b.toNat, .int .u8 X.o.c.toNat, .int .u8 X.o.d.toNat, .int .u8 X.o.e.toNat, .int .u8 X.o.f.toNat, .int .u8 X.t.a.toNat, .int .u8 X.t.b.toNat, .int .u8 X.t.c.toNat, .int .u8 X.t.d.toNat, .int .u8 X.t.e.toNat, .int .u8 X.t.f.toNat] 35)) (w.heap.size + 1) 35 #[.int .u8 0, .int .u32 0, .int .u8 0, .int .u8 0, .int .u8 0, .int .u8 0, .int .u8 0, .int .u8 0, .int .u8 0, .int .u8 0, .int .u8 0, .int .u8 0, .int .u8 0, .int .u8 0, .int .u8 0]) := Lib.hid (HR1.out.alloc _)
  have HB2 : Hid (Below w.heap.size w (w1.alloc (.cells #[.int .u8 X.l.toNat, .int .u32 X.q.toNat, .int .u8 X.k.toNat, .int .u8 X.o.a.toNat, .int .u8 X.o.b.toNat, .int .u8 X.o.c.toNat, .int .u8 X.o.d.toNat, .int .u8 X.o.e.toNat, .int .u8 X.o.f.toNat, .int .u8 X.t.a.toNat, .int .u8 X.t.b.toNat, .int .u8 X.t.c.toNat, .int .u8 X.t.d.toNat, .int .u8 X.t.e.toNat, .int .u8 X.t.f.toNat] 35))) := Lib.hid (HB1.out.alloc HB1.out.size _)
  have HC2 : Hid (Blk (w1.alloc (.cells #[.int .u8 X.l.toNat, .int .u32 X.q.toNat, .int .u8 X.k.toNat, .int .u8 X.o.a.toNat, .int .u8 X.o.b.toNat, .int .u8 X.o.c.toNat, .int .u8 X.o.d.toNat, .int .u8 X.o.e.toNat, .int .u8 X.o.f.toNat, .int .u8 X.t.a.toNat, .int .u8 X.t.b.toNat, .int .u8 X.t.c.toNat, .int .u8 X.t.d.toNat, .int .u8 X.t.e.toNat, .int .u8 X.t.f.toNat] 35)) w1.heap.size 35 #[.int .u8 X.l.toNat, .int .u32 X.q.toNat, .int .u8 X.k.toNat, .int .u8 X.o.a.toNat, .int .u8 X.o.b.toNat, .int .u8 X.o.c.toNat, .int .u8 X.o.d.toNat, .int .u8 X.o.e.toNat, .int .u8 X.o.f.toNat, .int .u8 X.t.a.toNat, .int .u8 X.t.b.toNat, .int .u8 X.t.c.toNat, .int .u8 X.t.d.toNat, .int .u8 X.t.e.toNat, .int .u8 X.t.f.toNat]) := Lib.hid (Blk.new _ _ _)
  clear HK1 HR1 HB1
  by_cases ho : p.o = 5
  · have hob : ((p.o.toNat : Int) != 5) = false := by rw [ho]; rfl
    have a2 : (bits BinOp.and IntKind.u8 (p.g.toNat : Int) 128 == 0) = false := by
      rw [a1]
      have := hg ho
      simp
      omega
    by_cases h7 : p.x.length = 17
    · obtain ⟨rfl, rfl⟩ := H17.out.1 h7
      have HP : Hid (tcX p = tcQ p ∧ tcF p = 0) := Lib.hid (by
        have e : tcF p = 0 := by unfold tcF; rw [if_pos ⟨ho, h7⟩]
        exact ⟨by unfold tcX; rw [if_pos e], e⟩)
      obtain ⟨Y, hY⟩ : ∃ Y, tcQ p = Y := ⟨_, rfl⟩
      rw [hY] at HP HR2 HB2 HC2 ⊢
      clear h7 ho a1 hg hl hY H17 K1
      go_wp2_with (first
        | (refine wpList_store_row rfl 35 (.tmp 2) (.tmp 27) rfl (w.heap.size + 1) rfl _ rfl 35 _ HR2.out (by kernel_rfl) rfl (by kernel_rfl) ?_)
        | (refine wpList_load_cs 35 4 rfl (by kernel_rfl) w1.heap.size 35 #[.int .u8 Y.l.toNat, .int .u32 Y.q.toNat, .int .u8 Y.k.toNat, .int .u8 Y.o.a.toNat, .int .u8 Y.o.b.toNat, .int .u8 Y.o.c.toNat, .int .u8 Y.o.d.toNat, .int .u8 Y.o.e.toNat, .int .u8 Y.o.f.toNat, .int .u8 Y.t.a.toNat, .int .u8 Y.t.b.toNat, .int .u8 Y.t.c.toNat, .int .u8 Y.t.d.toNat, .int .u8 Y.t.e.toNat, .int .u8 Y.t.f.toNat] _ rfl HC2.out Try.underlying35 rfl (by kernel_rfl) ?_))
      refine bodyPost_ret (v := .tuple #[.agg #[.int .u8 Y.l.toNat, .int .u32 Y.q.toNat, .int .u8 Y.k.toNat, .int .u8 Y.o.a.toNat, .int .u8 Y.o.b.toNat, .int .u8 Y.o.c.toNat, .int .u8 Y.o.d.toNat, .int .u8 Y.o.e.toNat, .int .u8 Y.o.f.toNat, .int .u8 Y.t.a.toNat, .int .u8 Y.t.b.toNat, .int .u8 Y.t.c.toNat, .int .u8 Y.t.d.toNat, .int .u8 Y.t.e.toNat, .int .u8 Y.t.f.toNat], .int .i64 0]) (results_cell_slot (p := 2) (q := 3) (by kernel_rfl) _ _ (w.heap.size + 1) 35 _ _ rfl (Blk.row HR2.out _) Try.underlying35 rfl (by kernel_rfl) _ rfl) rfl ?_
      exact ⟨by rw [HP.out.1, HP.out.2]; rfl, below_row HB2.out (by omega) _⟩
    · have hE := H17.out.2 h7
      have hEb : (E != 0) = true := by simpa using hE
      have HP : Hid (tcX p = tc0 ∧ tcF p = 4) := Lib.hid (by
        have e : tcF p = 4 := by unfold tcF; rw [if_neg (fun h => h7 h.2)]
        exact ⟨by unfold tcX; rw [if_neg (by omega)], e⟩)
      clear hE h7 ho a1 hg hl H17 K1
      go_wp2_with (refine wpList_store_row rfl 35 (.tmp 2) (.tmp 26) rfl (w.heap.size + 1) rfl _ rfl 35 _ HR2.out (by kernel_rfl) rfl (by kernel_rfl) ?_)
      refine bodyPost_ret (v := .tuple #[.agg #[.int .u8 0, .int .u32 0, .int .u8 0, .int .u8 0, .int .u8 0, .int .u8 0, .int .u8 0, .int .u8 0, .int .u8 0, .int .u8 0, .int .u8 0, .int .u8 0, .int .u8 0, .int .u8 0, .int .u8 0], .int .i64 4]) (results_cell_slot (p := 2) (q := 3) (by kernel_rfl) _ _ (w.heap.size + 1) 35 _ _ rfl (Blk.row HR2.out _) Try.underlying35 rfl (by kernel_rfl) _ rfl) rfl ?_
      exact ⟨by rw [HP.out.1, HP.out.2]; rfl, below_row HB2.out (by omega) _⟩
  · have hob : ((p.o.toNat : Int) != 5) = true := by
      have : p.o.toNat ≠ 5 := fun h => ho (UInt8.toNat_inj.1 h)
      simp; omega
    have HP : Hid (tcX p = tc0 ∧ tcF p = 4) := Lib.hid (by
      have e : tcF p = 4 := by unfold tcF; rw [if_neg (fun h => ho h.1)]
      exact ⟨by unfold tcX; rw [if_neg (by omega)], e⟩)
    clear ho a1 hg hl H17 K1
    go_wp2_with (refine wpList_store_row rfl 35 (.tmp 2) (.tmp 26) rfl (w.heap.size + 1) rfl _ rfl 35 _ HR2.out (by kernel_rfl) rfl (by kernel_rfl) ?_)
    refine bodyPost_ret (v := .tuple #[.agg #[.int .u8 0, .int .u32 0, .int .u8 0, .int .u8 0, .int .u8 0, .int .u8 0, .int .u8 0, .int .u8 0, .int .u8 0, .int .u8 0, .int .u8 0, .int .u8 0, .int .u8 0, .int .u8 0, .int .u8 0], .int .i64 4]) (results_cell_slot (p := 2) (q := 3) (by kernel_rfl) _ _ (w.heap.size + 1) 35 _ _ rfl (Blk.row HR2.out _) Try.underlying35 rfl (by kernel_rfl) _ rfl) rfl ?_
    exact ⟨by rw [HP.out.1, HP.out.2]; rfl, below_row HB2.out (by omega) _⟩
set_option maxHeartbeats 4000000 in
theorem port_any (k : UInt8) (A : Option Addr) (n kk : Nat) (p : Pd) (Hb c b : Nat) (L : List UInt8) (er : Int) (w : World) (hn : p.t.length = n) (hl : n ≤ 1000) (hp : Blk w Hb 31 #[.int .u8 p.l.toNat, .int .u8 p.o.toNat, .int .u8 p.g.toNat, .string ⟨p.x.toArray⟩, .slice A n kk]) (hE : Els 2 tlV w A p.t) (hc : Blk w c 73 #[.pointer (some ⟨b, 0, none⟩)]) (hr : Rdr w b L er) (hcb : c ≠ b) :
    Calls Try.prog 52 #[.int .u8 k.toNat, .pointer (some ⟨Hb, 0, none⟩), .pointer (some ⟨c, 0, none⟩)] w fun e w' => e = .returned (A6V (prR p.t k)) ∧ Rdr w' b L (if prB p.t k = true then er else bdE er) ∧ Chg (only b) w w' := by
  have KF := Lib.hid (fun w (hE : Els 2 tlV w A p.t) => tlfind_any A kk p.t k w hE (by omega))
  rw [hn] at KF
  have HPR : Hid (prR p.t k = match tlF p.t k with | none => A6.z | some s => tpA s) := Lib.hid rfl
  have HPB : Hid (prB p.t k = match tlF p.t k with | none => true | some s => tpB s) := Lib.hid (by unfold prB tpB; rfl)
  have HZ0 : Hid (Blk (w.alloc (.cells #[.int .u8 0, .int .u8 0, .int .u8 0, .int .u8 0, .int .u8 0, .int .u8 0] 24)) w.heap.size 24 #[.int .u8 0, .int .u8 0, .int .u8 0, .int .u8 0, .int .u8 0, .int .u8 0]) := Lib.hid (Blk.new _ _ _)
  have HE0 : Hid (Els 2 tlV (w.alloc (.cells #[.int .u8 0, .int .u8 0, .int .u8 0, .int .u8 0, .int .u8 0, .int .u8 0] 24)) A p.t) := Lib.hid (hE.next ((Below.refl _ _).alloc (Nat.le_refl _) _))
  have HQ0 : Hid (Rdr (w.alloc (.cells #[.int .u8 0, .int .u8 0, .int .u8 0, .int .u8 0, .int .u8 0, .int .u8 0] 24)) b L er) := Lib.hid (Blk.alloc hr _)
  have HP0 : Hid (Blk (w.alloc (.cells #[.int .u8 0, .int .u8 0, .int .u8 0, .int .u8 0, .int .u8 0, .int .u8 0] 24)) Hb 31 #[.int .u8 p.l.toNat, .int .u8 p.o.toNat, .int .u8 p.g.toNat, .string ⟨p.x.toArray⟩, .slice A n kk]) := Lib.hid (hp.alloc _)
  have HT0 : Hid (Blk (w.alloc (.cells #[.int .u8 0, .int .u8 0, .int .u8 0, .int .u8 0, .int .u8 0, .int .u8 0] 24)) c 73 #[.pointer (some ⟨b, 0, none⟩)]) := Lib.hid (hc.alloc _)
  have HC0 : Hid (Chg (only b) w (w.alloc (.cells #[.int .u8 0, .int .u8 0, .int .u8 0, .int .u8 0, .int .u8 0, .int .u8 0] 24))) := Lib.hid ((Chg.refl _ _).alloc _)
  have hbl : b < w.heap.size := Rdr.lt hr
  have hcl : c < w.heap.size := hc.lt
  have HL := Lib.hid (And.intro hbl hcl)
  clear hE hr hp hc hbl hcl
  unfold tlFv tlFb at KF
  have p4 := HP0.out.cell 4
  simp only [List.getElem?_toArray, List.getElem?_cons_succ, List.getElem?_cons_zero] at p4
  clear hn hl
  cases hf : tlF p.t k with
  | none =>
    rw [hf] at KF HPR HPB
    have HV : Hid (prR p.t k = A6.z ∧ prB p.t k = true) := Lib.hid ⟨HPR.out, HPB.out⟩
    clear hf HPR HPB
    simp only [Option.getD_none, Option.isSome_none] at KF
    rw [HV.out.1, if_pos HV.out.2, a6_z]
    clear HV
    go_enter Try.func52, Try.ntmps52
    go_wp2_with fail
    refine (KF.out _ HE0.out).mono ?_
    rintro r w1 ⟨rfl, hb1⟩
    have HZ1 := Lib.hid (HZ0.out.below hb1 HZ0.out.lt)
    have HQ1 : Hid (Rdr w1 b L er) := Lib.hid (Blk.below HQ0.out hb1 (Blk.lt HQ0.out))
    have HC1 : Hid (Chg (only b) w w1) := Lib.hid (HC0.out.trans (Chg.of_below hb1))
    clear hb1 p4 HZ0 HE0 HQ0 HP0 HT0 HC0 KF
    have c0 := HZ1.out.cell 0
    have c1 := HZ1.out.cell 1
    have c2 := HZ1.out.cell 2
    have c3 := HZ1.out.cell 3
    have c4 := HZ1.out.cell 4
    have c5 := HZ1.out.cell 5
    simp only [List.getElem?_toArray, List.getElem?_cons_succ, List.getElem?_cons_zero] at c0 c1 c2 c3 c4 c5
    have f0 := HZ1.out.frozen 0
    have f1 := HZ1.out.frozen 1
    have f2 := HZ1.out.frozen 2
    have f3 := HZ1.out.frozen 3
    have f4 := HZ1.out.frozen 4
    have f5 := HZ1.out.frozen 5
    go_wp2_with fail
    exact bodyPost_ret (v := .agg #[.int .u8 0, .int .u8 0, .int .u8 0, .int .u8 0, .int .u8 0, .int .u8 0]) (by simp [results, Try.results52, go_sem, c0, c1, c2, c3, c4, c5]) rfl ⟨rfl, put6_far HQ1.out (by have := HL.out; omega) _ _ _ _ _ _, put6_chg HC1.out (Nat.le_refl _) _ _ _ _ _ _⟩
  | some s =>
    rw [hf] at KF HPR HPB
    have HV : Hid (prR p.t k = tpA s ∧ prB p.t k = tpB s) := Lib.hid ⟨HPR.out, HPB.out⟩
    clear hf HPR HPB
    simp only [Option.getD_some, Option.isSome_some] at KF
    have K2 := Lib.hid (fun w => takeport_any s w)
    obtain ⟨m, hm⟩ : ∃ m, tpA s = m := ⟨_, rfl⟩
    obtain ⟨d, hd⟩ : ∃ m, tpB s = m := ⟨_, rfl⟩
    rw [hm, hd] at K2 HV
    rw [HV.out.1, HV.out.2]
    clear hm hd HV
    obtain ⟨e2, he2⟩ : ∃ x, (if d = true then er else bdE er) = x := ⟨_, rfl⟩
    rw [he2]
    have HE2 := Lib.hid he2
    clear he2
    go_enter Try.func52, Try.ntmps52
    go_wp2_with fail
    refine (KF.out _ HE0.out).mono ?_
    rintro r w1 ⟨rfl, hb1⟩
    have HZ1 := Lib.hid (HZ0.out.below hb1 HZ0.out.lt)
    have HT1 := Lib.hid (HT0.out.below hb1 HT0.out.lt)
    have HQ1 : Hid (Rdr w1 b L er) := Lib.hid (Blk.below HQ0.out hb1 (Blk.lt HQ0.out))
    have HC1 : Hid (Chg (only b) w w1) := Lib.hid (HC0.out.trans (Chg.of_below hb1))
    clear hb1 p4 HZ0 HE0 HQ0 HP0 HT0 HC0 KF
    go_wp2_with fail
    refine (K2.out _).mono ?_
    rintro r w2 ⟨rfl, hb2⟩
    have HZ2 := Lib.hid ((HZ1.out.below hb2 HZ1.out.lt).alloc (.cells #[.int .u8 m.a.toNat, .int .u8 m.b.toNat, .int .u8 m.c.toNat, .int .u8 m.d.toNat, .int .u8 m.e.toNat, .int .u8 m.f.toNat] 24))
    have HT2 := Lib.hid ((HT1.out.below hb2 HT1.out.lt).alloc (.cells #[.int .u8 m.a.toNat, .int .u8 m.b.toNat, .int .u8 m.c.toNat, .int .u8 m.d.toNat, .int .u8 m.e.toNat, .int .u8 m.f.toNat] 24))
    have HQ2 : Hid (Rdr (w2.alloc (.cells #[.int .u8 m.a.toNat, .int .u8 m.b.toNat, .int .u8 m.c.toNat, .int .u8 m.d.toNat, .int .u8 m.e.toNat, .int .u8 m.f.toNat] 24)) b L er) := Lib.hid (Blk.alloc (Blk.below HQ1.out hb2 (Blk.lt HQ1.out)) _)
    have HC2 : Hid (Chg (only b) w (w2.alloc (.cells #[.int .u8 m.a.toNat, .int .u8 m.b.toNat, .int .u8 m.c.toNat, .int .u8 m.d.toNat, .int .u8 m.e.toNat, .int .u8 m.f.toNat] 24))) := Lib.hid ((HC1.out.trans (Chg.of_below hb2)).alloc _)
    have HM2 := Lib.hid (Blk.new w2 24 #[.int .u8 m.a.toNat, .int .u8 m.b.toNat, .int .u8 m.c.toNat, .int .u8 m.d.toNat, .int .u8 m.e.toNat, .int .u8 m.f.toNat])
    have hlz : w.heap.size < w2.heap.size := (HZ1.out.below hb2 HZ1.out.lt).lt
    have hlb : b < w2.heap.size := Blk.lt (Blk.below HQ1.out hb2 (Blk.lt HQ1.out))
    have HLZ := Lib.hid (And.intro hlz hlb)
    clear hb2 HZ1 HT1 HQ1 HC1 K2 hlz hlb
    cases d
    · obtain rfl : bdE er = e2 := HE2.out
      have t0 := HT2.out.cell 0
      simp only [List.getElem?_toArray, List.getElem?_cons_succ, List.getElem?_cons_zero] at t0
      go_wp2_with fail
      refine (bad_any HQ2.out).mono ?_
      rintro r w3 ⟨rfl, hr3, hc3⟩
      have HQ3 := Lib.hid hr3
      have HZ3 : Hid (Blk w3 w.heap.size 24 #[.int .u8 0, .int .u8 0, .int .u8 0, .int .u8 0, .int .u8 0, .int .u8 0]) := Lib.hid (HZ2.out.chg hc3 (by have := HL.out; unfold only; omega))
      have HM3 : Hid (Blk w3 w2.heap.size 24 #[.int .u8 m.a.toNat, .int .u8 m.b.toNat, .int .u8 m.c.toNat, .int .u8 m.d.toNat, .int .u8 m.e.toNat, .int .u8 m.f.toNat]) := Lib.hid (HM2.out.chg hc3 (by have := HLZ.out; unfold only; omega))
      have HC3 : Hid (Chg (only b) w w3) := Lib.hid (HC2.out.trans hc3)
      clear hr3 hc3 HZ2 HT2 HQ2 HC2 HM2 t0
      have c0 := HZ3.out.cell 0
      have c1 := HZ3.out.cell 1
      have c2 := HZ3.out.cell 2
      have c3 := HZ3.out.cell 3
      have c4 := HZ3.out.cell 4
      have c5 := HZ3.out.cell 5
      simp only [List.getElem?_toArray, List.getElem?_cons_succ, List.getElem?_cons_zero] at c0 c1 c2 c3 c4 c5
      have f0 := HZ3.out.frozen 0
      have f1 := HZ3.out.frozen 1
      have f2 := HZ3.out.frozen 2
      have f3 := HZ3.out.frozen 3
      have f4 := HZ3.out.frozen 4
      have f5 := HZ3.out.frozen 5
      have y0 := HM3.out.cell 0
      have y1 := HM3.out.cell 1
      have y2 := HM3.out.cell 2
      have y3 := HM3.out.cell 3
      have y4 := HM3.out.cell 4
      have y5 := HM3.out.cell 5
      simp only [List.getElem?_toArray, List.getElem?_cons_succ, List.getElem?_cons_zero] at y0 y1 y2 y3 y4 y5
      go_wp2_with fail
      exact bodyPost_ret (v := A6V m) (by simp [results, Try.results52, go_sem, c0, c1, c2, c3, c4, c5]) rfl ⟨rfl, put6_far HQ3.out (by have := HL.out; omega) _ _ _ _ _ _, put6_chg HC3.out (Nat.le_refl _) _ _ _ _ _ _⟩
    · obtain rfl : er = e2 := HE2.out
      have c0 := HZ2.out.cell 0
      have c1 := HZ2.out.cell 1
      have c2 := HZ2.out.cell 2
      have c3 := HZ2.out.cell 3
      have c4 := HZ2.out.cell 4
      have c5 := HZ2.out.cell 5
      simp only [List.getElem?_toArray, List.getElem?_cons_succ, List.getElem?_cons_zero] at c0 c1 c2 c3 c4 c5
      have f0 := HZ2.out.frozen 0
      have f1 := HZ2.out.frozen 1
      have f2 := HZ2.out.frozen 2
      have f3 := HZ2.out.frozen 3
      have f4 := HZ2.out.frozen 4
      have f5 := HZ2.out.frozen 5
      have y0 := HM2.out.cell 0
      have y1 := HM2.out.cell 1
      have y2 := HM2.out.cell 2
      have y3 := HM2.out.cell 3
      have y4 := HM2.out.cell 4
      have y5 := HM2.out.cell 5
      simp only [List.getElem?_toArray, List.getElem?_cons_succ, List.getElem?_cons_zero] at y0 y1 y2 y3 y4 y5
      go_wp2_with fail
      exact bodyPost_ret (v := A6V m) (by simp [results, Try.results52, go_sem, c0, c1, c2, c3, c4, c5]) rfl ⟨rfl, put6_far HQ2.out (by have := HL.out; omega) _ _ _ _ _ _, put6_chg HC2.out (Nat.le_refl _) _ _ _ _ _ _⟩
end Go.Proofs.Ytieopgmmjpmflaa
