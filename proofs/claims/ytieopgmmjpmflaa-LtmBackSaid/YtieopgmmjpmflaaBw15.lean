/- Layer 15: LtmBack's walk, over the package's contracts. -/
import Derived.Test.YtieopgmmjpmflaaLaw15
import Derived.Test.YtieopgmmjpmflaaCfTk
import Derived.Deep.RegionHeld3
import Derived.Deep.DeepCutAuto
namespace Go.Proofs.Ytieopgmmjpmflaa
open Go.RowKit
set_option linter.unusedVariables false
set_option linter.unusedSimpArgs false
set_option maxRecDepth 100000

theorem ryP_small (r : Ry) : (ryP r).t.length ≤ 2 ∧ (ryP r).x.length ≤ 6 := by
  unfold ryP
  split
  · exact ⟨ryT_len r, by simp [ryS_len]⟩
  · simp [pd0]

set_option maxHeartbeats 8000000 in
theorem ltmback_long (HPC : LtPutC) (HTC : LtTakeC) (HQC : LtPutRC) (HUC : LtTakeRC) (W : World) (t : Tc) (r : Ry) (s : List UInt8) (hl : 1000 < s.length) :
    Calls Try.prog 4 #[TcV t, RyV r, .string ⟨s.toArray⟩] W fun e w' => e = .returned (.bool true) ∧ Below W.heap.size W w' := by
  have HP := Lib.hid HPC
  have HT := Lib.hid HTC
  have HQ := Lib.hid HQC
  have HU := Lib.hid HUC
  clear HPC HTC HQC HUC
  have HB0 : Hid (Below W.heap.size W ((W.alloc (.cells #[.int .u8 t.l.toNat, .int .u32 t.q.toNat, .int .u8 t.k.toNat, .int .u8 t.o.a.toNat, .int .u8 t.o.b.toNat, .int .u8 t.o.c.toNat, .int .u8 t.o.d.toNat, .int .u8 t.o.e.toNat, .int .u8 t.o.f.toNat, .int .u8 t.t.a.toNat, .int .u8 t.t.b.toNat, .int .u8 t.t.c.toNat, .int .u8 t.t.d.toNat, .int .u8 t.t.e.toNat, .int .u8 t.t.f.toNat] 35)).alloc (.cells #[.int .u8 r.l.toNat, .int .u32 r.q.toNat, .int .u8 r.k.toNat, .bool r.s, .bool r.e, .int .u8 r.i.a.toNat, .int .u8 r.i.b.toNat, .int .u8 r.i.c.toNat, .int .u8 r.i.d.toNat, .int .u8 r.i.e.toNat, .int .u8 r.i.f.toNat, .int .u8 r.u.a.toNat, .int .u8 r.u.b.toNat, .int .u8 r.u.c.toNat, .int .u8 r.u.d.toNat, .int .u8 r.u.e.toNat, .int .u8 r.u.f.toNat] 43))) := Lib.hid (((Below.refl _ _).alloc (Nat.le_refl _) _).alloc (by simp) _)
  have HKt0 : Hid (Blk ((W.alloc (.cells #[.int .u8 t.l.toNat, .int .u32 t.q.toNat, .int .u8 t.k.toNat, .int .u8 t.o.a.toNat, .int .u8 t.o.b.toNat, .int .u8 t.o.c.toNat, .int .u8 t.o.d.toNat, .int .u8 t.o.e.toNat, .int .u8 t.o.f.toNat, .int .u8 t.t.a.toNat, .int .u8 t.t.b.toNat, .int .u8 t.t.c.toNat, .int .u8 t.t.d.toNat, .int .u8 t.t.e.toNat, .int .u8 t.t.f.toNat] 35)).alloc (.cells #[.int .u8 r.l.toNat, .int .u32 r.q.toNat, .int .u8 r.k.toNat, .bool r.s, .bool r.e, .int .u8 r.i.a.toNat, .int .u8 r.i.b.toNat, .int .u8 r.i.c.toNat, .int .u8 r.i.d.toNat, .int .u8 r.i.e.toNat, .int .u8 r.i.f.toNat, .int .u8 r.u.a.toNat, .int .u8 r.u.b.toNat, .int .u8 r.u.c.toNat, .int .u8 r.u.d.toNat, .int .u8 r.u.e.toNat, .int .u8 r.u.f.toNat] 43)) W.heap.size 35 #[.int .u8 t.l.toNat, .int .u32 t.q.toNat, .int .u8 t.k.toNat, .int .u8 t.o.a.toNat, .int .u8 t.o.b.toNat, .int .u8 t.o.c.toNat, .int .u8 t.o.d.toNat, .int .u8 t.o.e.toNat, .int .u8 t.o.f.toNat, .int .u8 t.t.a.toNat, .int .u8 t.t.b.toNat, .int .u8 t.t.c.toNat, .int .u8 t.t.d.toNat, .int .u8 t.t.e.toNat, .int .u8 t.t.f.toNat]) := Lib.hid ((Blk.new _ _ _).alloc _)
  have HKr0 : Hid (Blk ((W.alloc (.cells #[.int .u8 t.l.toNat, .int .u32 t.q.toNat, .int .u8 t.k.toNat, .int .u8 t.o.a.toNat, .int .u8 t.o.b.toNat, .int .u8 t.o.c.toNat, .int .u8 t.o.d.toNat, .int .u8 t.o.e.toNat, .int .u8 t.o.f.toNat, .int .u8 t.t.a.toNat, .int .u8 t.t.b.toNat, .int .u8 t.t.c.toNat, .int .u8 t.t.d.toNat, .int .u8 t.t.e.toNat, .int .u8 t.t.f.toNat] 35)).alloc (.cells #[.int .u8 r.l.toNat, .int .u32 r.q.toNat, .int .u8 r.k.toNat, .bool r.s, .bool r.e, .int .u8 r.i.a.toNat, .int .u8 r.i.b.toNat, .int .u8 r.i.c.toNat, .int .u8 r.i.d.toNat, .int .u8 r.i.e.toNat, .int .u8 r.i.f.toNat, .int .u8 r.u.a.toNat, .int .u8 r.u.b.toNat, .int .u8 r.u.c.toNat, .int .u8 r.u.d.toNat, .int .u8 r.u.e.toNat, .int .u8 r.u.f.toNat] 43)) (W.heap.size + 1) 43 #[.int .u8 r.l.toNat, .int .u32 r.q.toNat, .int .u8 r.k.toNat, .bool r.s, .bool r.e, .int .u8 r.i.a.toNat, .int .u8 r.i.b.toNat, .int .u8 r.i.c.toNat, .int .u8 r.i.d.toNat, .int .u8 r.i.e.toNat, .int .u8 r.i.f.toNat, .int .u8 r.u.a.toNat, .int .u8 r.u.b.toNat, .int .u8 r.u.c.toNat, .int .u8 r.u.d.toNat, .int .u8 r.u.e.toNat, .int .u8 r.u.f.toNat]) := Lib.hid (by
    have := Blk.new (W.alloc (.cells #[.int .u8 t.l.toNat, .int .u32 t.q.toNat, .int .u8 t.k.toNat, .int .u8 t.o.a.toNat, .int .u8 t.o.b.toNat, .int .u8 t.o.c.toNat, .int .u8 t.o.d.toNat, .int .u8 t.o.e.toNat, .int .u8 t.o.f.toNat, .int .u8 t.t.a.toNat, .int .u8 t.t.b.toNat, .int .u8 t.t.c.toNat, .int .u8 t.t.d.toNat, .int .u8 t.t.e.toNat, .int .u8 t.t.f.toNat] 35)) 43 #[.int .u8 r.l.toNat, .int .u32 r.q.toNat, .int .u8 r.k.toNat, .bool r.s, .bool r.e, .int .u8 r.i.a.toNat, .int .u8 r.i.b.toNat, .int .u8 r.i.c.toNat, .int .u8 r.i.d.toNat, .int .u8 r.i.e.toNat, .int .u8 r.i.f.toNat, .int .u8 r.u.a.toNat, .int .u8 r.u.b.toNat, .int .u8 r.u.c.toNat, .int .u8 r.u.d.toNat, .int .u8 r.u.e.toNat, .int .u8 r.u.f.toNat]
    simpa using this)
  have p0 : (1000 : Int) < (s.length : Int) := by omega
  clear hl
  go_enter Try.func4, Try.ntmps4
  go_wp2_with fail
  refine (wakes15 HP.out HT.out HQ.out HU.out _).mono ?_
  rintro r w1 ⟨rfl, hb1⟩
  have HB1 : Hid (Below W.heap.size W w1) := Lib.hid (HB0.out.trans (hb1.mono HB0.out.size))
  clear hb1 HB0
  go_wp2
  go_ret
  exact ⟨rfl, HB1.out⟩

set_option maxHeartbeats 8000000 in
theorem ltmback_11 (HPC : LtPutC) (HTC : LtTakeC) (HQC : LtPutRC) (HUC : LtTakeRC) (W : World) (t : Tc) (r : Ry) (s : List UInt8) (hl : ¬ 1000 < s.length) (h1 : tcE t = 0) (h2 : ryE r = 0) :
    Calls Try.prog 4 #[TcV t, RyV r, .string ⟨s.toArray⟩] W fun e w' => e = .returned (.bool true) ∧ Below W.heap.size W w' := by
  have HP := Lib.hid HPC
  have HT := Lib.hid HTC
  have HQ := Lib.hid HQC
  have HU := Lib.hid HUC
  clear HPC HTC HQC HUC
  have HB0 : Hid (Below W.heap.size W ((W.alloc (.cells #[.int .u8 t.l.toNat, .int .u32 t.q.toNat, .int .u8 t.k.toNat, .int .u8 t.o.a.toNat, .int .u8 t.o.b.toNat, .int .u8 t.o.c.toNat, .int .u8 t.o.d.toNat, .int .u8 t.o.e.toNat, .int .u8 t.o.f.toNat, .int .u8 t.t.a.toNat, .int .u8 t.t.b.toNat, .int .u8 t.t.c.toNat, .int .u8 t.t.d.toNat, .int .u8 t.t.e.toNat, .int .u8 t.t.f.toNat] 35)).alloc (.cells #[.int .u8 r.l.toNat, .int .u32 r.q.toNat, .int .u8 r.k.toNat, .bool r.s, .bool r.e, .int .u8 r.i.a.toNat, .int .u8 r.i.b.toNat, .int .u8 r.i.c.toNat, .int .u8 r.i.d.toNat, .int .u8 r.i.e.toNat, .int .u8 r.i.f.toNat, .int .u8 r.u.a.toNat, .int .u8 r.u.b.toNat, .int .u8 r.u.c.toNat, .int .u8 r.u.d.toNat, .int .u8 r.u.e.toNat, .int .u8 r.u.f.toNat] 43))) := Lib.hid (((Below.refl _ _).alloc (Nat.le_refl _) _).alloc (by simp) _)
  have HKt0 : Hid (Blk ((W.alloc (.cells #[.int .u8 t.l.toNat, .int .u32 t.q.toNat, .int .u8 t.k.toNat, .int .u8 t.o.a.toNat, .int .u8 t.o.b.toNat, .int .u8 t.o.c.toNat, .int .u8 t.o.d.toNat, .int .u8 t.o.e.toNat, .int .u8 t.o.f.toNat, .int .u8 t.t.a.toNat, .int .u8 t.t.b.toNat, .int .u8 t.t.c.toNat, .int .u8 t.t.d.toNat, .int .u8 t.t.e.toNat, .int .u8 t.t.f.toNat] 35)).alloc (.cells #[.int .u8 r.l.toNat, .int .u32 r.q.toNat, .int .u8 r.k.toNat, .bool r.s, .bool r.e, .int .u8 r.i.a.toNat, .int .u8 r.i.b.toNat, .int .u8 r.i.c.toNat, .int .u8 r.i.d.toNat, .int .u8 r.i.e.toNat, .int .u8 r.i.f.toNat, .int .u8 r.u.a.toNat, .int .u8 r.u.b.toNat, .int .u8 r.u.c.toNat, .int .u8 r.u.d.toNat, .int .u8 r.u.e.toNat, .int .u8 r.u.f.toNat] 43)) W.heap.size 35 #[.int .u8 t.l.toNat, .int .u32 t.q.toNat, .int .u8 t.k.toNat, .int .u8 t.o.a.toNat, .int .u8 t.o.b.toNat, .int .u8 t.o.c.toNat, .int .u8 t.o.d.toNat, .int .u8 t.o.e.toNat, .int .u8 t.o.f.toNat, .int .u8 t.t.a.toNat, .int .u8 t.t.b.toNat, .int .u8 t.t.c.toNat, .int .u8 t.t.d.toNat, .int .u8 t.t.e.toNat, .int .u8 t.t.f.toNat]) := Lib.hid ((Blk.new _ _ _).alloc _)
  have HKr0 : Hid (Blk ((W.alloc (.cells #[.int .u8 t.l.toNat, .int .u32 t.q.toNat, .int .u8 t.k.toNat, .int .u8 t.o.a.toNat, .int .u8 t.o.b.toNat, .int .u8 t.o.c.toNat, .int .u8 t.o.d.toNat, .int .u8 t.o.e.toNat, .int .u8 t.o.f.toNat, .int .u8 t.t.a.toNat, .int .u8 t.t.b.toNat, .int .u8 t.t.c.toNat, .int .u8 t.t.d.toNat, .int .u8 t.t.e.toNat, .int .u8 t.t.f.toNat] 35)).alloc (.cells #[.int .u8 r.l.toNat, .int .u32 r.q.toNat, .int .u8 r.k.toNat, .bool r.s, .bool r.e, .int .u8 r.i.a.toNat, .int .u8 r.i.b.toNat, .int .u8 r.i.c.toNat, .int .u8 r.i.d.toNat, .int .u8 r.i.e.toNat, .int .u8 r.i.f.toNat, .int .u8 r.u.a.toNat, .int .u8 r.u.b.toNat, .int .u8 r.u.c.toNat, .int .u8 r.u.d.toNat, .int .u8 r.u.e.toNat, .int .u8 r.u.f.toNat] 43)) (W.heap.size + 1) 43 #[.int .u8 r.l.toNat, .int .u32 r.q.toNat, .int .u8 r.k.toNat, .bool r.s, .bool r.e, .int .u8 r.i.a.toNat, .int .u8 r.i.b.toNat, .int .u8 r.i.c.toNat, .int .u8 r.i.d.toNat, .int .u8 r.i.e.toNat, .int .u8 r.i.f.toNat, .int .u8 r.u.a.toNat, .int .u8 r.u.b.toNat, .int .u8 r.u.c.toNat, .int .u8 r.u.d.toNat, .int .u8 r.u.e.toNat, .int .u8 r.u.f.toNat]) := Lib.hid (by
    have := Blk.new (W.alloc (.cells #[.int .u8 t.l.toNat, .int .u32 t.q.toNat, .int .u8 t.k.toNat, .int .u8 t.o.a.toNat, .int .u8 t.o.b.toNat, .int .u8 t.o.c.toNat, .int .u8 t.o.d.toNat, .int .u8 t.o.e.toNat, .int .u8 t.o.f.toNat, .int .u8 t.t.a.toNat, .int .u8 t.t.b.toNat, .int .u8 t.t.c.toNat, .int .u8 t.t.d.toNat, .int .u8 t.t.e.toNat, .int .u8 t.t.f.toNat] 35)) 43 #[.int .u8 r.l.toNat, .int .u32 r.q.toNat, .int .u8 r.k.toNat, .bool r.s, .bool r.e, .int .u8 r.i.a.toNat, .int .u8 r.i.b.toNat, .int .u8 r.i.c.toNat, .int .u8 r.i.d.toNat, .int .u8 r.i.e.toNat, .int .u8 r.i.f.toNat, .int .u8 r.u.a.toNat, .int .u8 r.u.b.toNat, .int .u8 r.u.c.toNat, .int .u8 r.u.d.toNat, .int .u8 r.u.e.toNat, .int .u8 r.u.f.toNat]
    simpa using this)
  have p0 : ¬ (1000 : Int) < (s.length : Int) := by omega
  have HSL := Lib.hid (show s.length ≤ 1000 by omega)
  have KP := Lib.hid (fun w => HP.out t w)
  have KQ := Lib.hid (fun w => HQ.out r w)
  have hpt : (tcP t).t = [] := by unfold tcP; split <;> rfl
  have hqt : (ryP r).t.length ≤ 2 ∧ (ryP r).x.length ≤ 6 := ryP_small r
  have HTE := Lib.hid (@tcE_is t)
  have HRE := Lib.hid (@ryE_is r)
  have HTB := Lib.hid (fun h => @tc_back t h)
  have HTN := Lib.hid (fun h => @tc_noReply t h)
  have HTL := Lib.hid (fun h => @tc_lv t h)
  have HTP := Lib.hid (fun h => @tc_pd t h)
  have HRB := Lib.hid (fun h => @ry_back r h)
  have HRN := Lib.hid (fun h => @ry_noTrace r h)
  have HRL := Lib.hid (fun h => @ry_lv r h)
  have HRP := Lib.hid (fun h => @ry_pd r h)
  obtain ⟨P, hP⟩ : ∃ P, tcP t = P := ⟨_, rfl⟩
  obtain ⟨Q, hQ⟩ : ∃ P, ryP r = P := ⟨_, rfl⟩
  obtain ⟨E, hE⟩ : ∃ E, tcE t = E := ⟨_, rfl⟩
  obtain ⟨G, hG⟩ : ∃ E, ryE r = E := ⟨_, rfl⟩
  have hE0 := hE
  have hG0 := hG
  rw [hP, hE] at KP
  rw [hQ, hG] at KQ
  rw [hP] at hpt HTB HTN HTP HTL
  rw [hQ] at hqt HRB HRN HRP HRL
  rw [hE] at HTE HTB HTN HTP HTL
  rw [hG] at HRE HRB HRN HRP HRL
  have hlen : P.t.length = 0 := by rw [hpt]; rfl
  have HPT := Lib.hid hpt
  have HPN := Lib.hid hlen
  have HQT := Lib.hid hqt
  obtain ⟨n2, hn2⟩ : ∃ n, Q.t.length = n := ⟨_, rfl⟩
  have HN2 := Lib.hid hn2
  simp only [PdV, hlen] at KP
  simp only [PdV, hn2] at KQ
  have qt : ∀ w : World, (Op.equalIn 10000 35 (.agg #[.int .u8 t.l.toNat, .int .u32 t.q.toNat, .int .u8 t.k.toNat, .int .u8 t.o.a.toNat, .int .u8 t.o.b.toNat, .int .u8 t.o.c.toNat, .int .u8 t.o.d.toNat, .int .u8 t.o.e.toNat, .int .u8 t.o.f.toNat, .int .u8 t.t.a.toNat, .int .u8 t.t.b.toNat, .int .u8 t.t.c.toNat, .int .u8 t.t.d.toNat, .int .u8 t.t.e.toNat, .int .u8 t.t.f.toNat]) (.agg #[.int .u8 t.l.toNat, .int .u32 t.q.toNat, .int .u8 t.k.toNat, .int .u8 t.o.a.toNat, .int .u8 t.o.b.toNat, .int .u8 t.o.c.toNat, .int .u8 t.o.d.toNat, .int .u8 t.o.e.toNat, .int .u8 t.o.f.toNat, .int .u8 t.t.a.toNat, .int .u8 t.t.b.toNat, .int .u8 t.t.c.toNat, .int .u8 t.t.d.toNat, .int .u8 t.t.e.toNat, .int .u8 t.t.f.toNat])).run Try.prog w = .ok true w := fun w => by
    have := run_eqTc t t w
    simp only [decide_true] at this
    exact this
  have qr : ∀ w : World, (Op.equalIn 10000 43 (.agg #[.int .u8 r.l.toNat, .int .u32 r.q.toNat, .int .u8 r.k.toNat, .bool r.s, .bool r.e, .int .u8 r.i.a.toNat, .int .u8 r.i.b.toNat, .int .u8 r.i.c.toNat, .int .u8 r.i.d.toNat, .int .u8 r.i.e.toNat, .int .u8 r.i.f.toNat, .int .u8 r.u.a.toNat, .int .u8 r.u.b.toNat, .int .u8 r.u.c.toNat, .int .u8 r.u.d.toNat, .int .u8 r.u.e.toNat, .int .u8 r.u.f.toNat]) (.agg #[.int .u8 r.l.toNat, .int .u32 r.q.toNat, .int .u8 r.k.toNat, .bool r.s, .bool r.e, .int .u8 r.i.a.toNat, .int .u8 r.i.b.toNat, .int .u8 r.i.c.toNat, .int .u8 r.i.d.toNat, .int .u8 r.i.e.toNat, .int .u8 r.i.f.toNat, .int .u8 r.u.a.toNat, .int .u8 r.u.b.toNat, .int .u8 r.u.c.toNat, .int .u8 r.u.d.toNat, .int .u8 r.u.e.toNat, .int .u8 r.u.f.toNat])).run Try.prog w = .ok true w := fun w => by
    have := run_eqRy r r w
    simp only [decide_true] at this
    exact this
  have QT := Lib.hid qt
  have QR := Lib.hid qr
  clear hl hpt hqt hP hQ hE hG hlen hn2 qt qr
  rw [hE0] at h1
  rw [hG0] at h2
  clear hE0 hG0
  subst h1
  have pt : (t.l.toNat : Int) < 8 := by have := HTE.out.1 rfl; omega
  have hPD := HTP.out rfl
  have hbk := cf_back hPD s
  have hvl := pdP_len P
  have hp0 := HPN.out
  have hpx : P.x.length ≤ 255 := (pdE_ok hPD).2.1
  have KC := Lib.hid (fun A k w => cfput_any A k P w (by rw [HPT.out]; exact els_nilL _ _) (by omega))
  obtain ⟨V, hV⟩ : ∃ V, pdP P = V := ⟨_, rfl⟩
  rw [hV] at hbk hvl
  rw [hV, hPD] at KC
  obtain ⟨Z, hZ⟩ : ∃ Z, V ++ s = Z := ⟨_, rfl⟩
  rw [hZ] at hbk
  have KZ := Lib.hid (fun w => cftake_any Z w (by rw [← hZ, List.length_append]; have := HSL.out; omega))
  rw [hbk.1, hbk.2] at KZ
  have KT := Lib.hid (fun A k w => HT.out A k P w (by rw [HPT.out]; exact els_nilL _ _) (by omega) (by omega) (HTL.out rfl).1 (HTL.out rfl).2)
  rw [(HTB.out rfl).1, (HTB.out rfl).2] at KT
  have KU := Lib.hid (fun A k w => HU.out A k P w (by rw [HPT.out]; exact els_nilL _ _) (by omega) (by omega) (HTL.out rfl).1)
  rw [HTN.out rfl] at KU
  obtain ⟨Y, hY⟩ : ∃ Y, ryX P = Y := ⟨_, rfl⟩
  rw [hY] at KU
  simp only [PdV, HPN.out] at KC KZ KT KU
  have a1 : ∀ w : World, (Op.stringOp .add ⟨V.toArray⟩ ⟨s.toArray⟩).run Try.prog w = .ok (.string ⟨Z.toArray⟩) w := fun w => by rw [← hZ]; exact run_string_add_lists w V s (by omega) (by have := HSL.out; omega)
  clear hPD hbk hvl hp0 hpx hV hZ hY
  subst h2
  have pr : (r.l.toNat : Int) < 8 := by have := HRE.out.1 rfl; omega
  have hPD2 := HRP.out rfl
  have hbk2 := cf_back hPD2 s
  have hvl2 := pdP_len Q
  have hqq := HQT.out
  have KC2 := Lib.hid (fun A k w h => cfput_any A k Q w h (by omega))
  obtain ⟨V2, hV2⟩ : ∃ V, pdP Q = V := ⟨_, rfl⟩
  rw [hV2] at hbk2 hvl2
  rw [hV2, hPD2] at KC2
  obtain ⟨Z2, hZ2⟩ : ∃ Z, V2 ++ s = Z := ⟨_, rfl⟩
  rw [hZ2] at hbk2
  have KZ2 := Lib.hid (fun w => cftake_any Z2 w (by rw [← hZ2, List.length_append]; have := HSL.out; omega))
  rw [hbk2.1, hbk2.2] at KZ2
  have KU2 := Lib.hid (fun A k w h => HU.out A k Q w h (by omega) (by omega) (HRL.out rfl).1)
  rw [(HRB.out rfl).1, (HRB.out rfl).2] at KU2
  have KT2 := Lib.hid (fun A k w h => HT.out A k Q w h (by omega) (by omega) (HRL.out rfl).1 (HRL.out rfl).2)
  rw [HRN.out rfl] at KT2
  obtain ⟨Y2, hY2⟩ : ∃ Y, tcX Q = Y := ⟨_, rfl⟩
  rw [hY2] at KT2
  simp only [PdV, HN2.out] at KC2 KZ2 KU2 KT2
  have a2 : ∀ w : World, (Op.stringOp .add ⟨V2.toArray⟩ ⟨s.toArray⟩).run Try.prog w = .ok (.string ⟨Z2.toArray⟩) w := fun w => by rw [← hZ2]; exact run_string_add_lists w V2 s (by omega) (by have := HSL.out; omega)
  clear hPD2 hbk2 hvl2 hqq hV2 hZ2 hY2
  go_enter Try.func4, Try.ntmps4
  go_wp2_with (first
    | (refine wpList_load_cs 35 3 rfl (by kernel_rfl) W.heap.size 35 #[.int .u8 t.l.toNat, .int .u32 t.q.toNat, .int .u8 t.k.toNat, .int .u8 t.o.a.toNat, .int .u8 t.o.b.toNat, .int .u8 t.o.c.toNat, .int .u8 t.o.d.toNat, .int .u8 t.o.e.toNat, .int .u8 t.o.f.toNat, .int .u8 t.t.a.toNat, .int .u8 t.t.b.toNat, .int .u8 t.t.c.toNat, .int .u8 t.t.d.toNat, .int .u8 t.t.e.toNat, .int .u8 t.t.f.toNat] _ rfl HKt0.out Try.underlying35 rfl (by kernel_rfl) ?_))
  refine (KP.out _).mono ?_
  rintro r w1 ⟨A1, k1, rfl, hz, hb1⟩
  have HB1 : Hid (Below W.heap.size W w1) := Lib.hid (HB0.out.trans (hb1.mono HB0.out.size))
  have HKt1 := Lib.hid (HKt0.out.below hb1 HKt0.out.lt)
  have HKr1 := Lib.hid (HKr0.out.below hb1 HKr0.out.lt)
  clear hb1 HB0 HKt0 HKr0
  clear hz
  have HG7 : Hid (W.heap.size + 1 < w1.heap.size) := Lib.hid HKr1.out.lt
  have HB2 : Hid (Below W.heap.size W (w1.alloc (.cells #[.int .u8 P.l.toNat, .int .u8 P.o.toNat, .int .u8 P.g.toNat, .string ⟨P.x.toArray⟩, .slice A1 0 k1] 31))) := Lib.hid (HB1.out.alloc HB1.out.size _)
  have HKt2 := Lib.hid (HKt1.out.alloc (.cells #[.int .u8 P.l.toNat, .int .u8 P.o.toNat, .int .u8 P.g.toNat, .string ⟨P.x.toArray⟩, .slice A1 0 k1] 31))
  have HKr2 := Lib.hid (HKr1.out.alloc (.cells #[.int .u8 P.l.toNat, .int .u8 P.o.toNat, .int .u8 P.g.toNat, .string ⟨P.x.toArray⟩, .slice A1 0 k1] 31))
  have HM2 := Lib.hid (Blk.new w1 31 #[.int .u8 P.l.toNat, .int .u8 P.o.toNat, .int .u8 P.g.toNat, .string ⟨P.x.toArray⟩, .slice A1 0 k1])
  clear HB1 HKt1 HKr1
  have t0 := HKt2.out.cell 0
  simp only [List.getElem?_toArray, List.getElem?_cons_succ, List.getElem?_cons_zero] at t0
  have a0 := HM2.out.cell 0
  have a1 := HM2.out.cell 1
  have a2 := HM2.out.cell 2
  have a3 := HM2.out.cell 3
  have a4 := HM2.out.cell 4
  simp only [List.getElem?_toArray, List.getElem?_cons_succ, List.getElem?_cons_zero] at a0 a1 a2 a3 a4
  go_wp2_with fail
  refine (KC.out _ _ _).mono ?_
  rintro r w3 ⟨rfl, hb3⟩
  have HB3 : Hid (Below W.heap.size W w3) := Lib.hid (HB2.out.trans (hb3.mono HB2.out.size))
  have HKt3 := Lib.hid (HKt2.out.below hb3 HKt2.out.lt)
  have HKr3 := Lib.hid (HKr2.out.below hb3 HKr2.out.lt)
  have HM3 := Lib.hid (HM2.out.below hb3 HM2.out.lt)
  clear hb3 HB2 HKt2 HKr2 HM2
  clear a0 a1 a2 a3 a4
  clear t0
  go_wp2_with fail
  refine (KZ.out _).mono ?_
  rintro r w4 ⟨A3, k3, rfl, _, hz, hb4⟩
  have HB4 : Hid (Below W.heap.size W w4) := Lib.hid (HB3.out.trans (hb4.mono HB3.out.size))
  have HKt4 := Lib.hid (HKt3.out.below hb4 HKt3.out.lt)
  have HKr4 := Lib.hid (HKr3.out.below hb4 HKr3.out.lt)
  have HM4 := Lib.hid (HM3.out.below hb4 HM3.out.lt)
  clear hb4 HB3 HKt3 HKr3 HM3
  clear hz
  have HB5 : Hid (Below W.heap.size W (w4.alloc (.cells #[.int .u8 P.l.toNat, .int .u8 P.o.toNat, .int .u8 P.g.toNat, .string ⟨P.x.toArray⟩, .slice A3 0 k3] 31))) := Lib.hid (HB4.out.alloc HB4.out.size _)
  have HKt5 := Lib.hid (HKt4.out.alloc (.cells #[.int .u8 P.l.toNat, .int .u8 P.o.toNat, .int .u8 P.g.toNat, .string ⟨P.x.toArray⟩, .slice A3 0 k3] 31))
  have HKr5 := Lib.hid (HKr4.out.alloc (.cells #[.int .u8 P.l.toNat, .int .u8 P.o.toNat, .int .u8 P.g.toNat, .string ⟨P.x.toArray⟩, .slice A3 0 k3] 31))
  have HM5 := Lib.hid (HM4.out.alloc (.cells #[.int .u8 P.l.toNat, .int .u8 P.o.toNat, .int .u8 P.g.toNat, .string ⟨P.x.toArray⟩, .slice A3 0 k3] 31))
  have HN5 := Lib.hid (Blk.new w4 31 #[.int .u8 P.l.toNat, .int .u8 P.o.toNat, .int .u8 P.g.toNat, .string ⟨P.x.toArray⟩, .slice A3 0 k3])
  clear HB4 HKt4 HKr4 HM4
  have a0 := HN5.out.cell 0
  have a1 := HN5.out.cell 1
  have a2 := HN5.out.cell 2
  have a3 := HN5.out.cell 3
  have a4 := HN5.out.cell 4
  simp only [List.getElem?_toArray, List.getElem?_cons_succ, List.getElem?_cons_zero] at a0 a1 a2 a3 a4
  go_wp2_with fail
  refine (KT.out _ _ _).mono ?_
  rintro r w6 ⟨rfl, hb6⟩
  have HB6 : Hid (Below W.heap.size W w6) := Lib.hid (HB5.out.trans (hb6.mono HB5.out.size))
  have HKt6 := Lib.hid (HKt5.out.below hb6 HKt5.out.lt)
  have HKr6 := Lib.hid (HKr5.out.below hb6 HKr5.out.lt)
  have HM6 := Lib.hid (HM5.out.below hb6 HM5.out.lt)
  have HN6 := Lib.hid (HN5.out.below hb6 HN5.out.lt)
  clear hb6 HB5 HKt5 HKr5 HM5 HN5
  clear a0 a1 a2 a3 a4
  have HB7 : Hid (Below W.heap.size W (w6.alloc (.cells #[.int .u8 t.l.toNat, .int .u32 t.q.toNat, .int .u8 t.k.toNat, .int .u8 t.o.a.toNat, .int .u8 t.o.b.toNat, .int .u8 t.o.c.toNat, .int .u8 t.o.d.toNat, .int .u8 t.o.e.toNat, .int .u8 t.o.f.toNat, .int .u8 t.t.a.toNat, .int .u8 t.t.b.toNat, .int .u8 t.t.c.toNat, .int .u8 t.t.d.toNat, .int .u8 t.t.e.toNat, .int .u8 t.t.f.toNat] 35))) := Lib.hid (HB6.out.alloc HB6.out.size _)
  have HKt7 := Lib.hid (HKt6.out.alloc (.cells #[.int .u8 t.l.toNat, .int .u32 t.q.toNat, .int .u8 t.k.toNat, .int .u8 t.o.a.toNat, .int .u8 t.o.b.toNat, .int .u8 t.o.c.toNat, .int .u8 t.o.d.toNat, .int .u8 t.o.e.toNat, .int .u8 t.o.f.toNat, .int .u8 t.t.a.toNat, .int .u8 t.t.b.toNat, .int .u8 t.t.c.toNat, .int .u8 t.t.d.toNat, .int .u8 t.t.e.toNat, .int .u8 t.t.f.toNat] 35))
  have HKr7 := Lib.hid (HKr6.out.alloc (.cells #[.int .u8 t.l.toNat, .int .u32 t.q.toNat, .int .u8 t.k.toNat, .int .u8 t.o.a.toNat, .int .u8 t.o.b.toNat, .int .u8 t.o.c.toNat, .int .u8 t.o.d.toNat, .int .u8 t.o.e.toNat, .int .u8 t.o.f.toNat, .int .u8 t.t.a.toNat, .int .u8 t.t.b.toNat, .int .u8 t.t.c.toNat, .int .u8 t.t.d.toNat, .int .u8 t.t.e.toNat, .int .u8 t.t.f.toNat] 35))
  have HM7 := Lib.hid (HM6.out.alloc (.cells #[.int .u8 t.l.toNat, .int .u32 t.q.toNat, .int .u8 t.k.toNat, .int .u8 t.o.a.toNat, .int .u8 t.o.b.toNat, .int .u8 t.o.c.toNat, .int .u8 t.o.d.toNat, .int .u8 t.o.e.toNat, .int .u8 t.o.f.toNat, .int .u8 t.t.a.toNat, .int .u8 t.t.b.toNat, .int .u8 t.t.c.toNat, .int .u8 t.t.d.toNat, .int .u8 t.t.e.toNat, .int .u8 t.t.f.toNat] 35))
  have HN7 := Lib.hid (HN6.out.alloc (.cells #[.int .u8 t.l.toNat, .int .u32 t.q.toNat, .int .u8 t.k.toNat, .int .u8 t.o.a.toNat, .int .u8 t.o.b.toNat, .int .u8 t.o.c.toNat, .int .u8 t.o.d.toNat, .int .u8 t.o.e.toNat, .int .u8 t.o.f.toNat, .int .u8 t.t.a.toNat, .int .u8 t.t.b.toNat, .int .u8 t.t.c.toNat, .int .u8 t.t.d.toNat, .int .u8 t.t.e.toNat, .int .u8 t.t.f.toNat] 35))
  have HX7 := Lib.hid (Blk.new w6 35 #[.int .u8 t.l.toNat, .int .u32 t.q.toNat, .int .u8 t.k.toNat, .int .u8 t.o.a.toNat, .int .u8 t.o.b.toNat, .int .u8 t.o.c.toNat, .int .u8 t.o.d.toNat, .int .u8 t.o.e.toNat, .int .u8 t.o.f.toNat, .int .u8 t.t.a.toNat, .int .u8 t.t.b.toNat, .int .u8 t.t.c.toNat, .int .u8 t.t.d.toNat, .int .u8 t.t.e.toNat, .int .u8 t.t.f.toNat])
  clear HB6 HKt6 HKr6 HM6 HN6
  have a0 := HN7.out.cell 0
  have a1 := HN7.out.cell 1
  have a2 := HN7.out.cell 2
  have a3 := HN7.out.cell 3
  have a4 := HN7.out.cell 4
  simp only [List.getElem?_toArray, List.getElem?_cons_succ, List.getElem?_cons_zero] at a0 a1 a2 a3 a4
  go_wp2_with fail
  refine (KU.out _ _ _).mono ?_
  rintro r w8 ⟨rfl, hb8⟩
  have HB8 : Hid (Below W.heap.size W w8) := Lib.hid (HB7.out.trans (hb8.mono HB7.out.size))
  have HKt8 := Lib.hid (HKt7.out.below hb8 HKt7.out.lt)
  have HKr8 := Lib.hid (HKr7.out.below hb8 HKr7.out.lt)
  have HM8 := Lib.hid (HM7.out.below hb8 HM7.out.lt)
  have HN8 := Lib.hid (HN7.out.below hb8 HN7.out.lt)
  have HX8 := Lib.hid (HX7.out.below hb8 HX7.out.lt)
  clear hb8 HB7 HKt7 HKr7 HM7 HN7 HX7
  clear a0 a1 a2 a3 a4
  clear HN8
  have HB9 : Hid (Below W.heap.size W (w8.alloc (.cells #[.int .u8 Y.l.toNat, .int .u32 Y.q.toNat, .int .u8 Y.k.toNat, .bool Y.s, .bool Y.e, .int .u8 Y.i.a.toNat, .int .u8 Y.i.b.toNat, .int .u8 Y.i.c.toNat, .int .u8 Y.i.d.toNat, .int .u8 Y.i.e.toNat, .int .u8 Y.i.f.toNat, .int .u8 Y.u.a.toNat, .int .u8 Y.u.b.toNat, .int .u8 Y.u.c.toNat, .int .u8 Y.u.d.toNat, .int .u8 Y.u.e.toNat, .int .u8 Y.u.f.toNat] 43))) := Lib.hid (HB8.out.alloc HB8.out.size _)
  have HKt9 := Lib.hid (HKt8.out.alloc (.cells #[.int .u8 Y.l.toNat, .int .u32 Y.q.toNat, .int .u8 Y.k.toNat, .bool Y.s, .bool Y.e, .int .u8 Y.i.a.toNat, .int .u8 Y.i.b.toNat, .int .u8 Y.i.c.toNat, .int .u8 Y.i.d.toNat, .int .u8 Y.i.e.toNat, .int .u8 Y.i.f.toNat, .int .u8 Y.u.a.toNat, .int .u8 Y.u.b.toNat, .int .u8 Y.u.c.toNat, .int .u8 Y.u.d.toNat, .int .u8 Y.u.e.toNat, .int .u8 Y.u.f.toNat] 43))
  have HKr9 := Lib.hid (HKr8.out.alloc (.cells #[.int .u8 Y.l.toNat, .int .u32 Y.q.toNat, .int .u8 Y.k.toNat, .bool Y.s, .bool Y.e, .int .u8 Y.i.a.toNat, .int .u8 Y.i.b.toNat, .int .u8 Y.i.c.toNat, .int .u8 Y.i.d.toNat, .int .u8 Y.i.e.toNat, .int .u8 Y.i.f.toNat, .int .u8 Y.u.a.toNat, .int .u8 Y.u.b.toNat, .int .u8 Y.u.c.toNat, .int .u8 Y.u.d.toNat, .int .u8 Y.u.e.toNat, .int .u8 Y.u.f.toNat] 43))
  have HM9 := Lib.hid (HM8.out.alloc (.cells #[.int .u8 Y.l.toNat, .int .u32 Y.q.toNat, .int .u8 Y.k.toNat, .bool Y.s, .bool Y.e, .int .u8 Y.i.a.toNat, .int .u8 Y.i.b.toNat, .int .u8 Y.i.c.toNat, .int .u8 Y.i.d.toNat, .int .u8 Y.i.e.toNat, .int .u8 Y.i.f.toNat, .int .u8 Y.u.a.toNat, .int .u8 Y.u.b.toNat, .int .u8 Y.u.c.toNat, .int .u8 Y.u.d.toNat, .int .u8 Y.u.e.toNat, .int .u8 Y.u.f.toNat] 43))
  have HX9 := Lib.hid (HX8.out.alloc (.cells #[.int .u8 Y.l.toNat, .int .u32 Y.q.toNat, .int .u8 Y.k.toNat, .bool Y.s, .bool Y.e, .int .u8 Y.i.a.toNat, .int .u8 Y.i.b.toNat, .int .u8 Y.i.c.toNat, .int .u8 Y.i.d.toNat, .int .u8 Y.i.e.toNat, .int .u8 Y.i.f.toNat, .int .u8 Y.u.a.toNat, .int .u8 Y.u.b.toNat, .int .u8 Y.u.c.toNat, .int .u8 Y.u.d.toNat, .int .u8 Y.u.e.toNat, .int .u8 Y.u.f.toNat] 43))
  have HY9 := Lib.hid (Blk.new w8 43 #[.int .u8 Y.l.toNat, .int .u32 Y.q.toNat, .int .u8 Y.k.toNat, .bool Y.s, .bool Y.e, .int .u8 Y.i.a.toNat, .int .u8 Y.i.b.toNat, .int .u8 Y.i.c.toNat, .int .u8 Y.i.d.toNat, .int .u8 Y.i.e.toNat, .int .u8 Y.i.f.toNat, .int .u8 Y.u.a.toNat, .int .u8 Y.u.b.toNat, .int .u8 Y.u.c.toNat, .int .u8 Y.u.d.toNat, .int .u8 Y.u.e.toNat, .int .u8 Y.u.f.toNat])
  clear HB8 HKt8 HKr8 HM8 HX8
  have qt := QT.out
  go_upto_region 13 with (first
    | (refine wpList_load_cs 35 13 rfl (by kernel_rfl) w6.heap.size 35 #[.int .u8 t.l.toNat, .int .u32 t.q.toNat, .int .u8 t.k.toNat, .int .u8 t.o.a.toNat, .int .u8 t.o.b.toNat, .int .u8 t.o.c.toNat, .int .u8 t.o.d.toNat, .int .u8 t.o.e.toNat, .int .u8 t.o.f.toNat, .int .u8 t.t.a.toNat, .int .u8 t.t.b.toNat, .int .u8 t.t.c.toNat, .int .u8 t.t.d.toNat, .int .u8 t.t.e.toNat, .int .u8 t.t.f.toNat] _ rfl HX9.out Try.underlying35 rfl (by kernel_rfl) ?_)
    | (refine wpList_load_cs 35 3 rfl (by kernel_rfl) W.heap.size 35 #[.int .u8 t.l.toNat, .int .u32 t.q.toNat, .int .u8 t.k.toNat, .int .u8 t.o.a.toNat, .int .u8 t.o.b.toNat, .int .u8 t.o.c.toNat, .int .u8 t.o.d.toNat, .int .u8 t.o.e.toNat, .int .u8 t.o.f.toNat, .int .u8 t.t.a.toNat, .int .u8 t.t.b.toNat, .int .u8 t.t.c.toNat, .int .u8 t.t.d.toNat, .int .u8 t.t.e.toNat, .int .u8 t.t.f.toNat] _ rfl HKt9.out Try.underlying35 rfl (by kernel_rfl) ?_))
  clear qt
  clear HX9
  clear HY9
  clear HKt9
  go_wp2_with (first
    | (refine wpList_load_cs 43 4 rfl (by kernel_rfl) (W.heap.size + 1) 43 #[.int .u8 r.l.toNat, .int .u32 r.q.toNat, .int .u8 r.k.toNat, .bool r.s, .bool r.e, .int .u8 r.i.a.toNat, .int .u8 r.i.b.toNat, .int .u8 r.i.c.toNat, .int .u8 r.i.d.toNat, .int .u8 r.i.e.toNat, .int .u8 r.i.f.toNat, .int .u8 r.u.a.toNat, .int .u8 r.u.b.toNat, .int .u8 r.u.c.toNat, .int .u8 r.u.d.toNat, .int .u8 r.u.e.toNat, .int .u8 r.u.f.toNat] _ rfl HKr9.out Try.underlying43 rfl (by kernel_rfl) ?_))
  refine (KQ.out _).mono ?_
  rintro r w10 ⟨A2, k2, rfl, hF, hz, hfr, hb10⟩
  have HB10 : Hid (Below W.heap.size W w10) := Lib.hid (HB9.out.trans (hb10.mono HB9.out.size))
  have HKr10 := Lib.hid (HKr9.out.below hb10 HKr9.out.lt)
  have HM10 := Lib.hid (HM9.out.below hb10 HM9.out.lt)
  have HFR : Hid (0 < Q.t.length → ∀ a, A2 = some a → a.block ≠ w1.heap.size) := Lib.hid (fun h0 a ha h => by have h1 := hfr (by have := HN2.out; omega) a ha; have h2 := HM9.out.lt; omega)
  clear hb10 HB9 HKr9 HM9
  clear hz hfr
  have HEQ : Hid (0 < Q.t.length → Els 2 tlV w10 A2 Q.t) := Lib.hid (fun _ => hF)
  clear hF
  have HEQ2 : Hid (Els 2 tlV (w10.setRow w1.heap.size #[.int .u8 Q.l.toNat, .int .u8 Q.o.toNat, .int .u8 Q.g.toNat, .string ⟨Q.x.toArray⟩, .slice A2 n2 k2]) A2 Q.t) := Lib.hid (by
    by_cases h0 : 0 < Q.t.length
    · exact els_row (HEQ.out h0) HM10.out trivial (HFR.out h0)
    · exact fun h => absurd h h0)
  have HMs := HM10
  have HB11 : Hid (Below W.heap.size W (w10.setRow w1.heap.size #[.int .u8 Q.l.toNat, .int .u8 Q.o.toNat, .int .u8 Q.g.toNat, .string ⟨Q.x.toArray⟩, .slice A2 n2 k2])) := Lib.hid (below_row HB10.out (by have := HG7.out; omega) _)
  have HKr11 := Lib.hid (HKr10.out.rowFar (k := w1.heap.size) (by have := HG7.out; omega) #[.int .u8 Q.l.toNat, .int .u8 Q.o.toNat, .int .u8 Q.g.toNat, .string ⟨Q.x.toArray⟩, .slice A2 n2 k2])
  have HM11 := Lib.hid (HM10.out.row #[.int .u8 Q.l.toNat, .int .u8 Q.o.toNat, .int .u8 Q.g.toNat, .string ⟨Q.x.toArray⟩, .slice A2 n2 k2])
  clear HB10 HKr10 HM10
  clear HEQ HFR
  have r0 := HKr11.out.cell 0
  simp only [List.getElem?_toArray, List.getElem?_cons_succ, List.getElem?_cons_zero] at r0
  have a0 := HM11.out.cell 0
  have a1 := HM11.out.cell 1
  have a2 := HM11.out.cell 2
  have a3 := HM11.out.cell 3
  have a4 := HM11.out.cell 4
  simp only [List.getElem?_toArray, List.getElem?_cons_succ, List.getElem?_cons_zero] at a0 a1 a2 a3 a4
  go_wp2_with (first
    | (refine wpList_store_row rfl 31 (.tmp 7) (.tmp 86) rfl w1.heap.size rfl #[.int .u8 Q.l.toNat, .int .u8 Q.o.toNat, .int .u8 Q.g.toNat, .string ⟨Q.x.toArray⟩, .slice A2 n2 k2] rfl 31 _ HMs.out (by kernel_rfl) rfl (by kernel_rfl) ?_))
  refine (KC2.out _ _ _ HEQ2.out).mono ?_
  rintro r w12 ⟨rfl, hb12⟩
  have HB12 : Hid (Below W.heap.size W w12) := Lib.hid (HB11.out.trans (hb12.mono HB11.out.size))
  have HKr12 := Lib.hid (HKr11.out.below hb12 HKr11.out.lt)
  have HM12 := Lib.hid (HM11.out.below hb12 HM11.out.lt)
  have HF12 : Hid (Els 2 tlV w12 A2 Q.t) := Lib.hid (HEQ2.out.next hb12)
  clear hb12 HB11 HKr11 HM11 HEQ2
  clear a0 a1 a2 a3 a4
  clear r0
  clear HMs
  clear HM12
  clear HF12
  go_wp2_with fail
  refine (KZ2.out _).mono ?_
  rintro r w13 ⟨A5, k5, rfl, hF, hz, hb13⟩
  have HB13 : Hid (Below W.heap.size W w13) := Lib.hid (HB12.out.trans (hb13.mono HB12.out.size))
  have HKr13 := Lib.hid (HKr12.out.below hb13 HKr12.out.lt)
  clear hb13 HB12 HKr12
  clear hz
  have HF13 : Hid (Els 2 tlV w13 A5 Q.t) := Lib.hid hF
  clear hF
  have HB14 : Hid (Below W.heap.size W (w13.alloc (.cells #[.int .u8 Q.l.toNat, .int .u8 Q.o.toNat, .int .u8 Q.g.toNat, .string ⟨Q.x.toArray⟩, .slice A5 n2 k5] 31))) := Lib.hid (HB13.out.alloc HB13.out.size _)
  have HKr14 := Lib.hid (HKr13.out.alloc (.cells #[.int .u8 Q.l.toNat, .int .u8 Q.o.toNat, .int .u8 Q.g.toNat, .string ⟨Q.x.toArray⟩, .slice A5 n2 k5] 31))
  have HF14 : Hid (Els 2 tlV (w13.alloc (.cells #[.int .u8 Q.l.toNat, .int .u8 Q.o.toNat, .int .u8 Q.g.toNat, .string ⟨Q.x.toArray⟩, .slice A5 n2 k5] 31)) A5 Q.t) := Lib.hid (HF13.out.next ((Below.refl _ _).alloc (Nat.le_refl _) _))
  have HN14 := Lib.hid (Blk.new w13 31 #[.int .u8 Q.l.toNat, .int .u8 Q.o.toNat, .int .u8 Q.g.toNat, .string ⟨Q.x.toArray⟩, .slice A5 n2 k5])
  clear HB13 HKr13 HF13
  have a0 := HN14.out.cell 0
  have a1 := HN14.out.cell 1
  have a2 := HN14.out.cell 2
  have a3 := HN14.out.cell 3
  have a4 := HN14.out.cell 4
  simp only [List.getElem?_toArray, List.getElem?_cons_succ, List.getElem?_cons_zero] at a0 a1 a2 a3 a4
  go_wp2_with fail
  refine (KU2.out _ _ _ HF14.out).mono ?_
  rintro r w15 ⟨rfl, hb15⟩
  have HB15 : Hid (Below W.heap.size W w15) := Lib.hid (HB14.out.trans (hb15.mono HB14.out.size))
  have HKr15 := Lib.hid (HKr14.out.below hb15 HKr14.out.lt)
  have HN15 := Lib.hid (HN14.out.below hb15 HN14.out.lt)
  have HF15 : Hid (Els 2 tlV w15 A5 Q.t) := Lib.hid (HF14.out.next hb15)
  clear hb15 HB14 HKr14 HN14 HF14
  clear a0 a1 a2 a3 a4
  have HB16 : Hid (Below W.heap.size W (w15.alloc (.cells #[.int .u8 r.l.toNat, .int .u32 r.q.toNat, .int .u8 r.k.toNat, .bool r.s, .bool r.e, .int .u8 r.i.a.toNat, .int .u8 r.i.b.toNat, .int .u8 r.i.c.toNat, .int .u8 r.i.d.toNat, .int .u8 r.i.e.toNat, .int .u8 r.i.f.toNat, .int .u8 r.u.a.toNat, .int .u8 r.u.b.toNat, .int .u8 r.u.c.toNat, .int .u8 r.u.d.toNat, .int .u8 r.u.e.toNat, .int .u8 r.u.f.toNat] 43))) := Lib.hid (HB15.out.alloc HB15.out.size _)
  have HKr16 := Lib.hid (HKr15.out.alloc (.cells #[.int .u8 r.l.toNat, .int .u32 r.q.toNat, .int .u8 r.k.toNat, .bool r.s, .bool r.e, .int .u8 r.i.a.toNat, .int .u8 r.i.b.toNat, .int .u8 r.i.c.toNat, .int .u8 r.i.d.toNat, .int .u8 r.i.e.toNat, .int .u8 r.i.f.toNat, .int .u8 r.u.a.toNat, .int .u8 r.u.b.toNat, .int .u8 r.u.c.toNat, .int .u8 r.u.d.toNat, .int .u8 r.u.e.toNat, .int .u8 r.u.f.toNat] 43))
  have HN16 := Lib.hid (HN15.out.alloc (.cells #[.int .u8 r.l.toNat, .int .u32 r.q.toNat, .int .u8 r.k.toNat, .bool r.s, .bool r.e, .int .u8 r.i.a.toNat, .int .u8 r.i.b.toNat, .int .u8 r.i.c.toNat, .int .u8 r.i.d.toNat, .int .u8 r.i.e.toNat, .int .u8 r.i.f.toNat, .int .u8 r.u.a.toNat, .int .u8 r.u.b.toNat, .int .u8 r.u.c.toNat, .int .u8 r.u.d.toNat, .int .u8 r.u.e.toNat, .int .u8 r.u.f.toNat] 43))
  have HF16 : Hid (Els 2 tlV (w15.alloc (.cells #[.int .u8 r.l.toNat, .int .u32 r.q.toNat, .int .u8 r.k.toNat, .bool r.s, .bool r.e, .int .u8 r.i.a.toNat, .int .u8 r.i.b.toNat, .int .u8 r.i.c.toNat, .int .u8 r.i.d.toNat, .int .u8 r.i.e.toNat, .int .u8 r.i.f.toNat, .int .u8 r.u.a.toNat, .int .u8 r.u.b.toNat, .int .u8 r.u.c.toNat, .int .u8 r.u.d.toNat, .int .u8 r.u.e.toNat, .int .u8 r.u.f.toNat] 43)) A5 Q.t) := Lib.hid (HF15.out.next ((Below.refl _ _).alloc (Nat.le_refl _) _))
  have HX16 := Lib.hid (Blk.new w15 43 #[.int .u8 r.l.toNat, .int .u32 r.q.toNat, .int .u8 r.k.toNat, .bool r.s, .bool r.e, .int .u8 r.i.a.toNat, .int .u8 r.i.b.toNat, .int .u8 r.i.c.toNat, .int .u8 r.i.d.toNat, .int .u8 r.i.e.toNat, .int .u8 r.i.f.toNat, .int .u8 r.u.a.toNat, .int .u8 r.u.b.toNat, .int .u8 r.u.c.toNat, .int .u8 r.u.d.toNat, .int .u8 r.u.e.toNat, .int .u8 r.u.f.toNat])
  clear HB15 HKr15 HN15 HF15
  have a0 := HN16.out.cell 0
  have a1 := HN16.out.cell 1
  have a2 := HN16.out.cell 2
  have a3 := HN16.out.cell 3
  have a4 := HN16.out.cell 4
  simp only [List.getElem?_toArray, List.getElem?_cons_succ, List.getElem?_cons_zero] at a0 a1 a2 a3 a4
  go_wp2_with fail
  refine (KT2.out _ _ _ HF16.out).mono ?_
  rintro r w17 ⟨rfl, hb17⟩
  have HB17 : Hid (Below W.heap.size W w17) := Lib.hid (HB16.out.trans (hb17.mono HB16.out.size))
  have HKr17 := Lib.hid (HKr16.out.below hb17 HKr16.out.lt)
  have HN17 := Lib.hid (HN16.out.below hb17 HN16.out.lt)
  have HX17 := Lib.hid (HX16.out.below hb17 HX16.out.lt)
  have HF17 : Hid (Els 2 tlV w17 A5 Q.t) := Lib.hid (HF16.out.next hb17)
  clear hb17 HB16 HKr16 HN16 HX16 HF16
  clear a0 a1 a2 a3 a4
  clear HN17
  clear HF17
  have HB18 : Hid (Below W.heap.size W (w17.alloc (.cells #[.int .u8 Y2.l.toNat, .int .u32 Y2.q.toNat, .int .u8 Y2.k.toNat, .int .u8 Y2.o.a.toNat, .int .u8 Y2.o.b.toNat, .int .u8 Y2.o.c.toNat, .int .u8 Y2.o.d.toNat, .int .u8 Y2.o.e.toNat, .int .u8 Y2.o.f.toNat, .int .u8 Y2.t.a.toNat, .int .u8 Y2.t.b.toNat, .int .u8 Y2.t.c.toNat, .int .u8 Y2.t.d.toNat, .int .u8 Y2.t.e.toNat, .int .u8 Y2.t.f.toNat] 35))) := Lib.hid (HB17.out.alloc HB17.out.size _)
  have HKr18 := Lib.hid (HKr17.out.alloc (.cells #[.int .u8 Y2.l.toNat, .int .u32 Y2.q.toNat, .int .u8 Y2.k.toNat, .int .u8 Y2.o.a.toNat, .int .u8 Y2.o.b.toNat, .int .u8 Y2.o.c.toNat, .int .u8 Y2.o.d.toNat, .int .u8 Y2.o.e.toNat, .int .u8 Y2.o.f.toNat, .int .u8 Y2.t.a.toNat, .int .u8 Y2.t.b.toNat, .int .u8 Y2.t.c.toNat, .int .u8 Y2.t.d.toNat, .int .u8 Y2.t.e.toNat, .int .u8 Y2.t.f.toNat] 35))
  have HX18 := Lib.hid (HX17.out.alloc (.cells #[.int .u8 Y2.l.toNat, .int .u32 Y2.q.toNat, .int .u8 Y2.k.toNat, .int .u8 Y2.o.a.toNat, .int .u8 Y2.o.b.toNat, .int .u8 Y2.o.c.toNat, .int .u8 Y2.o.d.toNat, .int .u8 Y2.o.e.toNat, .int .u8 Y2.o.f.toNat, .int .u8 Y2.t.a.toNat, .int .u8 Y2.t.b.toNat, .int .u8 Y2.t.c.toNat, .int .u8 Y2.t.d.toNat, .int .u8 Y2.t.e.toNat, .int .u8 Y2.t.f.toNat] 35))
  have HY18 := Lib.hid (Blk.new w17 35 #[.int .u8 Y2.l.toNat, .int .u32 Y2.q.toNat, .int .u8 Y2.k.toNat, .int .u8 Y2.o.a.toNat, .int .u8 Y2.o.b.toNat, .int .u8 Y2.o.c.toNat, .int .u8 Y2.o.d.toNat, .int .u8 Y2.o.e.toNat, .int .u8 Y2.o.f.toNat, .int .u8 Y2.t.a.toNat, .int .u8 Y2.t.b.toNat, .int .u8 Y2.t.c.toNat, .int .u8 Y2.t.d.toNat, .int .u8 Y2.t.e.toNat, .int .u8 Y2.t.f.toNat])
  clear HB17 HKr17 HX17
  have qr := QR.out
  go_wp2_with (first
    | (refine wpList_load_cs 43 21 rfl (by kernel_rfl) w15.heap.size 43 #[.int .u8 r.l.toNat, .int .u32 r.q.toNat, .int .u8 r.k.toNat, .bool r.s, .bool r.e, .int .u8 r.i.a.toNat, .int .u8 r.i.b.toNat, .int .u8 r.i.c.toNat, .int .u8 r.i.d.toNat, .int .u8 r.i.e.toNat, .int .u8 r.i.f.toNat, .int .u8 r.u.a.toNat, .int .u8 r.u.b.toNat, .int .u8 r.u.c.toNat, .int .u8 r.u.d.toNat, .int .u8 r.u.e.toNat, .int .u8 r.u.f.toNat] _ rfl HX18.out Try.underlying43 rfl (by kernel_rfl) ?_)
    | (refine wpList_load_cs 43 4 rfl (by kernel_rfl) (W.heap.size + 1) 43 #[.int .u8 r.l.toNat, .int .u32 r.q.toNat, .int .u8 r.k.toNat, .bool r.s, .bool r.e, .int .u8 r.i.a.toNat, .int .u8 r.i.b.toNat, .int .u8 r.i.c.toNat, .int .u8 r.i.d.toNat, .int .u8 r.i.e.toNat, .int .u8 r.i.f.toNat, .int .u8 r.u.a.toNat, .int .u8 r.u.b.toNat, .int .u8 r.u.c.toNat, .int .u8 r.u.d.toNat, .int .u8 r.u.e.toNat, .int .u8 r.u.f.toNat] _ rfl HKr18.out Try.underlying43 rfl (by kernel_rfl) ?_))
  refine (wakes15 HP.out HT.out HQ.out HU.out _).mono ?_
  rintro r w19 ⟨rfl, hb19⟩
  have HB19 : Hid (Below W.heap.size W w19) := Lib.hid (HB18.out.trans (hb19.mono HB18.out.size))
  have HKr19 := Lib.hid (HKr18.out.below hb19 HKr18.out.lt)
  have HX19 := Lib.hid (HX18.out.below hb19 HX18.out.lt)
  have HY19 := Lib.hid (HY18.out.below hb19 HY18.out.lt)
  clear hb19 HB18 HKr18 HX18 HY18
  go_wp2
  go_ret
  exact ⟨rfl, HB19.out⟩

set_option maxHeartbeats 8000000 in
theorem ltmback_10 (HPC : LtPutC) (HTC : LtTakeC) (HQC : LtPutRC) (HUC : LtTakeRC) (W : World) (t : Tc) (r : Ry) (s : List UInt8) (hl : ¬ 1000 < s.length) (h1 : tcE t = 0) (h2 : ¬ ryE r = 0) :
    Calls Try.prog 4 #[TcV t, RyV r, .string ⟨s.toArray⟩] W fun e w' => e = .returned (.bool true) ∧ Below W.heap.size W w' := by
  have HP := Lib.hid HPC
  have HT := Lib.hid HTC
  have HQ := Lib.hid HQC
  have HU := Lib.hid HUC
  clear HPC HTC HQC HUC
  have HB0 : Hid (Below W.heap.size W ((W.alloc (.cells #[.int .u8 t.l.toNat, .int .u32 t.q.toNat, .int .u8 t.k.toNat, .int .u8 t.o.a.toNat, .int .u8 t.o.b.toNat, .int .u8 t.o.c.toNat, .int .u8 t.o.d.toNat, .int .u8 t.o.e.toNat, .int .u8 t.o.f.toNat, .int .u8 t.t.a.toNat, .int .u8 t.t.b.toNat, .int .u8 t.t.c.toNat, .int .u8 t.t.d.toNat, .int .u8 t.t.e.toNat, .int .u8 t.t.f.toNat] 35)).alloc (.cells #[.int .u8 r.l.toNat, .int .u32 r.q.toNat, .int .u8 r.k.toNat, .bool r.s, .bool r.e, .int .u8 r.i.a.toNat, .int .u8 r.i.b.toNat, .int .u8 r.i.c.toNat, .int .u8 r.i.d.toNat, .int .u8 r.i.e.toNat, .int .u8 r.i.f.toNat, .int .u8 r.u.a.toNat, .int .u8 r.u.b.toNat, .int .u8 r.u.c.toNat, .int .u8 r.u.d.toNat, .int .u8 r.u.e.toNat, .int .u8 r.u.f.toNat] 43))) := Lib.hid (((Below.refl _ _).alloc (Nat.le_refl _) _).alloc (by simp) _)
  have HKt0 : Hid (Blk ((W.alloc (.cells #[.int .u8 t.l.toNat, .int .u32 t.q.toNat, .int .u8 t.k.toNat, .int .u8 t.o.a.toNat, .int .u8 t.o.b.toNat, .int .u8 t.o.c.toNat, .int .u8 t.o.d.toNat, .int .u8 t.o.e.toNat, .int .u8 t.o.f.toNat, .int .u8 t.t.a.toNat, .int .u8 t.t.b.toNat, .int .u8 t.t.c.toNat, .int .u8 t.t.d.toNat, .int .u8 t.t.e.toNat, .int .u8 t.t.f.toNat] 35)).alloc (.cells #[.int .u8 r.l.toNat, .int .u32 r.q.toNat, .int .u8 r.k.toNat, .bool r.s, .bool r.e, .int .u8 r.i.a.toNat, .int .u8 r.i.b.toNat, .int .u8 r.i.c.toNat, .int .u8 r.i.d.toNat, .int .u8 r.i.e.toNat, .int .u8 r.i.f.toNat, .int .u8 r.u.a.toNat, .int .u8 r.u.b.toNat, .int .u8 r.u.c.toNat, .int .u8 r.u.d.toNat, .int .u8 r.u.e.toNat, .int .u8 r.u.f.toNat] 43)) W.heap.size 35 #[.int .u8 t.l.toNat, .int .u32 t.q.toNat, .int .u8 t.k.toNat, .int .u8 t.o.a.toNat, .int .u8 t.o.b.toNat, .int .u8 t.o.c.toNat, .int .u8 t.o.d.toNat, .int .u8 t.o.e.toNat, .int .u8 t.o.f.toNat, .int .u8 t.t.a.toNat, .int .u8 t.t.b.toNat, .int .u8 t.t.c.toNat, .int .u8 t.t.d.toNat, .int .u8 t.t.e.toNat, .int .u8 t.t.f.toNat]) := Lib.hid ((Blk.new _ _ _).alloc _)
  have HKr0 : Hid (Blk ((W.alloc (.cells #[.int .u8 t.l.toNat, .int .u32 t.q.toNat, .int .u8 t.k.toNat, .int .u8 t.o.a.toNat, .int .u8 t.o.b.toNat, .int .u8 t.o.c.toNat, .int .u8 t.o.d.toNat, .int .u8 t.o.e.toNat, .int .u8 t.o.f.toNat, .int .u8 t.t.a.toNat, .int .u8 t.t.b.toNat, .int .u8 t.t.c.toNat, .int .u8 t.t.d.toNat, .int .u8 t.t.e.toNat, .int .u8 t.t.f.toNat] 35)).alloc (.cells #[.int .u8 r.l.toNat, .int .u32 r.q.toNat, .int .u8 r.k.toNat, .bool r.s, .bool r.e, .int .u8 r.i.a.toNat, .int .u8 r.i.b.toNat, .int .u8 r.i.c.toNat, .int .u8 r.i.d.toNat, .int .u8 r.i.e.toNat, .int .u8 r.i.f.toNat, .int .u8 r.u.a.toNat, .int .u8 r.u.b.toNat, .int .u8 r.u.c.toNat, .int .u8 r.u.d.toNat, .int .u8 r.u.e.toNat, .int .u8 r.u.f.toNat] 43)) (W.heap.size + 1) 43 #[.int .u8 r.l.toNat, .int .u32 r.q.toNat, .int .u8 r.k.toNat, .bool r.s, .bool r.e, .int .u8 r.i.a.toNat, .int .u8 r.i.b.toNat, .int .u8 r.i.c.toNat, .int .u8 r.i.d.toNat, .int .u8 r.i.e.toNat, .int .u8 r.i.f.toNat, .int .u8 r.u.a.toNat, .int .u8 r.u.b.toNat, .int .u8 r.u.c.toNat, .int .u8 r.u.d.toNat, .int .u8 r.u.e.toNat, .int .u8 r.u.f.toNat]) := Lib.hid (by
    have := Blk.new (W.alloc (.cells #[.int .u8 t.l.toNat, .int .u32 t.q.toNat, .int .u8 t.k.toNat, .int .u8 t.o.a.toNat, .int .u8 t.o.b.toNat, .int .u8 t.o.c.toNat, .int .u8 t.o.d.toNat, .int .u8 t.o.e.toNat, .int .u8 t.o.f.toNat, .int .u8 t.t.a.toNat, .int .u8 t.t.b.toNat, .int .u8 t.t.c.toNat, .int .u8 t.t.d.toNat, .int .u8 t.t.e.toNat, .int .u8 t.t.f.toNat] 35)) 43 #[.int .u8 r.l.toNat, .int .u32 r.q.toNat, .int .u8 r.k.toNat, .bool r.s, .bool r.e, .int .u8 r.i.a.toNat, .int .u8 r.i.b.toNat, .int .u8 r.i.c.toNat, .int .u8 r.i.d.toNat, .int .u8 r.i.e.toNat, .int .u8 r.i.f.toNat, .int .u8 r.u.a.toNat, .int .u8 r.u.b.toNat, .int .u8 r.u.c.toNat, .int .u8 r.u.d.toNat, .int .u8 r.u.e.toNat, .int .u8 r.u.f.toNat]
    simpa using this)
  have p0 : ¬ (1000 : Int) < (s.length : Int) := by omega
  have HSL := Lib.hid (show s.length ≤ 1000 by omega)
  have KP := Lib.hid (fun w => HP.out t w)
  have KQ := Lib.hid (fun w => HQ.out r w)
  have hpt : (tcP t).t = [] := by unfold tcP; split <;> rfl
  have hqt : (ryP r).t.length ≤ 2 ∧ (ryP r).x.length ≤ 6 := ryP_small r
  have HTE := Lib.hid (@tcE_is t)
  have HRE := Lib.hid (@ryE_is r)
  have HTB := Lib.hid (fun h => @tc_back t h)
  have HTN := Lib.hid (fun h => @tc_noReply t h)
  have HTL := Lib.hid (fun h => @tc_lv t h)
  have HTP := Lib.hid (fun h => @tc_pd t h)
  have HRB := Lib.hid (fun h => @ry_back r h)
  have HRN := Lib.hid (fun h => @ry_noTrace r h)
  have HRL := Lib.hid (fun h => @ry_lv r h)
  have HRP := Lib.hid (fun h => @ry_pd r h)
  obtain ⟨P, hP⟩ : ∃ P, tcP t = P := ⟨_, rfl⟩
  obtain ⟨Q, hQ⟩ : ∃ P, ryP r = P := ⟨_, rfl⟩
  obtain ⟨E, hE⟩ : ∃ E, tcE t = E := ⟨_, rfl⟩
  obtain ⟨G, hG⟩ : ∃ E, ryE r = E := ⟨_, rfl⟩
  have hE0 := hE
  have hG0 := hG
  rw [hP, hE] at KP
  rw [hQ, hG] at KQ
  rw [hP] at hpt HTB HTN HTP HTL
  rw [hQ] at hqt HRB HRN HRP HRL
  rw [hE] at HTE HTB HTN HTP HTL
  rw [hG] at HRE HRB HRN HRP HRL
  have hlen : P.t.length = 0 := by rw [hpt]; rfl
  have HPT := Lib.hid hpt
  have HPN := Lib.hid hlen
  have HQT := Lib.hid hqt
  obtain ⟨n2, hn2⟩ : ∃ n, Q.t.length = n := ⟨_, rfl⟩
  have HN2 := Lib.hid hn2
  simp only [PdV, hlen] at KP
  simp only [PdV, hn2] at KQ
  have qt : ∀ w : World, (Op.equalIn 10000 35 (.agg #[.int .u8 t.l.toNat, .int .u32 t.q.toNat, .int .u8 t.k.toNat, .int .u8 t.o.a.toNat, .int .u8 t.o.b.toNat, .int .u8 t.o.c.toNat, .int .u8 t.o.d.toNat, .int .u8 t.o.e.toNat, .int .u8 t.o.f.toNat, .int .u8 t.t.a.toNat, .int .u8 t.t.b.toNat, .int .u8 t.t.c.toNat, .int .u8 t.t.d.toNat, .int .u8 t.t.e.toNat, .int .u8 t.t.f.toNat]) (.agg #[.int .u8 t.l.toNat, .int .u32 t.q.toNat, .int .u8 t.k.toNat, .int .u8 t.o.a.toNat, .int .u8 t.o.b.toNat, .int .u8 t.o.c.toNat, .int .u8 t.o.d.toNat, .int .u8 t.o.e.toNat, .int .u8 t.o.f.toNat, .int .u8 t.t.a.toNat, .int .u8 t.t.b.toNat, .int .u8 t.t.c.toNat, .int .u8 t.t.d.toNat, .int .u8 t.t.e.toNat, .int .u8 t.t.f.toNat])).run Try.prog w = .ok true w := fun w => by
    have := run_eqTc t t w
    simp only [decide_true] at this
    exact this
  have qr : ∀ w : World, (Op.equalIn 10000 43 (.agg #[.int .u8 r.l.toNat, .int .u32 r.q.toNat, .int .u8 r.k.toNat, .bool r.s, .bool r.e, .int .u8 r.i.a.toNat, .int .u8 r.i.b.toNat, .int .u8 r.i.c.toNat, .int .u8 r.i.d.toNat, .int .u8 r.i.e.toNat, .int .u8 r.i.f.toNat, .int .u8 r.u.a.toNat, .int .u8 r.u.b.toNat, .int .u8 r.u.c.toNat, .int .u8 r.u.d.toNat, .int .u8 r.u.e.toNat, .int .u8 r.u.f.toNat]) (.agg #[.int .u8 r.l.toNat, .int .u32 r.q.toNat, .int .u8 r.k.toNat, .bool r.s, .bool r.e, .int .u8 r.i.a.toNat, .int .u8 r.i.b.toNat, .int .u8 r.i.c.toNat, .int .u8 r.i.d.toNat, .int .u8 r.i.e.toNat, .int .u8 r.i.f.toNat, .int .u8 r.u.a.toNat, .int .u8 r.u.b.toNat, .int .u8 r.u.c.toNat, .int .u8 r.u.d.toNat, .int .u8 r.u.e.toNat, .int .u8 r.u.f.toNat])).run Try.prog w = .ok true w := fun w => by
    have := run_eqRy r r w
    simp only [decide_true] at this
    exact this
  have QT := Lib.hid qt
  have QR := Lib.hid qr
  clear hl hpt hqt hP hQ hE hG hlen hn2 qt qr
  rw [hE0] at h1
  rw [hG0] at h2
  clear hE0 hG0
  subst h1
  have pt : (t.l.toNat : Int) < 8 := by have := HTE.out.1 rfl; omega
  have hPD := HTP.out rfl
  have hbk := cf_back hPD s
  have hvl := pdP_len P
  have hp0 := HPN.out
  have hpx : P.x.length ≤ 255 := (pdE_ok hPD).2.1
  have KC := Lib.hid (fun A k w => cfput_any A k P w (by rw [HPT.out]; exact els_nilL _ _) (by omega))
  obtain ⟨V, hV⟩ : ∃ V, pdP P = V := ⟨_, rfl⟩
  rw [hV] at hbk hvl
  rw [hV, hPD] at KC
  obtain ⟨Z, hZ⟩ : ∃ Z, V ++ s = Z := ⟨_, rfl⟩
  rw [hZ] at hbk
  have KZ := Lib.hid (fun w => cftake_any Z w (by rw [← hZ, List.length_append]; have := HSL.out; omega))
  rw [hbk.1, hbk.2] at KZ
  have KT := Lib.hid (fun A k w => HT.out A k P w (by rw [HPT.out]; exact els_nilL _ _) (by omega) (by omega) (HTL.out rfl).1 (HTL.out rfl).2)
  rw [(HTB.out rfl).1, (HTB.out rfl).2] at KT
  have KU := Lib.hid (fun A k w => HU.out A k P w (by rw [HPT.out]; exact els_nilL _ _) (by omega) (by omega) (HTL.out rfl).1)
  rw [HTN.out rfl] at KU
  obtain ⟨Y, hY⟩ : ∃ Y, ryX P = Y := ⟨_, rfl⟩
  rw [hY] at KU
  simp only [PdV, HPN.out] at KC KZ KT KU
  have a1 : ∀ w : World, (Op.stringOp .add ⟨V.toArray⟩ ⟨s.toArray⟩).run Try.prog w = .ok (.string ⟨Z.toArray⟩) w := fun w => by rw [← hZ]; exact run_string_add_lists w V s (by omega) (by have := HSL.out; omega)
  clear hPD hbk hvl hp0 hpx hV hZ hY
  have pr : ¬ (r.l.toNat : Int) < 8 := by have := HRE.out; omega
  have e2 : ((G : Int) == 0) = false := by rw [beq_eq_false_iff_ne]; omega
  clear h2
  go_enter Try.func4, Try.ntmps4
  go_wp2_with (first
    | (refine wpList_load_cs 35 3 rfl (by kernel_rfl) W.heap.size 35 #[.int .u8 t.l.toNat, .int .u32 t.q.toNat, .int .u8 t.k.toNat, .int .u8 t.o.a.toNat, .int .u8 t.o.b.toNat, .int .u8 t.o.c.toNat, .int .u8 t.o.d.toNat, .int .u8 t.o.e.toNat, .int .u8 t.o.f.toNat, .int .u8 t.t.a.toNat, .int .u8 t.t.b.toNat, .int .u8 t.t.c.toNat, .int .u8 t.t.d.toNat, .int .u8 t.t.e.toNat, .int .u8 t.t.f.toNat] _ rfl HKt0.out Try.underlying35 rfl (by kernel_rfl) ?_))
  refine (KP.out _).mono ?_
  rintro r w1 ⟨A1, k1, rfl, hz, hb1⟩
  have HB1 : Hid (Below W.heap.size W w1) := Lib.hid (HB0.out.trans (hb1.mono HB0.out.size))
  have HKt1 := Lib.hid (HKt0.out.below hb1 HKt0.out.lt)
  have HKr1 := Lib.hid (HKr0.out.below hb1 HKr0.out.lt)
  clear hb1 HB0 HKt0 HKr0
  clear hz
  have HG7 : Hid (W.heap.size + 1 < w1.heap.size) := Lib.hid HKr1.out.lt
  have HB2 : Hid (Below W.heap.size W (w1.alloc (.cells #[.int .u8 P.l.toNat, .int .u8 P.o.toNat, .int .u8 P.g.toNat, .string ⟨P.x.toArray⟩, .slice A1 0 k1] 31))) := Lib.hid (HB1.out.alloc HB1.out.size _)
  have HKt2 := Lib.hid (HKt1.out.alloc (.cells #[.int .u8 P.l.toNat, .int .u8 P.o.toNat, .int .u8 P.g.toNat, .string ⟨P.x.toArray⟩, .slice A1 0 k1] 31))
  have HKr2 := Lib.hid (HKr1.out.alloc (.cells #[.int .u8 P.l.toNat, .int .u8 P.o.toNat, .int .u8 P.g.toNat, .string ⟨P.x.toArray⟩, .slice A1 0 k1] 31))
  have HM2 := Lib.hid (Blk.new w1 31 #[.int .u8 P.l.toNat, .int .u8 P.o.toNat, .int .u8 P.g.toNat, .string ⟨P.x.toArray⟩, .slice A1 0 k1])
  clear HB1 HKt1 HKr1
  have t0 := HKt2.out.cell 0
  simp only [List.getElem?_toArray, List.getElem?_cons_succ, List.getElem?_cons_zero] at t0
  have a0 := HM2.out.cell 0
  have a1 := HM2.out.cell 1
  have a2 := HM2.out.cell 2
  have a3 := HM2.out.cell 3
  have a4 := HM2.out.cell 4
  simp only [List.getElem?_toArray, List.getElem?_cons_succ, List.getElem?_cons_zero] at a0 a1 a2 a3 a4
  go_wp2_with fail
  refine (KC.out _ _ _).mono ?_
  rintro r w3 ⟨rfl, hb3⟩
  have HB3 : Hid (Below W.heap.size W w3) := Lib.hid (HB2.out.trans (hb3.mono HB2.out.size))
  have HKt3 := Lib.hid (HKt2.out.below hb3 HKt2.out.lt)
  have HKr3 := Lib.hid (HKr2.out.below hb3 HKr2.out.lt)
  have HM3 := Lib.hid (HM2.out.below hb3 HM2.out.lt)
  clear hb3 HB2 HKt2 HKr2 HM2
  clear a0 a1 a2 a3 a4
  clear t0
  go_wp2_with fail
  refine (KZ.out _).mono ?_
  rintro r w4 ⟨A3, k3, rfl, _, hz, hb4⟩
  have HB4 : Hid (Below W.heap.size W w4) := Lib.hid (HB3.out.trans (hb4.mono HB3.out.size))
  have HKt4 := Lib.hid (HKt3.out.below hb4 HKt3.out.lt)
  have HKr4 := Lib.hid (HKr3.out.below hb4 HKr3.out.lt)
  have HM4 := Lib.hid (HM3.out.below hb4 HM3.out.lt)
  clear hb4 HB3 HKt3 HKr3 HM3
  clear hz
  have HB5 : Hid (Below W.heap.size W (w4.alloc (.cells #[.int .u8 P.l.toNat, .int .u8 P.o.toNat, .int .u8 P.g.toNat, .string ⟨P.x.toArray⟩, .slice A3 0 k3] 31))) := Lib.hid (HB4.out.alloc HB4.out.size _)
  have HKt5 := Lib.hid (HKt4.out.alloc (.cells #[.int .u8 P.l.toNat, .int .u8 P.o.toNat, .int .u8 P.g.toNat, .string ⟨P.x.toArray⟩, .slice A3 0 k3] 31))
  have HKr5 := Lib.hid (HKr4.out.alloc (.cells #[.int .u8 P.l.toNat, .int .u8 P.o.toNat, .int .u8 P.g.toNat, .string ⟨P.x.toArray⟩, .slice A3 0 k3] 31))
  have HM5 := Lib.hid (HM4.out.alloc (.cells #[.int .u8 P.l.toNat, .int .u8 P.o.toNat, .int .u8 P.g.toNat, .string ⟨P.x.toArray⟩, .slice A3 0 k3] 31))
  have HN5 := Lib.hid (Blk.new w4 31 #[.int .u8 P.l.toNat, .int .u8 P.o.toNat, .int .u8 P.g.toNat, .string ⟨P.x.toArray⟩, .slice A3 0 k3])
  clear HB4 HKt4 HKr4 HM4
  have a0 := HN5.out.cell 0
  have a1 := HN5.out.cell 1
  have a2 := HN5.out.cell 2
  have a3 := HN5.out.cell 3
  have a4 := HN5.out.cell 4
  simp only [List.getElem?_toArray, List.getElem?_cons_succ, List.getElem?_cons_zero] at a0 a1 a2 a3 a4
  go_wp2_with fail
  refine (KT.out _ _ _).mono ?_
  rintro r w6 ⟨rfl, hb6⟩
  have HB6 : Hid (Below W.heap.size W w6) := Lib.hid (HB5.out.trans (hb6.mono HB5.out.size))
  have HKt6 := Lib.hid (HKt5.out.below hb6 HKt5.out.lt)
  have HKr6 := Lib.hid (HKr5.out.below hb6 HKr5.out.lt)
  have HM6 := Lib.hid (HM5.out.below hb6 HM5.out.lt)
  have HN6 := Lib.hid (HN5.out.below hb6 HN5.out.lt)
  clear hb6 HB5 HKt5 HKr5 HM5 HN5
  clear a0 a1 a2 a3 a4
  have HB7 : Hid (Below W.heap.size W (w6.alloc (.cells #[.int .u8 t.l.toNat, .int .u32 t.q.toNat, .int .u8 t.k.toNat, .int .u8 t.o.a.toNat, .int .u8 t.o.b.toNat, .int .u8 t.o.c.toNat, .int .u8 t.o.d.toNat, .int .u8 t.o.e.toNat, .int .u8 t.o.f.toNat, .int .u8 t.t.a.toNat, .int .u8 t.t.b.toNat, .int .u8 t.t.c.toNat, .int .u8 t.t.d.toNat, .int .u8 t.t.e.toNat, .int .u8 t.t.f.toNat] 35))) := Lib.hid (HB6.out.alloc HB6.out.size _)
  have HKt7 := Lib.hid (HKt6.out.alloc (.cells #[.int .u8 t.l.toNat, .int .u32 t.q.toNat, .int .u8 t.k.toNat, .int .u8 t.o.a.toNat, .int .u8 t.o.b.toNat, .int .u8 t.o.c.toNat, .int .u8 t.o.d.toNat, .int .u8 t.o.e.toNat, .int .u8 t.o.f.toNat, .int .u8 t.t.a.toNat, .int .u8 t.t.b.toNat, .int .u8 t.t.c.toNat, .int .u8 t.t.d.toNat, .int .u8 t.t.e.toNat, .int .u8 t.t.f.toNat] 35))
  have HKr7 := Lib.hid (HKr6.out.alloc (.cells #[.int .u8 t.l.toNat, .int .u32 t.q.toNat, .int .u8 t.k.toNat, .int .u8 t.o.a.toNat, .int .u8 t.o.b.toNat, .int .u8 t.o.c.toNat, .int .u8 t.o.d.toNat, .int .u8 t.o.e.toNat, .int .u8 t.o.f.toNat, .int .u8 t.t.a.toNat, .int .u8 t.t.b.toNat, .int .u8 t.t.c.toNat, .int .u8 t.t.d.toNat, .int .u8 t.t.e.toNat, .int .u8 t.t.f.toNat] 35))
  have HM7 := Lib.hid (HM6.out.alloc (.cells #[.int .u8 t.l.toNat, .int .u32 t.q.toNat, .int .u8 t.k.toNat, .int .u8 t.o.a.toNat, .int .u8 t.o.b.toNat, .int .u8 t.o.c.toNat, .int .u8 t.o.d.toNat, .int .u8 t.o.e.toNat, .int .u8 t.o.f.toNat, .int .u8 t.t.a.toNat, .int .u8 t.t.b.toNat, .int .u8 t.t.c.toNat, .int .u8 t.t.d.toNat, .int .u8 t.t.e.toNat, .int .u8 t.t.f.toNat] 35))
  have HN7 := Lib.hid (HN6.out.alloc (.cells #[.int .u8 t.l.toNat, .int .u32 t.q.toNat, .int .u8 t.k.toNat, .int .u8 t.o.a.toNat, .int .u8 t.o.b.toNat, .int .u8 t.o.c.toNat, .int .u8 t.o.d.toNat, .int .u8 t.o.e.toNat, .int .u8 t.o.f.toNat, .int .u8 t.t.a.toNat, .int .u8 t.t.b.toNat, .int .u8 t.t.c.toNat, .int .u8 t.t.d.toNat, .int .u8 t.t.e.toNat, .int .u8 t.t.f.toNat] 35))
  have HX7 := Lib.hid (Blk.new w6 35 #[.int .u8 t.l.toNat, .int .u32 t.q.toNat, .int .u8 t.k.toNat, .int .u8 t.o.a.toNat, .int .u8 t.o.b.toNat, .int .u8 t.o.c.toNat, .int .u8 t.o.d.toNat, .int .u8 t.o.e.toNat, .int .u8 t.o.f.toNat, .int .u8 t.t.a.toNat, .int .u8 t.t.b.toNat, .int .u8 t.t.c.toNat, .int .u8 t.t.d.toNat, .int .u8 t.t.e.toNat, .int .u8 t.t.f.toNat])
  clear HB6 HKt6 HKr6 HM6 HN6
  have a0 := HN7.out.cell 0
  have a1 := HN7.out.cell 1
  have a2 := HN7.out.cell 2
  have a3 := HN7.out.cell 3
  have a4 := HN7.out.cell 4
  simp only [List.getElem?_toArray, List.getElem?_cons_succ, List.getElem?_cons_zero] at a0 a1 a2 a3 a4
  go_wp2_with fail
  refine (KU.out _ _ _).mono ?_
  rintro r w8 ⟨rfl, hb8⟩
  have HB8 : Hid (Below W.heap.size W w8) := Lib.hid (HB7.out.trans (hb8.mono HB7.out.size))
  have HKt8 := Lib.hid (HKt7.out.below hb8 HKt7.out.lt)
  have HKr8 := Lib.hid (HKr7.out.below hb8 HKr7.out.lt)
  have HM8 := Lib.hid (HM7.out.below hb8 HM7.out.lt)
  have HN8 := Lib.hid (HN7.out.below hb8 HN7.out.lt)
  have HX8 := Lib.hid (HX7.out.below hb8 HX7.out.lt)
  clear hb8 HB7 HKt7 HKr7 HM7 HN7 HX7
  clear a0 a1 a2 a3 a4
  clear HN8
  have HB9 : Hid (Below W.heap.size W (w8.alloc (.cells #[.int .u8 Y.l.toNat, .int .u32 Y.q.toNat, .int .u8 Y.k.toNat, .bool Y.s, .bool Y.e, .int .u8 Y.i.a.toNat, .int .u8 Y.i.b.toNat, .int .u8 Y.i.c.toNat, .int .u8 Y.i.d.toNat, .int .u8 Y.i.e.toNat, .int .u8 Y.i.f.toNat, .int .u8 Y.u.a.toNat, .int .u8 Y.u.b.toNat, .int .u8 Y.u.c.toNat, .int .u8 Y.u.d.toNat, .int .u8 Y.u.e.toNat, .int .u8 Y.u.f.toNat] 43))) := Lib.hid (HB8.out.alloc HB8.out.size _)
  have HKt9 := Lib.hid (HKt8.out.alloc (.cells #[.int .u8 Y.l.toNat, .int .u32 Y.q.toNat, .int .u8 Y.k.toNat, .bool Y.s, .bool Y.e, .int .u8 Y.i.a.toNat, .int .u8 Y.i.b.toNat, .int .u8 Y.i.c.toNat, .int .u8 Y.i.d.toNat, .int .u8 Y.i.e.toNat, .int .u8 Y.i.f.toNat, .int .u8 Y.u.a.toNat, .int .u8 Y.u.b.toNat, .int .u8 Y.u.c.toNat, .int .u8 Y.u.d.toNat, .int .u8 Y.u.e.toNat, .int .u8 Y.u.f.toNat] 43))
  have HKr9 := Lib.hid (HKr8.out.alloc (.cells #[.int .u8 Y.l.toNat, .int .u32 Y.q.toNat, .int .u8 Y.k.toNat, .bool Y.s, .bool Y.e, .int .u8 Y.i.a.toNat, .int .u8 Y.i.b.toNat, .int .u8 Y.i.c.toNat, .int .u8 Y.i.d.toNat, .int .u8 Y.i.e.toNat, .int .u8 Y.i.f.toNat, .int .u8 Y.u.a.toNat, .int .u8 Y.u.b.toNat, .int .u8 Y.u.c.toNat, .int .u8 Y.u.d.toNat, .int .u8 Y.u.e.toNat, .int .u8 Y.u.f.toNat] 43))
  have HM9 := Lib.hid (HM8.out.alloc (.cells #[.int .u8 Y.l.toNat, .int .u32 Y.q.toNat, .int .u8 Y.k.toNat, .bool Y.s, .bool Y.e, .int .u8 Y.i.a.toNat, .int .u8 Y.i.b.toNat, .int .u8 Y.i.c.toNat, .int .u8 Y.i.d.toNat, .int .u8 Y.i.e.toNat, .int .u8 Y.i.f.toNat, .int .u8 Y.u.a.toNat, .int .u8 Y.u.b.toNat, .int .u8 Y.u.c.toNat, .int .u8 Y.u.d.toNat, .int .u8 Y.u.e.toNat, .int .u8 Y.u.f.toNat] 43))
  have HX9 := Lib.hid (HX8.out.alloc (.cells #[.int .u8 Y.l.toNat, .int .u32 Y.q.toNat, .int .u8 Y.k.toNat, .bool Y.s, .bool Y.e, .int .u8 Y.i.a.toNat, .int .u8 Y.i.b.toNat, .int .u8 Y.i.c.toNat, .int .u8 Y.i.d.toNat, .int .u8 Y.i.e.toNat, .int .u8 Y.i.f.toNat, .int .u8 Y.u.a.toNat, .int .u8 Y.u.b.toNat, .int .u8 Y.u.c.toNat, .int .u8 Y.u.d.toNat, .int .u8 Y.u.e.toNat, .int .u8 Y.u.f.toNat] 43))
  have HY9 := Lib.hid (Blk.new w8 43 #[.int .u8 Y.l.toNat, .int .u32 Y.q.toNat, .int .u8 Y.k.toNat, .bool Y.s, .bool Y.e, .int .u8 Y.i.a.toNat, .int .u8 Y.i.b.toNat, .int .u8 Y.i.c.toNat, .int .u8 Y.i.d.toNat, .int .u8 Y.i.e.toNat, .int .u8 Y.i.f.toNat, .int .u8 Y.u.a.toNat, .int .u8 Y.u.b.toNat, .int .u8 Y.u.c.toNat, .int .u8 Y.u.d.toNat, .int .u8 Y.u.e.toNat, .int .u8 Y.u.f.toNat])
  clear HB8 HKt8 HKr8 HM8 HX8
  have qt := QT.out
  go_upto_region 13 with (first
    | (refine wpList_load_cs 35 13 rfl (by kernel_rfl) w6.heap.size 35 #[.int .u8 t.l.toNat, .int .u32 t.q.toNat, .int .u8 t.k.toNat, .int .u8 t.o.a.toNat, .int .u8 t.o.b.toNat, .int .u8 t.o.c.toNat, .int .u8 t.o.d.toNat, .int .u8 t.o.e.toNat, .int .u8 t.o.f.toNat, .int .u8 t.t.a.toNat, .int .u8 t.t.b.toNat, .int .u8 t.t.c.toNat, .int .u8 t.t.d.toNat, .int .u8 t.t.e.toNat, .int .u8 t.t.f.toNat] _ rfl HX9.out Try.underlying35 rfl (by kernel_rfl) ?_)
    | (refine wpList_load_cs 35 3 rfl (by kernel_rfl) W.heap.size 35 #[.int .u8 t.l.toNat, .int .u32 t.q.toNat, .int .u8 t.k.toNat, .int .u8 t.o.a.toNat, .int .u8 t.o.b.toNat, .int .u8 t.o.c.toNat, .int .u8 t.o.d.toNat, .int .u8 t.o.e.toNat, .int .u8 t.o.f.toNat, .int .u8 t.t.a.toNat, .int .u8 t.t.b.toNat, .int .u8 t.t.c.toNat, .int .u8 t.t.d.toNat, .int .u8 t.t.e.toNat, .int .u8 t.t.f.toNat] _ rfl HKt9.out Try.underlying35 rfl (by kernel_rfl) ?_))
  clear qt
  clear HX9
  clear HY9
  clear HKt9
  go_wp2_with (first
    | (refine wpList_load_cs 43 4 rfl (by kernel_rfl) (W.heap.size + 1) 43 #[.int .u8 r.l.toNat, .int .u32 r.q.toNat, .int .u8 r.k.toNat, .bool r.s, .bool r.e, .int .u8 r.i.a.toNat, .int .u8 r.i.b.toNat, .int .u8 r.i.c.toNat, .int .u8 r.i.d.toNat, .int .u8 r.i.e.toNat, .int .u8 r.i.f.toNat, .int .u8 r.u.a.toNat, .int .u8 r.u.b.toNat, .int .u8 r.u.c.toNat, .int .u8 r.u.d.toNat, .int .u8 r.u.e.toNat, .int .u8 r.u.f.toNat] _ rfl HKr9.out Try.underlying43 rfl (by kernel_rfl) ?_))
  refine (KQ.out _).mono ?_
  rintro r w10 ⟨A2, k2, rfl, hF, hz, hfr, hb10⟩
  have HB10 : Hid (Below W.heap.size W w10) := Lib.hid (HB9.out.trans (hb10.mono HB9.out.size))
  have HKr10 := Lib.hid (HKr9.out.below hb10 HKr9.out.lt)
  have HM10 := Lib.hid (HM9.out.below hb10 HM9.out.lt)
  have HFR : Hid (0 < Q.t.length → ∀ a, A2 = some a → a.block ≠ w1.heap.size) := Lib.hid (fun h0 a ha h => by have h1 := hfr (by have := HN2.out; omega) a ha; have h2 := HM9.out.lt; omega)
  clear hb10 HB9 HKr9 HM9
  clear hz hfr
  have HEQ : Hid (0 < Q.t.length → Els 2 tlV w10 A2 Q.t) := Lib.hid (fun _ => hF)
  clear hF
  have HEQ2 : Hid (Els 2 tlV (w10.setRow w1.heap.size #[.int .u8 Q.l.toNat, .int .u8 Q.o.toNat, .int .u8 Q.g.toNat, .string ⟨Q.x.toArray⟩, .slice A2 n2 k2]) A2 Q.t) := Lib.hid (by
    by_cases h0 : 0 < Q.t.length
    · exact els_row (HEQ.out h0) HM10.out trivial (HFR.out h0)
    · exact fun h => absurd h h0)
  have HMs := HM10
  have HB11 : Hid (Below W.heap.size W (w10.setRow w1.heap.size #[.int .u8 Q.l.toNat, .int .u8 Q.o.toNat, .int .u8 Q.g.toNat, .string ⟨Q.x.toArray⟩, .slice A2 n2 k2])) := Lib.hid (below_row HB10.out (by have := HG7.out; omega) _)
  have HKr11 := Lib.hid (HKr10.out.rowFar (k := w1.heap.size) (by have := HG7.out; omega) #[.int .u8 Q.l.toNat, .int .u8 Q.o.toNat, .int .u8 Q.g.toNat, .string ⟨Q.x.toArray⟩, .slice A2 n2 k2])
  have HM11 := Lib.hid (HM10.out.row #[.int .u8 Q.l.toNat, .int .u8 Q.o.toNat, .int .u8 Q.g.toNat, .string ⟨Q.x.toArray⟩, .slice A2 n2 k2])
  clear HB10 HKr10 HM10
  clear HEQ HFR
  have r0 := HKr11.out.cell 0
  simp only [List.getElem?_toArray, List.getElem?_cons_succ, List.getElem?_cons_zero] at r0
  clear HEQ2
  clear HM11
  go_wp2_with (first
    | (refine wpList_store_row rfl 31 (.tmp 7) (.tmp 86) rfl w1.heap.size rfl #[.int .u8 Q.l.toNat, .int .u8 Q.o.toNat, .int .u8 Q.g.toNat, .string ⟨Q.x.toArray⟩, .slice A2 n2 k2] rfl 31 _ HMs.out (by kernel_rfl) rfl (by kernel_rfl) ?_))
  refine (wakes15 HP.out HT.out HQ.out HU.out _).mono ?_
  rintro r w12 ⟨rfl, hb12⟩
  have HB12 : Hid (Below W.heap.size W w12) := Lib.hid (HB11.out.trans (hb12.mono HB11.out.size))
  have HKr12 := Lib.hid (HKr11.out.below hb12 HKr11.out.lt)
  clear hb12 HB11 HKr11
  go_wp2
  go_ret
  exact ⟨rfl, HB12.out⟩

set_option maxHeartbeats 8000000 in
theorem ltmback_01 (HPC : LtPutC) (HTC : LtTakeC) (HQC : LtPutRC) (HUC : LtTakeRC) (W : World) (t : Tc) (r : Ry) (s : List UInt8) (hl : ¬ 1000 < s.length) (h1 : ¬ tcE t = 0) (h2 : ryE r = 0) :
    Calls Try.prog 4 #[TcV t, RyV r, .string ⟨s.toArray⟩] W fun e w' => e = .returned (.bool true) ∧ Below W.heap.size W w' := by
  have HP := Lib.hid HPC
  have HT := Lib.hid HTC
  have HQ := Lib.hid HQC
  have HU := Lib.hid HUC
  clear HPC HTC HQC HUC
  have HB0 : Hid (Below W.heap.size W ((W.alloc (.cells #[.int .u8 t.l.toNat, .int .u32 t.q.toNat, .int .u8 t.k.toNat, .int .u8 t.o.a.toNat, .int .u8 t.o.b.toNat, .int .u8 t.o.c.toNat, .int .u8 t.o.d.toNat, .int .u8 t.o.e.toNat, .int .u8 t.o.f.toNat, .int .u8 t.t.a.toNat, .int .u8 t.t.b.toNat, .int .u8 t.t.c.toNat, .int .u8 t.t.d.toNat, .int .u8 t.t.e.toNat, .int .u8 t.t.f.toNat] 35)).alloc (.cells #[.int .u8 r.l.toNat, .int .u32 r.q.toNat, .int .u8 r.k.toNat, .bool r.s, .bool r.e, .int .u8 r.i.a.toNat, .int .u8 r.i.b.toNat, .int .u8 r.i.c.toNat, .int .u8 r.i.d.toNat, .int .u8 r.i.e.toNat, .int .u8 r.i.f.toNat, .int .u8 r.u.a.toNat, .int .u8 r.u.b.toNat, .int .u8 r.u.c.toNat, .int .u8 r.u.d.toNat, .int .u8 r.u.e.toNat, .int .u8 r.u.f.toNat] 43))) := Lib.hid (((Below.refl _ _).alloc (Nat.le_refl _) _).alloc (by simp) _)
  have HKt0 : Hid (Blk ((W.alloc (.cells #[.int .u8 t.l.toNat, .int .u32 t.q.toNat, .int .u8 t.k.toNat, .int .u8 t.o.a.toNat, .int .u8 t.o.b.toNat, .int .u8 t.o.c.toNat, .int .u8 t.o.d.toNat, .int .u8 t.o.e.toNat, .int .u8 t.o.f.toNat, .int .u8 t.t.a.toNat, .int .u8 t.t.b.toNat, .int .u8 t.t.c.toNat, .int .u8 t.t.d.toNat, .int .u8 t.t.e.toNat, .int .u8 t.t.f.toNat] 35)).alloc (.cells #[.int .u8 r.l.toNat, .int .u32 r.q.toNat, .int .u8 r.k.toNat, .bool r.s, .bool r.e, .int .u8 r.i.a.toNat, .int .u8 r.i.b.toNat, .int .u8 r.i.c.toNat, .int .u8 r.i.d.toNat, .int .u8 r.i.e.toNat, .int .u8 r.i.f.toNat, .int .u8 r.u.a.toNat, .int .u8 r.u.b.toNat, .int .u8 r.u.c.toNat, .int .u8 r.u.d.toNat, .int .u8 r.u.e.toNat, .int .u8 r.u.f.toNat] 43)) W.heap.size 35 #[.int .u8 t.l.toNat, .int .u32 t.q.toNat, .int .u8 t.k.toNat, .int .u8 t.o.a.toNat, .int .u8 t.o.b.toNat, .int .u8 t.o.c.toNat, .int .u8 t.o.d.toNat, .int .u8 t.o.e.toNat, .int .u8 t.o.f.toNat, .int .u8 t.t.a.toNat, .int .u8 t.t.b.toNat, .int .u8 t.t.c.toNat, .int .u8 t.t.d.toNat, .int .u8 t.t.e.toNat, .int .u8 t.t.f.toNat]) := Lib.hid ((Blk.new _ _ _).alloc _)
  have HKr0 : Hid (Blk ((W.alloc (.cells #[.int .u8 t.l.toNat, .int .u32 t.q.toNat, .int .u8 t.k.toNat, .int .u8 t.o.a.toNat, .int .u8 t.o.b.toNat, .int .u8 t.o.c.toNat, .int .u8 t.o.d.toNat, .int .u8 t.o.e.toNat, .int .u8 t.o.f.toNat, .int .u8 t.t.a.toNat, .int .u8 t.t.b.toNat, .int .u8 t.t.c.toNat, .int .u8 t.t.d.toNat, .int .u8 t.t.e.toNat, .int .u8 t.t.f.toNat] 35)).alloc (.cells #[.int .u8 r.l.toNat, .int .u32 r.q.toNat, .int .u8 r.k.toNat, .bool r.s, .bool r.e, .int .u8 r.i.a.toNat, .int .u8 r.i.b.toNat, .int .u8 r.i.c.toNat, .int .u8 r.i.d.toNat, .int .u8 r.i.e.toNat, .int .u8 r.i.f.toNat, .int .u8 r.u.a.toNat, .int .u8 r.u.b.toNat, .int .u8 r.u.c.toNat, .int .u8 r.u.d.toNat, .int .u8 r.u.e.toNat, .int .u8 r.u.f.toNat] 43)) (W.heap.size + 1) 43 #[.int .u8 r.l.toNat, .int .u32 r.q.toNat, .int .u8 r.k.toNat, .bool r.s, .bool r.e, .int .u8 r.i.a.toNat, .int .u8 r.i.b.toNat, .int .u8 r.i.c.toNat, .int .u8 r.i.d.toNat, .int .u8 r.i.e.toNat, .int .u8 r.i.f.toNat, .int .u8 r.u.a.toNat, .int .u8 r.u.b.toNat, .int .u8 r.u.c.toNat, .int .u8 r.u.d.toNat, .int .u8 r.u.e.toNat, .int .u8 r.u.f.toNat]) := Lib.hid (by
    have := Blk.new (W.alloc (.cells #[.int .u8 t.l.toNat, .int .u32 t.q.toNat, .int .u8 t.k.toNat, .int .u8 t.o.a.toNat, .int .u8 t.o.b.toNat, .int .u8 t.o.c.toNat, .int .u8 t.o.d.toNat, .int .u8 t.o.e.toNat, .int .u8 t.o.f.toNat, .int .u8 t.t.a.toNat, .int .u8 t.t.b.toNat, .int .u8 t.t.c.toNat, .int .u8 t.t.d.toNat, .int .u8 t.t.e.toNat, .int .u8 t.t.f.toNat] 35)) 43 #[.int .u8 r.l.toNat, .int .u32 r.q.toNat, .int .u8 r.k.toNat, .bool r.s, .bool r.e, .int .u8 r.i.a.toNat, .int .u8 r.i.b.toNat, .int .u8 r.i.c.toNat, .int .u8 r.i.d.toNat, .int .u8 r.i.e.toNat, .int .u8 r.i.f.toNat, .int .u8 r.u.a.toNat, .int .u8 r.u.b.toNat, .int .u8 r.u.c.toNat, .int .u8 r.u.d.toNat, .int .u8 r.u.e.toNat, .int .u8 r.u.f.toNat]
    simpa using this)
  have p0 : ¬ (1000 : Int) < (s.length : Int) := by omega
  have HSL := Lib.hid (show s.length ≤ 1000 by omega)
  have KP := Lib.hid (fun w => HP.out t w)
  have KQ := Lib.hid (fun w => HQ.out r w)
  have hpt : (tcP t).t = [] := by unfold tcP; split <;> rfl
  have hqt : (ryP r).t.length ≤ 2 ∧ (ryP r).x.length ≤ 6 := ryP_small r
  have HTE := Lib.hid (@tcE_is t)
  have HRE := Lib.hid (@ryE_is r)
  have HTB := Lib.hid (fun h => @tc_back t h)
  have HTN := Lib.hid (fun h => @tc_noReply t h)
  have HTL := Lib.hid (fun h => @tc_lv t h)
  have HTP := Lib.hid (fun h => @tc_pd t h)
  have HRB := Lib.hid (fun h => @ry_back r h)
  have HRN := Lib.hid (fun h => @ry_noTrace r h)
  have HRL := Lib.hid (fun h => @ry_lv r h)
  have HRP := Lib.hid (fun h => @ry_pd r h)
  obtain ⟨P, hP⟩ : ∃ P, tcP t = P := ⟨_, rfl⟩
  obtain ⟨Q, hQ⟩ : ∃ P, ryP r = P := ⟨_, rfl⟩
  obtain ⟨E, hE⟩ : ∃ E, tcE t = E := ⟨_, rfl⟩
  obtain ⟨G, hG⟩ : ∃ E, ryE r = E := ⟨_, rfl⟩
  have hE0 := hE
  have hG0 := hG
  rw [hP, hE] at KP
  rw [hQ, hG] at KQ
  rw [hP] at hpt HTB HTN HTP HTL
  rw [hQ] at hqt HRB HRN HRP HRL
  rw [hE] at HTE HTB HTN HTP HTL
  rw [hG] at HRE HRB HRN HRP HRL
  have hlen : P.t.length = 0 := by rw [hpt]; rfl
  have HPT := Lib.hid hpt
  have HPN := Lib.hid hlen
  have HQT := Lib.hid hqt
  obtain ⟨n2, hn2⟩ : ∃ n, Q.t.length = n := ⟨_, rfl⟩
  have HN2 := Lib.hid hn2
  simp only [PdV, hlen] at KP
  simp only [PdV, hn2] at KQ
  have qt : ∀ w : World, (Op.equalIn 10000 35 (.agg #[.int .u8 t.l.toNat, .int .u32 t.q.toNat, .int .u8 t.k.toNat, .int .u8 t.o.a.toNat, .int .u8 t.o.b.toNat, .int .u8 t.o.c.toNat, .int .u8 t.o.d.toNat, .int .u8 t.o.e.toNat, .int .u8 t.o.f.toNat, .int .u8 t.t.a.toNat, .int .u8 t.t.b.toNat, .int .u8 t.t.c.toNat, .int .u8 t.t.d.toNat, .int .u8 t.t.e.toNat, .int .u8 t.t.f.toNat]) (.agg #[.int .u8 t.l.toNat, .int .u32 t.q.toNat, .int .u8 t.k.toNat, .int .u8 t.o.a.toNat, .int .u8 t.o.b.toNat, .int .u8 t.o.c.toNat, .int .u8 t.o.d.toNat, .int .u8 t.o.e.toNat, .int .u8 t.o.f.toNat, .int .u8 t.t.a.toNat, .int .u8 t.t.b.toNat, .int .u8 t.t.c.toNat, .int .u8 t.t.d.toNat, .int .u8 t.t.e.toNat, .int .u8 t.t.f.toNat])).run Try.prog w = .ok true w := fun w => by
    have := run_eqTc t t w
    simp only [decide_true] at this
    exact this
  have qr : ∀ w : World, (Op.equalIn 10000 43 (.agg #[.int .u8 r.l.toNat, .int .u32 r.q.toNat, .int .u8 r.k.toNat, .bool r.s, .bool r.e, .int .u8 r.i.a.toNat, .int .u8 r.i.b.toNat, .int .u8 r.i.c.toNat, .int .u8 r.i.d.toNat, .int .u8 r.i.e.toNat, .int .u8 r.i.f.toNat, .int .u8 r.u.a.toNat, .int .u8 r.u.b.toNat, .int .u8 r.u.c.toNat, .int .u8 r.u.d.toNat, .int .u8 r.u.e.toNat, .int .u8 r.u.f.toNat]) (.agg #[.int .u8 r.l.toNat, .int .u32 r.q.toNat, .int .u8 r.k.toNat, .bool r.s, .bool r.e, .int .u8 r.i.a.toNat, .int .u8 r.i.b.toNat, .int .u8 r.i.c.toNat, .int .u8 r.i.d.toNat, .int .u8 r.i.e.toNat, .int .u8 r.i.f.toNat, .int .u8 r.u.a.toNat, .int .u8 r.u.b.toNat, .int .u8 r.u.c.toNat, .int .u8 r.u.d.toNat, .int .u8 r.u.e.toNat, .int .u8 r.u.f.toNat])).run Try.prog w = .ok true w := fun w => by
    have := run_eqRy r r w
    simp only [decide_true] at this
    exact this
  have QT := Lib.hid qt
  have QR := Lib.hid qr
  clear hl hpt hqt hP hQ hE hG hlen hn2 qt qr
  rw [hE0] at h1
  rw [hG0] at h2
  clear hE0 hG0
  have pt : ¬ (t.l.toNat : Int) < 8 := by have := HTE.out; omega
  have e1 : ((E : Int) == 0) = false := by rw [beq_eq_false_iff_ne]; omega
  clear h1
  subst h2
  have pr : (r.l.toNat : Int) < 8 := by have := HRE.out.1 rfl; omega
  have hPD2 := HRP.out rfl
  have hbk2 := cf_back hPD2 s
  have hvl2 := pdP_len Q
  have hqq := HQT.out
  have KC2 := Lib.hid (fun A k w h => cfput_any A k Q w h (by omega))
  obtain ⟨V2, hV2⟩ : ∃ V, pdP Q = V := ⟨_, rfl⟩
  rw [hV2] at hbk2 hvl2
  rw [hV2, hPD2] at KC2
  obtain ⟨Z2, hZ2⟩ : ∃ Z, V2 ++ s = Z := ⟨_, rfl⟩
  rw [hZ2] at hbk2
  have KZ2 := Lib.hid (fun w => cftake_any Z2 w (by rw [← hZ2, List.length_append]; have := HSL.out; omega))
  rw [hbk2.1, hbk2.2] at KZ2
  have KU2 := Lib.hid (fun A k w h => HU.out A k Q w h (by omega) (by omega) (HRL.out rfl).1)
  rw [(HRB.out rfl).1, (HRB.out rfl).2] at KU2
  have KT2 := Lib.hid (fun A k w h => HT.out A k Q w h (by omega) (by omega) (HRL.out rfl).1 (HRL.out rfl).2)
  rw [HRN.out rfl] at KT2
  obtain ⟨Y2, hY2⟩ : ∃ Y, tcX Q = Y := ⟨_, rfl⟩
  rw [hY2] at KT2
  simp only [PdV, HN2.out] at KC2 KZ2 KU2 KT2
  have a2 : ∀ w : World, (Op.stringOp .add ⟨V2.toArray⟩ ⟨s.toArray⟩).run Try.prog w = .ok (.string ⟨Z2.toArray⟩) w := fun w => by rw [← hZ2]; exact run_string_add_lists w V2 s (by omega) (by have := HSL.out; omega)
  clear hPD2 hbk2 hvl2 hqq hV2 hZ2 hY2
  go_enter Try.func4, Try.ntmps4
  go_wp2_with (first
    | (refine wpList_load_cs 35 3 rfl (by kernel_rfl) W.heap.size 35 #[.int .u8 t.l.toNat, .int .u32 t.q.toNat, .int .u8 t.k.toNat, .int .u8 t.o.a.toNat, .int .u8 t.o.b.toNat, .int .u8 t.o.c.toNat, .int .u8 t.o.d.toNat, .int .u8 t.o.e.toNat, .int .u8 t.o.f.toNat, .int .u8 t.t.a.toNat, .int .u8 t.t.b.toNat, .int .u8 t.t.c.toNat, .int .u8 t.t.d.toNat, .int .u8 t.t.e.toNat, .int .u8 t.t.f.toNat] _ rfl HKt0.out Try.underlying35 rfl (by kernel_rfl) ?_))
  refine (KP.out _).mono ?_
  rintro r w1 ⟨A1, k1, rfl, hz, hb1⟩
  have HB1 : Hid (Below W.heap.size W w1) := Lib.hid (HB0.out.trans (hb1.mono HB0.out.size))
  have HKt1 := Lib.hid (HKt0.out.below hb1 HKt0.out.lt)
  have HKr1 := Lib.hid (HKr0.out.below hb1 HKr0.out.lt)
  clear hb1 HB0 HKt0 HKr0
  clear hz
  have HG7 : Hid (W.heap.size + 1 < w1.heap.size) := Lib.hid HKr1.out.lt
  have HB2 : Hid (Below W.heap.size W (w1.alloc (.cells #[.int .u8 P.l.toNat, .int .u8 P.o.toNat, .int .u8 P.g.toNat, .string ⟨P.x.toArray⟩, .slice A1 0 k1] 31))) := Lib.hid (HB1.out.alloc HB1.out.size _)
  have HKt2 := Lib.hid (HKt1.out.alloc (.cells #[.int .u8 P.l.toNat, .int .u8 P.o.toNat, .int .u8 P.g.toNat, .string ⟨P.x.toArray⟩, .slice A1 0 k1] 31))
  have HKr2 := Lib.hid (HKr1.out.alloc (.cells #[.int .u8 P.l.toNat, .int .u8 P.o.toNat, .int .u8 P.g.toNat, .string ⟨P.x.toArray⟩, .slice A1 0 k1] 31))
  have HM2 := Lib.hid (Blk.new w1 31 #[.int .u8 P.l.toNat, .int .u8 P.o.toNat, .int .u8 P.g.toNat, .string ⟨P.x.toArray⟩, .slice A1 0 k1])
  clear HB1 HKt1 HKr1
  have t0 := HKt2.out.cell 0
  simp only [List.getElem?_toArray, List.getElem?_cons_succ, List.getElem?_cons_zero] at t0
  go_upto_region 13 with (fail)
  clear t0
  clear HKt2
  go_wp2_with (first
    | (refine wpList_load_cs 43 4 rfl (by kernel_rfl) (W.heap.size + 1) 43 #[.int .u8 r.l.toNat, .int .u32 r.q.toNat, .int .u8 r.k.toNat, .bool r.s, .bool r.e, .int .u8 r.i.a.toNat, .int .u8 r.i.b.toNat, .int .u8 r.i.c.toNat, .int .u8 r.i.d.toNat, .int .u8 r.i.e.toNat, .int .u8 r.i.f.toNat, .int .u8 r.u.a.toNat, .int .u8 r.u.b.toNat, .int .u8 r.u.c.toNat, .int .u8 r.u.d.toNat, .int .u8 r.u.e.toNat, .int .u8 r.u.f.toNat] _ rfl HKr2.out Try.underlying43 rfl (by kernel_rfl) ?_))
  refine (KQ.out _).mono ?_
  rintro r w3 ⟨A2, k2, rfl, hF, hz, hfr, hb3⟩
  have HB3 : Hid (Below W.heap.size W w3) := Lib.hid (HB2.out.trans (hb3.mono HB2.out.size))
  have HKr3 := Lib.hid (HKr2.out.below hb3 HKr2.out.lt)
  have HM3 := Lib.hid (HM2.out.below hb3 HM2.out.lt)
  have HFR : Hid (0 < Q.t.length → ∀ a, A2 = some a → a.block ≠ w1.heap.size) := Lib.hid (fun h0 a ha h => by have h1 := hfr (by have := HN2.out; omega) a ha; have h2 := HM2.out.lt; omega)
  clear hb3 HB2 HKr2 HM2
  clear hz hfr
  have HEQ : Hid (0 < Q.t.length → Els 2 tlV w3 A2 Q.t) := Lib.hid (fun _ => hF)
  clear hF
  have HEQ2 : Hid (Els 2 tlV (w3.setRow w1.heap.size #[.int .u8 Q.l.toNat, .int .u8 Q.o.toNat, .int .u8 Q.g.toNat, .string ⟨Q.x.toArray⟩, .slice A2 n2 k2]) A2 Q.t) := Lib.hid (by
    by_cases h0 : 0 < Q.t.length
    · exact els_row (HEQ.out h0) HM3.out trivial (HFR.out h0)
    · exact fun h => absurd h h0)
  have HMs := HM3
  have HB4 : Hid (Below W.heap.size W (w3.setRow w1.heap.size #[.int .u8 Q.l.toNat, .int .u8 Q.o.toNat, .int .u8 Q.g.toNat, .string ⟨Q.x.toArray⟩, .slice A2 n2 k2])) := Lib.hid (below_row HB3.out (by have := HG7.out; omega) _)
  have HKr4 := Lib.hid (HKr3.out.rowFar (k := w1.heap.size) (by have := HG7.out; omega) #[.int .u8 Q.l.toNat, .int .u8 Q.o.toNat, .int .u8 Q.g.toNat, .string ⟨Q.x.toArray⟩, .slice A2 n2 k2])
  have HM4 := Lib.hid (HM3.out.row #[.int .u8 Q.l.toNat, .int .u8 Q.o.toNat, .int .u8 Q.g.toNat, .string ⟨Q.x.toArray⟩, .slice A2 n2 k2])
  clear HB3 HKr3 HM3
  clear HEQ HFR
  have r0 := HKr4.out.cell 0
  simp only [List.getElem?_toArray, List.getElem?_cons_succ, List.getElem?_cons_zero] at r0
  have a0 := HM4.out.cell 0
  have a1 := HM4.out.cell 1
  have a2 := HM4.out.cell 2
  have a3 := HM4.out.cell 3
  have a4 := HM4.out.cell 4
  simp only [List.getElem?_toArray, List.getElem?_cons_succ, List.getElem?_cons_zero] at a0 a1 a2 a3 a4
  go_wp2_with (first
    | (refine wpList_store_row rfl 31 (.tmp 7) (.tmp 86) rfl w1.heap.size rfl #[.int .u8 Q.l.toNat, .int .u8 Q.o.toNat, .int .u8 Q.g.toNat, .string ⟨Q.x.toArray⟩, .slice A2 n2 k2] rfl 31 _ HMs.out (by kernel_rfl) rfl (by kernel_rfl) ?_))
  refine (KC2.out _ _ _ HEQ2.out).mono ?_
  rintro r w5 ⟨rfl, hb5⟩
  have HB5 : Hid (Below W.heap.size W w5) := Lib.hid (HB4.out.trans (hb5.mono HB4.out.size))
  have HKr5 := Lib.hid (HKr4.out.below hb5 HKr4.out.lt)
  have HM5 := Lib.hid (HM4.out.below hb5 HM4.out.lt)
  have HF5 : Hid (Els 2 tlV w5 A2 Q.t) := Lib.hid (HEQ2.out.next hb5)
  clear hb5 HB4 HKr4 HM4 HEQ2
  clear a0 a1 a2 a3 a4
  clear r0
  clear HMs
  clear HM5
  clear HF5
  go_wp2_with fail
  refine (KZ2.out _).mono ?_
  rintro r w6 ⟨A5, k5, rfl, hF, hz, hb6⟩
  have HB6 : Hid (Below W.heap.size W w6) := Lib.hid (HB5.out.trans (hb6.mono HB5.out.size))
  have HKr6 := Lib.hid (HKr5.out.below hb6 HKr5.out.lt)
  clear hb6 HB5 HKr5
  clear hz
  have HF6 : Hid (Els 2 tlV w6 A5 Q.t) := Lib.hid hF
  clear hF
  have HB7 : Hid (Below W.heap.size W (w6.alloc (.cells #[.int .u8 Q.l.toNat, .int .u8 Q.o.toNat, .int .u8 Q.g.toNat, .string ⟨Q.x.toArray⟩, .slice A5 n2 k5] 31))) := Lib.hid (HB6.out.alloc HB6.out.size _)
  have HKr7 := Lib.hid (HKr6.out.alloc (.cells #[.int .u8 Q.l.toNat, .int .u8 Q.o.toNat, .int .u8 Q.g.toNat, .string ⟨Q.x.toArray⟩, .slice A5 n2 k5] 31))
  have HF7 : Hid (Els 2 tlV (w6.alloc (.cells #[.int .u8 Q.l.toNat, .int .u8 Q.o.toNat, .int .u8 Q.g.toNat, .string ⟨Q.x.toArray⟩, .slice A5 n2 k5] 31)) A5 Q.t) := Lib.hid (HF6.out.next ((Below.refl _ _).alloc (Nat.le_refl _) _))
  have HN7 := Lib.hid (Blk.new w6 31 #[.int .u8 Q.l.toNat, .int .u8 Q.o.toNat, .int .u8 Q.g.toNat, .string ⟨Q.x.toArray⟩, .slice A5 n2 k5])
  clear HB6 HKr6 HF6
  have a0 := HN7.out.cell 0
  have a1 := HN7.out.cell 1
  have a2 := HN7.out.cell 2
  have a3 := HN7.out.cell 3
  have a4 := HN7.out.cell 4
  simp only [List.getElem?_toArray, List.getElem?_cons_succ, List.getElem?_cons_zero] at a0 a1 a2 a3 a4
  go_wp2_with fail
  refine (KU2.out _ _ _ HF7.out).mono ?_
  rintro r w8 ⟨rfl, hb8⟩
  have HB8 : Hid (Below W.heap.size W w8) := Lib.hid (HB7.out.trans (hb8.mono HB7.out.size))
  have HKr8 := Lib.hid (HKr7.out.below hb8 HKr7.out.lt)
  have HN8 := Lib.hid (HN7.out.below hb8 HN7.out.lt)
  have HF8 : Hid (Els 2 tlV w8 A5 Q.t) := Lib.hid (HF7.out.next hb8)
  clear hb8 HB7 HKr7 HN7 HF7
  clear a0 a1 a2 a3 a4
  have HB9 : Hid (Below W.heap.size W (w8.alloc (.cells #[.int .u8 r.l.toNat, .int .u32 r.q.toNat, .int .u8 r.k.toNat, .bool r.s, .bool r.e, .int .u8 r.i.a.toNat, .int .u8 r.i.b.toNat, .int .u8 r.i.c.toNat, .int .u8 r.i.d.toNat, .int .u8 r.i.e.toNat, .int .u8 r.i.f.toNat, .int .u8 r.u.a.toNat, .int .u8 r.u.b.toNat, .int .u8 r.u.c.toNat, .int .u8 r.u.d.toNat, .int .u8 r.u.e.toNat, .int .u8 r.u.f.toNat] 43))) := Lib.hid (HB8.out.alloc HB8.out.size _)
  have HKr9 := Lib.hid (HKr8.out.alloc (.cells #[.int .u8 r.l.toNat, .int .u32 r.q.toNat, .int .u8 r.k.toNat, .bool r.s, .bool r.e, .int .u8 r.i.a.toNat, .int .u8 r.i.b.toNat, .int .u8 r.i.c.toNat, .int .u8 r.i.d.toNat, .int .u8 r.i.e.toNat, .int .u8 r.i.f.toNat, .int .u8 r.u.a.toNat, .int .u8 r.u.b.toNat, .int .u8 r.u.c.toNat, .int .u8 r.u.d.toNat, .int .u8 r.u.e.toNat, .int .u8 r.u.f.toNat] 43))
  have HN9 := Lib.hid (HN8.out.alloc (.cells #[.int .u8 r.l.toNat, .int .u32 r.q.toNat, .int .u8 r.k.toNat, .bool r.s, .bool r.e, .int .u8 r.i.a.toNat, .int .u8 r.i.b.toNat, .int .u8 r.i.c.toNat, .int .u8 r.i.d.toNat, .int .u8 r.i.e.toNat, .int .u8 r.i.f.toNat, .int .u8 r.u.a.toNat, .int .u8 r.u.b.toNat, .int .u8 r.u.c.toNat, .int .u8 r.u.d.toNat, .int .u8 r.u.e.toNat, .int .u8 r.u.f.toNat] 43))
  have HF9 : Hid (Els 2 tlV (w8.alloc (.cells #[.int .u8 r.l.toNat, .int .u32 r.q.toNat, .int .u8 r.k.toNat, .bool r.s, .bool r.e, .int .u8 r.i.a.toNat, .int .u8 r.i.b.toNat, .int .u8 r.i.c.toNat, .int .u8 r.i.d.toNat, .int .u8 r.i.e.toNat, .int .u8 r.i.f.toNat, .int .u8 r.u.a.toNat, .int .u8 r.u.b.toNat, .int .u8 r.u.c.toNat, .int .u8 r.u.d.toNat, .int .u8 r.u.e.toNat, .int .u8 r.u.f.toNat] 43)) A5 Q.t) := Lib.hid (HF8.out.next ((Below.refl _ _).alloc (Nat.le_refl _) _))
  have HX9 := Lib.hid (Blk.new w8 43 #[.int .u8 r.l.toNat, .int .u32 r.q.toNat, .int .u8 r.k.toNat, .bool r.s, .bool r.e, .int .u8 r.i.a.toNat, .int .u8 r.i.b.toNat, .int .u8 r.i.c.toNat, .int .u8 r.i.d.toNat, .int .u8 r.i.e.toNat, .int .u8 r.i.f.toNat, .int .u8 r.u.a.toNat, .int .u8 r.u.b.toNat, .int .u8 r.u.c.toNat, .int .u8 r.u.d.toNat, .int .u8 r.u.e.toNat, .int .u8 r.u.f.toNat])
  clear HB8 HKr8 HN8 HF8
  have a0 := HN9.out.cell 0
  have a1 := HN9.out.cell 1
  have a2 := HN9.out.cell 2
  have a3 := HN9.out.cell 3
  have a4 := HN9.out.cell 4
  simp only [List.getElem?_toArray, List.getElem?_cons_succ, List.getElem?_cons_zero] at a0 a1 a2 a3 a4
  go_wp2_with fail
  refine (KT2.out _ _ _ HF9.out).mono ?_
  rintro r w10 ⟨rfl, hb10⟩
  have HB10 : Hid (Below W.heap.size W w10) := Lib.hid (HB9.out.trans (hb10.mono HB9.out.size))
  have HKr10 := Lib.hid (HKr9.out.below hb10 HKr9.out.lt)
  have HN10 := Lib.hid (HN9.out.below hb10 HN9.out.lt)
  have HX10 := Lib.hid (HX9.out.below hb10 HX9.out.lt)
  have HF10 : Hid (Els 2 tlV w10 A5 Q.t) := Lib.hid (HF9.out.next hb10)
  clear hb10 HB9 HKr9 HN9 HX9 HF9
  clear a0 a1 a2 a3 a4
  clear HN10
  clear HF10
  have HB11 : Hid (Below W.heap.size W (w10.alloc (.cells #[.int .u8 Y2.l.toNat, .int .u32 Y2.q.toNat, .int .u8 Y2.k.toNat, .int .u8 Y2.o.a.toNat, .int .u8 Y2.o.b.toNat, .int .u8 Y2.o.c.toNat, .int .u8 Y2.o.d.toNat, .int .u8 Y2.o.e.toNat, .int .u8 Y2.o.f.toNat, .int .u8 Y2.t.a.toNat, .int .u8 Y2.t.b.toNat, .int .u8 Y2.t.c.toNat, .int .u8 Y2.t.d.toNat, .int .u8 Y2.t.e.toNat, .int .u8 Y2.t.f.toNat] 35))) := Lib.hid (HB10.out.alloc HB10.out.size _)
  have HKr11 := Lib.hid (HKr10.out.alloc (.cells #[.int .u8 Y2.l.toNat, .int .u32 Y2.q.toNat, .int .u8 Y2.k.toNat, .int .u8 Y2.o.a.toNat, .int .u8 Y2.o.b.toNat, .int .u8 Y2.o.c.toNat, .int .u8 Y2.o.d.toNat, .int .u8 Y2.o.e.toNat, .int .u8 Y2.o.f.toNat, .int .u8 Y2.t.a.toNat, .int .u8 Y2.t.b.toNat, .int .u8 Y2.t.c.toNat, .int .u8 Y2.t.d.toNat, .int .u8 Y2.t.e.toNat, .int .u8 Y2.t.f.toNat] 35))
  have HX11 := Lib.hid (HX10.out.alloc (.cells #[.int .u8 Y2.l.toNat, .int .u32 Y2.q.toNat, .int .u8 Y2.k.toNat, .int .u8 Y2.o.a.toNat, .int .u8 Y2.o.b.toNat, .int .u8 Y2.o.c.toNat, .int .u8 Y2.o.d.toNat, .int .u8 Y2.o.e.toNat, .int .u8 Y2.o.f.toNat, .int .u8 Y2.t.a.toNat, .int .u8 Y2.t.b.toNat, .int .u8 Y2.t.c.toNat, .int .u8 Y2.t.d.toNat, .int .u8 Y2.t.e.toNat, .int .u8 Y2.t.f.toNat] 35))
  have HY11 := Lib.hid (Blk.new w10 35 #[.int .u8 Y2.l.toNat, .int .u32 Y2.q.toNat, .int .u8 Y2.k.toNat, .int .u8 Y2.o.a.toNat, .int .u8 Y2.o.b.toNat, .int .u8 Y2.o.c.toNat, .int .u8 Y2.o.d.toNat, .int .u8 Y2.o.e.toNat, .int .u8 Y2.o.f.toNat, .int .u8 Y2.t.a.toNat, .int .u8 Y2.t.b.toNat, .int .u8 Y2.t.c.toNat, .int .u8 Y2.t.d.toNat, .int .u8 Y2.t.e.toNat, .int .u8 Y2.t.f.toNat])
  clear HB10 HKr10 HX10
  have qr := QR.out
  go_wp2_with (first
    | (refine wpList_load_cs 43 21 rfl (by kernel_rfl) w8.heap.size 43 #[.int .u8 r.l.toNat, .int .u32 r.q.toNat, .int .u8 r.k.toNat, .bool r.s, .bool r.e, .int .u8 r.i.a.toNat, .int .u8 r.i.b.toNat, .int .u8 r.i.c.toNat, .int .u8 r.i.d.toNat, .int .u8 r.i.e.toNat, .int .u8 r.i.f.toNat, .int .u8 r.u.a.toNat, .int .u8 r.u.b.toNat, .int .u8 r.u.c.toNat, .int .u8 r.u.d.toNat, .int .u8 r.u.e.toNat, .int .u8 r.u.f.toNat] _ rfl HX11.out Try.underlying43 rfl (by kernel_rfl) ?_)
    | (refine wpList_load_cs 43 4 rfl (by kernel_rfl) (W.heap.size + 1) 43 #[.int .u8 r.l.toNat, .int .u32 r.q.toNat, .int .u8 r.k.toNat, .bool r.s, .bool r.e, .int .u8 r.i.a.toNat, .int .u8 r.i.b.toNat, .int .u8 r.i.c.toNat, .int .u8 r.i.d.toNat, .int .u8 r.i.e.toNat, .int .u8 r.i.f.toNat, .int .u8 r.u.a.toNat, .int .u8 r.u.b.toNat, .int .u8 r.u.c.toNat, .int .u8 r.u.d.toNat, .int .u8 r.u.e.toNat, .int .u8 r.u.f.toNat] _ rfl HKr11.out Try.underlying43 rfl (by kernel_rfl) ?_))
  refine (wakes15 HP.out HT.out HQ.out HU.out _).mono ?_
  rintro r w12 ⟨rfl, hb12⟩
  have HB12 : Hid (Below W.heap.size W w12) := Lib.hid (HB11.out.trans (hb12.mono HB11.out.size))
  have HKr12 := Lib.hid (HKr11.out.below hb12 HKr11.out.lt)
  have HX12 := Lib.hid (HX11.out.below hb12 HX11.out.lt)
  have HY12 := Lib.hid (HY11.out.below hb12 HY11.out.lt)
  clear hb12 HB11 HKr11 HX11 HY11
  go_wp2
  go_ret
  exact ⟨rfl, HB12.out⟩

set_option maxHeartbeats 8000000 in
theorem ltmback_00 (HPC : LtPutC) (HTC : LtTakeC) (HQC : LtPutRC) (HUC : LtTakeRC) (W : World) (t : Tc) (r : Ry) (s : List UInt8) (hl : ¬ 1000 < s.length) (h1 : ¬ tcE t = 0) (h2 : ¬ ryE r = 0) :
    Calls Try.prog 4 #[TcV t, RyV r, .string ⟨s.toArray⟩] W fun e w' => e = .returned (.bool true) ∧ Below W.heap.size W w' := by
  have HP := Lib.hid HPC
  have HT := Lib.hid HTC
  have HQ := Lib.hid HQC
  have HU := Lib.hid HUC
  clear HPC HTC HQC HUC
  have HB0 : Hid (Below W.heap.size W ((W.alloc (.cells #[.int .u8 t.l.toNat, .int .u32 t.q.toNat, .int .u8 t.k.toNat, .int .u8 t.o.a.toNat, .int .u8 t.o.b.toNat, .int .u8 t.o.c.toNat, .int .u8 t.o.d.toNat, .int .u8 t.o.e.toNat, .int .u8 t.o.f.toNat, .int .u8 t.t.a.toNat, .int .u8 t.t.b.toNat, .int .u8 t.t.c.toNat, .int .u8 t.t.d.toNat, .int .u8 t.t.e.toNat, .int .u8 t.t.f.toNat] 35)).alloc (.cells #[.int .u8 r.l.toNat, .int .u32 r.q.toNat, .int .u8 r.k.toNat, .bool r.s, .bool r.e, .int .u8 r.i.a.toNat, .int .u8 r.i.b.toNat, .int .u8 r.i.c.toNat, .int .u8 r.i.d.toNat, .int .u8 r.i.e.toNat, .int .u8 r.i.f.toNat, .int .u8 r.u.a.toNat, .int .u8 r.u.b.toNat, .int .u8 r.u.c.toNat, .int .u8 r.u.d.toNat, .int .u8 r.u.e.toNat, .int .u8 r.u.f.toNat] 43))) := Lib.hid (((Below.refl _ _).alloc (Nat.le_refl _) _).alloc (by simp) _)
  have HKt0 : Hid (Blk ((W.alloc (.cells #[.int .u8 t.l.toNat, .int .u32 t.q.toNat, .int .u8 t.k.toNat, .int .u8 t.o.a.toNat, .int .u8 t.o.b.toNat, .int .u8 t.o.c.toNat, .int .u8 t.o.d.toNat, .int .u8 t.o.e.toNat, .int .u8 t.o.f.toNat, .int .u8 t.t.a.toNat, .int .u8 t.t.b.toNat, .int .u8 t.t.c.toNat, .int .u8 t.t.d.toNat, .int .u8 t.t.e.toNat, .int .u8 t.t.f.toNat] 35)).alloc (.cells #[.int .u8 r.l.toNat, .int .u32 r.q.toNat, .int .u8 r.k.toNat, .bool r.s, .bool r.e, .int .u8 r.i.a.toNat, .int .u8 r.i.b.toNat, .int .u8 r.i.c.toNat, .int .u8 r.i.d.toNat, .int .u8 r.i.e.toNat, .int .u8 r.i.f.toNat, .int .u8 r.u.a.toNat, .int .u8 r.u.b.toNat, .int .u8 r.u.c.toNat, .int .u8 r.u.d.toNat, .int .u8 r.u.e.toNat, .int .u8 r.u.f.toNat] 43)) W.heap.size 35 #[.int .u8 t.l.toNat, .int .u32 t.q.toNat, .int .u8 t.k.toNat, .int .u8 t.o.a.toNat, .int .u8 t.o.b.toNat, .int .u8 t.o.c.toNat, .int .u8 t.o.d.toNat, .int .u8 t.o.e.toNat, .int .u8 t.o.f.toNat, .int .u8 t.t.a.toNat, .int .u8 t.t.b.toNat, .int .u8 t.t.c.toNat, .int .u8 t.t.d.toNat, .int .u8 t.t.e.toNat, .int .u8 t.t.f.toNat]) := Lib.hid ((Blk.new _ _ _).alloc _)
  have HKr0 : Hid (Blk ((W.alloc (.cells #[.int .u8 t.l.toNat, .int .u32 t.q.toNat, .int .u8 t.k.toNat, .int .u8 t.o.a.toNat, .int .u8 t.o.b.toNat, .int .u8 t.o.c.toNat, .int .u8 t.o.d.toNat, .int .u8 t.o.e.toNat, .int .u8 t.o.f.toNat, .int .u8 t.t.a.toNat, .int .u8 t.t.b.toNat, .int .u8 t.t.c.toNat, .int .u8 t.t.d.toNat, .int .u8 t.t.e.toNat, .int .u8 t.t.f.toNat] 35)).alloc (.cells #[.int .u8 r.l.toNat, .int .u32 r.q.toNat, .int .u8 r.k.toNat, .bool r.s, .bool r.e, .int .u8 r.i.a.toNat, .int .u8 r.i.b.toNat, .int .u8 r.i.c.toNat, .int .u8 r.i.d.toNat, .int .u8 r.i.e.toNat, .int .u8 r.i.f.toNat, .int .u8 r.u.a.toNat, .int .u8 r.u.b.toNat, .int .u8 r.u.c.toNat, .int .u8 r.u.d.toNat, .int .u8 r.u.e.toNat, .int .u8 r.u.f.toNat] 43)) (W.heap.size + 1) 43 #[.int .u8 r.l.toNat, .int .u32 r.q.toNat, .int .u8 r.k.toNat, .bool r.s, .bool r.e, .int .u8 r.i.a.toNat, .int .u8 r.i.b.toNat, .int .u8 r.i.c.toNat, .int .u8 r.i.d.toNat, .int .u8 r.i.e.toNat, .int .u8 r.i.f.toNat, .int .u8 r.u.a.toNat, .int .u8 r.u.b.toNat, .int .u8 r.u.c.toNat, .int .u8 r.u.d.toNat, .int .u8 r.u.e.toNat, .int .u8 r.u.f.toNat]) := Lib.hid (by
    have := Blk.new (W.alloc (.cells #[.int .u8 t.l.toNat, .int .u32 t.q.toNat, .int .u8 t.k.toNat, .int .u8 t.o.a.toNat, .int .u8 t.o.b.toNat, .int .u8 t.o.c.toNat, .int .u8 t.o.d.toNat, .int .u8 t.o.e.toNat, .int .u8 t.o.f.toNat, .int .u8 t.t.a.toNat, .int .u8 t.t.b.toNat, .int .u8 t.t.c.toNat, .int .u8 t.t.d.toNat, .int .u8 t.t.e.toNat, .int .u8 t.t.f.toNat] 35)) 43 #[.int .u8 r.l.toNat, .int .u32 r.q.toNat, .int .u8 r.k.toNat, .bool r.s, .bool r.e, .int .u8 r.i.a.toNat, .int .u8 r.i.b.toNat, .int .u8 r.i.c.toNat, .int .u8 r.i.d.toNat, .int .u8 r.i.e.toNat, .int .u8 r.i.f.toNat, .int .u8 r.u.a.toNat, .int .u8 r.u.b.toNat, .int .u8 r.u.c.toNat, .int .u8 r.u.d.toNat, .int .u8 r.u.e.toNat, .int .u8 r.u.f.toNat]
    simpa using this)
  have p0 : ¬ (1000 : Int) < (s.length : Int) := by omega
  have HSL := Lib.hid (show s.length ≤ 1000 by omega)
  have KP := Lib.hid (fun w => HP.out t w)
  have KQ := Lib.hid (fun w => HQ.out r w)
  have hpt : (tcP t).t = [] := by unfold tcP; split <;> rfl
  have hqt : (ryP r).t.length ≤ 2 ∧ (ryP r).x.length ≤ 6 := ryP_small r
  have HTE := Lib.hid (@tcE_is t)
  have HRE := Lib.hid (@ryE_is r)
  have HTB := Lib.hid (fun h => @tc_back t h)
  have HTN := Lib.hid (fun h => @tc_noReply t h)
  have HTL := Lib.hid (fun h => @tc_lv t h)
  have HTP := Lib.hid (fun h => @tc_pd t h)
  have HRB := Lib.hid (fun h => @ry_back r h)
  have HRN := Lib.hid (fun h => @ry_noTrace r h)
  have HRL := Lib.hid (fun h => @ry_lv r h)
  have HRP := Lib.hid (fun h => @ry_pd r h)
  obtain ⟨P, hP⟩ : ∃ P, tcP t = P := ⟨_, rfl⟩
  obtain ⟨Q, hQ⟩ : ∃ P, ryP r = P := ⟨_, rfl⟩
  obtain ⟨E, hE⟩ : ∃ E, tcE t = E := ⟨_, rfl⟩
  obtain ⟨G, hG⟩ : ∃ E, ryE r = E := ⟨_, rfl⟩
  have hE0 := hE
  have hG0 := hG
  rw [hP, hE] at KP
  rw [hQ, hG] at KQ
  rw [hP] at hpt HTB HTN HTP HTL
  rw [hQ] at hqt HRB HRN HRP HRL
  rw [hE] at HTE HTB HTN HTP HTL
  rw [hG] at HRE HRB HRN HRP HRL
  have hlen : P.t.length = 0 := by rw [hpt]; rfl
  have HPT := Lib.hid hpt
  have HPN := Lib.hid hlen
  have HQT := Lib.hid hqt
  obtain ⟨n2, hn2⟩ : ∃ n, Q.t.length = n := ⟨_, rfl⟩
  have HN2 := Lib.hid hn2
  simp only [PdV, hlen] at KP
  simp only [PdV, hn2] at KQ
  have qt : ∀ w : World, (Op.equalIn 10000 35 (.agg #[.int .u8 t.l.toNat, .int .u32 t.q.toNat, .int .u8 t.k.toNat, .int .u8 t.o.a.toNat, .int .u8 t.o.b.toNat, .int .u8 t.o.c.toNat, .int .u8 t.o.d.toNat, .int .u8 t.o.e.toNat, .int .u8 t.o.f.toNat, .int .u8 t.t.a.toNat, .int .u8 t.t.b.toNat, .int .u8 t.t.c.toNat, .int .u8 t.t.d.toNat, .int .u8 t.t.e.toNat, .int .u8 t.t.f.toNat]) (.agg #[.int .u8 t.l.toNat, .int .u32 t.q.toNat, .int .u8 t.k.toNat, .int .u8 t.o.a.toNat, .int .u8 t.o.b.toNat, .int .u8 t.o.c.toNat, .int .u8 t.o.d.toNat, .int .u8 t.o.e.toNat, .int .u8 t.o.f.toNat, .int .u8 t.t.a.toNat, .int .u8 t.t.b.toNat, .int .u8 t.t.c.toNat, .int .u8 t.t.d.toNat, .int .u8 t.t.e.toNat, .int .u8 t.t.f.toNat])).run Try.prog w = .ok true w := fun w => by
    have := run_eqTc t t w
    simp only [decide_true] at this
    exact this
  have qr : ∀ w : World, (Op.equalIn 10000 43 (.agg #[.int .u8 r.l.toNat, .int .u32 r.q.toNat, .int .u8 r.k.toNat, .bool r.s, .bool r.e, .int .u8 r.i.a.toNat, .int .u8 r.i.b.toNat, .int .u8 r.i.c.toNat, .int .u8 r.i.d.toNat, .int .u8 r.i.e.toNat, .int .u8 r.i.f.toNat, .int .u8 r.u.a.toNat, .int .u8 r.u.b.toNat, .int .u8 r.u.c.toNat, .int .u8 r.u.d.toNat, .int .u8 r.u.e.toNat, .int .u8 r.u.f.toNat]) (.agg #[.int .u8 r.l.toNat, .int .u32 r.q.toNat, .int .u8 r.k.toNat, .bool r.s, .bool r.e, .int .u8 r.i.a.toNat, .int .u8 r.i.b.toNat, .int .u8 r.i.c.toNat, .int .u8 r.i.d.toNat, .int .u8 r.i.e.toNat, .int .u8 r.i.f.toNat, .int .u8 r.u.a.toNat, .int .u8 r.u.b.toNat, .int .u8 r.u.c.toNat, .int .u8 r.u.d.toNat, .int .u8 r.u.e.toNat, .int .u8 r.u.f.toNat])).run Try.prog w = .ok true w := fun w => by
    have := run_eqRy r r w
    simp only [decide_true] at this
    exact this
  have QT := Lib.hid qt
  have QR := Lib.hid qr
  clear hl hpt hqt hP hQ hE hG hlen hn2 qt qr
  rw [hE0] at h1
  rw [hG0] at h2
  clear hE0 hG0
  have pt : ¬ (t.l.toNat : Int) < 8 := by have := HTE.out; omega
  have e1 : ((E : Int) == 0) = false := by rw [beq_eq_false_iff_ne]; omega
  clear h1
  have pr : ¬ (r.l.toNat : Int) < 8 := by have := HRE.out; omega
  have e2 : ((G : Int) == 0) = false := by rw [beq_eq_false_iff_ne]; omega
  clear h2
  go_enter Try.func4, Try.ntmps4
  go_wp2_with (first
    | (refine wpList_load_cs 35 3 rfl (by kernel_rfl) W.heap.size 35 #[.int .u8 t.l.toNat, .int .u32 t.q.toNat, .int .u8 t.k.toNat, .int .u8 t.o.a.toNat, .int .u8 t.o.b.toNat, .int .u8 t.o.c.toNat, .int .u8 t.o.d.toNat, .int .u8 t.o.e.toNat, .int .u8 t.o.f.toNat, .int .u8 t.t.a.toNat, .int .u8 t.t.b.toNat, .int .u8 t.t.c.toNat, .int .u8 t.t.d.toNat, .int .u8 t.t.e.toNat, .int .u8 t.t.f.toNat] _ rfl HKt0.out Try.underlying35 rfl (by kernel_rfl) ?_))
  refine (KP.out _).mono ?_
  rintro r w1 ⟨A1, k1, rfl, hz, hb1⟩
  have HB1 : Hid (Below W.heap.size W w1) := Lib.hid (HB0.out.trans (hb1.mono HB0.out.size))
  have HKt1 := Lib.hid (HKt0.out.below hb1 HKt0.out.lt)
  have HKr1 := Lib.hid (HKr0.out.below hb1 HKr0.out.lt)
  clear hb1 HB0 HKt0 HKr0
  clear hz
  have HG7 : Hid (W.heap.size + 1 < w1.heap.size) := Lib.hid HKr1.out.lt
  have HB2 : Hid (Below W.heap.size W (w1.alloc (.cells #[.int .u8 P.l.toNat, .int .u8 P.o.toNat, .int .u8 P.g.toNat, .string ⟨P.x.toArray⟩, .slice A1 0 k1] 31))) := Lib.hid (HB1.out.alloc HB1.out.size _)
  have HKt2 := Lib.hid (HKt1.out.alloc (.cells #[.int .u8 P.l.toNat, .int .u8 P.o.toNat, .int .u8 P.g.toNat, .string ⟨P.x.toArray⟩, .slice A1 0 k1] 31))
  have HKr2 := Lib.hid (HKr1.out.alloc (.cells #[.int .u8 P.l.toNat, .int .u8 P.o.toNat, .int .u8 P.g.toNat, .string ⟨P.x.toArray⟩, .slice A1 0 k1] 31))
  have HM2 := Lib.hid (Blk.new w1 31 #[.int .u8 P.l.toNat, .int .u8 P.o.toNat, .int .u8 P.g.toNat, .string ⟨P.x.toArray⟩, .slice A1 0 k1])
  clear HB1 HKt1 HKr1
  have t0 := HKt2.out.cell 0
  simp only [List.getElem?_toArray, List.getElem?_cons_succ, List.getElem?_cons_zero] at t0
  go_upto_region 13 with (fail)
  clear t0
  clear HKt2
  go_wp2_with (first
    | (refine wpList_load_cs 43 4 rfl (by kernel_rfl) (W.heap.size + 1) 43 #[.int .u8 r.l.toNat, .int .u32 r.q.toNat, .int .u8 r.k.toNat, .bool r.s, .bool r.e, .int .u8 r.i.a.toNat, .int .u8 r.i.b.toNat, .int .u8 r.i.c.toNat, .int .u8 r.i.d.toNat, .int .u8 r.i.e.toNat, .int .u8 r.i.f.toNat, .int .u8 r.u.a.toNat, .int .u8 r.u.b.toNat, .int .u8 r.u.c.toNat, .int .u8 r.u.d.toNat, .int .u8 r.u.e.toNat, .int .u8 r.u.f.toNat] _ rfl HKr2.out Try.underlying43 rfl (by kernel_rfl) ?_))
  refine (KQ.out _).mono ?_
  rintro r w3 ⟨A2, k2, rfl, hF, hz, hfr, hb3⟩
  have HB3 : Hid (Below W.heap.size W w3) := Lib.hid (HB2.out.trans (hb3.mono HB2.out.size))
  have HKr3 := Lib.hid (HKr2.out.below hb3 HKr2.out.lt)
  have HM3 := Lib.hid (HM2.out.below hb3 HM2.out.lt)
  have HFR : Hid (0 < Q.t.length → ∀ a, A2 = some a → a.block ≠ w1.heap.size) := Lib.hid (fun h0 a ha h => by have h1 := hfr (by have := HN2.out; omega) a ha; have h2 := HM2.out.lt; omega)
  clear hb3 HB2 HKr2 HM2
  clear hz hfr
  have HEQ : Hid (0 < Q.t.length → Els 2 tlV w3 A2 Q.t) := Lib.hid (fun _ => hF)
  clear hF
  have HEQ2 : Hid (Els 2 tlV (w3.setRow w1.heap.size #[.int .u8 Q.l.toNat, .int .u8 Q.o.toNat, .int .u8 Q.g.toNat, .string ⟨Q.x.toArray⟩, .slice A2 n2 k2]) A2 Q.t) := Lib.hid (by
    by_cases h0 : 0 < Q.t.length
    · exact els_row (HEQ.out h0) HM3.out trivial (HFR.out h0)
    · exact fun h => absurd h h0)
  have HMs := HM3
  have HB4 : Hid (Below W.heap.size W (w3.setRow w1.heap.size #[.int .u8 Q.l.toNat, .int .u8 Q.o.toNat, .int .u8 Q.g.toNat, .string ⟨Q.x.toArray⟩, .slice A2 n2 k2])) := Lib.hid (below_row HB3.out (by have := HG7.out; omega) _)
  have HKr4 := Lib.hid (HKr3.out.rowFar (k := w1.heap.size) (by have := HG7.out; omega) #[.int .u8 Q.l.toNat, .int .u8 Q.o.toNat, .int .u8 Q.g.toNat, .string ⟨Q.x.toArray⟩, .slice A2 n2 k2])
  have HM4 := Lib.hid (HM3.out.row #[.int .u8 Q.l.toNat, .int .u8 Q.o.toNat, .int .u8 Q.g.toNat, .string ⟨Q.x.toArray⟩, .slice A2 n2 k2])
  clear HB3 HKr3 HM3
  clear HEQ HFR
  have r0 := HKr4.out.cell 0
  simp only [List.getElem?_toArray, List.getElem?_cons_succ, List.getElem?_cons_zero] at r0
  clear HEQ2
  clear HM4
  go_wp2_with (first
    | (refine wpList_store_row rfl 31 (.tmp 7) (.tmp 86) rfl w1.heap.size rfl #[.int .u8 Q.l.toNat, .int .u8 Q.o.toNat, .int .u8 Q.g.toNat, .string ⟨Q.x.toArray⟩, .slice A2 n2 k2] rfl 31 _ HMs.out (by kernel_rfl) rfl (by kernel_rfl) ?_))
  refine (wakes15 HP.out HT.out HQ.out HU.out _).mono ?_
  rintro r w5 ⟨rfl, hb5⟩
  have HB5 : Hid (Below W.heap.size W w5) := Lib.hid (HB4.out.trans (hb5.mono HB4.out.size))
  have HKr5 := Lib.hid (HKr4.out.below hb5 HKr4.out.lt)
  clear hb5 HB4 HKr4
  go_wp2
  go_ret
  exact ⟨rfl, HB5.out⟩

theorem ltmback_walk (HPC : LtPutC) (HTC : LtTakeC) (HQC : LtPutRC) (HUC : LtTakeRC) (W : World) (t : Tc) (r : Ry) (s : List UInt8) :
    Calls Try.prog 4 #[TcV t, RyV r, .string ⟨s.toArray⟩] W fun e w' => e = .returned (.bool true) ∧ Below W.heap.size W w' := by
  by_cases hl : 1000 < s.length
  · exact ltmback_long HPC HTC HQC HUC W t r s hl
  by_cases h1 : tcE t = 0
  · by_cases h2 : ryE r = 0
    · exact ltmback_11 HPC HTC HQC HUC W t r s hl h1 h2
    · exact ltmback_10 HPC HTC HQC HUC W t r s hl h1 h2
  · by_cases h2 : ryE r = 0
    · exact ltmback_01 HPC HTC HQC HUC W t r s hl h1 h2
    · exact ltmback_00 HPC HTC HQC HUC W t r s hl h1 h2
end Go.Proofs.Ytieopgmmjpmflaa
