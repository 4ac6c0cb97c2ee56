/- Layer 15: LtmPuts's walk, over the package's contracts. -/
import Derived.Test.YtieopgmmjpmflaaLaw15
import Derived.Test.YtieopgmmjpmflaaR15
import Derived.Deep.RegionHeld3
import Derived.Deep.DeepCutAuto
namespace Go.Proofs.Ytieopgmmjpmflaa
open Go.RowKit
set_option linter.unusedVariables false
set_option linter.unusedSimpArgs false
set_option maxRecDepth 100000

theorem keep15 {W w w' : World} {g5 g7 g9 g11 k1 k3 k4 n : Nat} {A1 A3 A4 : Option Addr} {P Q : Pd} (h0 : w.cell? ⟨g5, 0, none⟩ = some (.int .u8 P.l.toNat)) (h1 : w.cell? ⟨g5, 1, none⟩ = some (.int .u8 P.o.toNat)) (h2 : w.cell? ⟨g5, 2, none⟩ = some (.int .u8 P.g.toNat)) (h3 : w.cell? ⟨g5, 3, none⟩ = some (.string ⟨P.x.toArray⟩)) (h4 : w.cell? ⟨g5, 4, none⟩ = some (.slice A1 0 k1)) (h5 : w.cell? ⟨g7, 0, none⟩ = some (.int .u8 P.l.toNat)) (h6 : w.cell? ⟨g7, 1, none⟩ = some (.int .u8 P.o.toNat)) (h7 : w.cell? ⟨g7, 2, none⟩ = some (.int .u8 P.g.toNat)) (h8 : w.cell? ⟨g7, 3, none⟩ = some (.string ⟨P.x.toArray⟩)) (h9 : w.cell? ⟨g7, 4, none⟩ = some (.slice none 0 0)) (h10 : w.cell? ⟨g9, 0, none⟩ = some (.int .u8 Q.l.toNat)) (h11 : w.cell? ⟨g9, 1, none⟩ = some (.int .u8 Q.o.toNat)) (h12 : w.cell? ⟨g9, 2, none⟩ = some (.int .u8 Q.g.toNat)) (h13 : w.cell? ⟨g9, 3, none⟩ = some (.string ⟨Q.x.toArray⟩)) (h14 : w.cell? ⟨g9, 4, none⟩ = some (.slice A3 n k3)) (h15 : w.cell? ⟨g11, 0, none⟩ = some (.int .u8 Q.l.toNat)) (h16 : w.cell? ⟨g11, 1, none⟩ = some (.int .u8 Q.o.toNat)) (h17 : w.cell? ⟨g11, 2, none⟩ = some (.int .u8 Q.g.toNat)) (h18 : w.cell? ⟨g11, 3, none⟩ = some (.string ⟨Q.x.toArray⟩)) (h19 : w.cell? ⟨g11, 4, none⟩ = some (.slice A4 n k4)) (hE0 : Hid (Els 2 tlV w A3 Q.t)) (hE1 : Hid (Els 2 tlV w A4 Q.t)) (hB : Hid (Below W.heap.size W w)) (hb : Below w.heap.size w w') : w'.cell? ⟨g5, 0, none⟩ = some (.int .u8 P.l.toNat) ∧ w'.cell? ⟨g5, 1, none⟩ = some (.int .u8 P.o.toNat) ∧ w'.cell? ⟨g5, 2, none⟩ = some (.int .u8 P.g.toNat) ∧ w'.cell? ⟨g5, 3, none⟩ = some (.string ⟨P.x.toArray⟩) ∧ w'.cell? ⟨g5, 4, none⟩ = some (.slice A1 0 k1) ∧ w'.cell? ⟨g7, 0, none⟩ = some (.int .u8 P.l.toNat) ∧ w'.cell? ⟨g7, 1, none⟩ = some (.int .u8 P.o.toNat) ∧ w'.cell? ⟨g7, 2, none⟩ = some (.int .u8 P.g.toNat) ∧ w'.cell? ⟨g7, 3, none⟩ = some (.string ⟨P.x.toArray⟩) ∧ w'.cell? ⟨g7, 4, none⟩ = some (.slice none 0 0) ∧ w'.cell? ⟨g9, 0, none⟩ = some (.int .u8 Q.l.toNat) ∧ w'.cell? ⟨g9, 1, none⟩ = some (.int .u8 Q.o.toNat) ∧ w'.cell? ⟨g9, 2, none⟩ = some (.int .u8 Q.g.toNat) ∧ w'.cell? ⟨g9, 3, none⟩ = some (.string ⟨Q.x.toArray⟩) ∧ w'.cell? ⟨g9, 4, none⟩ = some (.slice A3 n k3) ∧ w'.cell? ⟨g11, 0, none⟩ = some (.int .u8 Q.l.toNat) ∧ w'.cell? ⟨g11, 1, none⟩ = some (.int .u8 Q.o.toNat) ∧ w'.cell? ⟨g11, 2, none⟩ = some (.int .u8 Q.g.toNat) ∧ w'.cell? ⟨g11, 3, none⟩ = some (.string ⟨Q.x.toArray⟩) ∧ w'.cell? ⟨g11, 4, none⟩ = some (.slice A4 n k4) ∧ Hid (Els 2 tlV w' A3 Q.t) ∧ Hid (Els 2 tlV w' A4 Q.t) ∧ Hid (Below W.heap.size W w') := by
  have hk : ∀ {g i : Nat} {v : Value}, w.cell? ⟨g, i, none⟩ = some v → w'.cell? ⟨g, i, none⟩ = some v := fun {g i v} h => (hb.cell (p := ⟨g, i, none⟩) (World.block_lt_of_cell? w _ h)).trans h
  exact ⟨hk h0, hk h1, hk h2, hk h3, hk h4, hk h5, hk h6, hk h7, hk h8, hk h9, hk h10, hk h11, hk h12, hk h13, hk h14, hk h15, hk h16, hk h17, hk h18, hk h19, Lib.hid (hE0.out.next hb), Lib.hid (hE1.out.next hb), Lib.hid (hB.out.trans (hb.mono hB.out.size))⟩
set_option maxHeartbeats 8000000 in
theorem ltmputs_walk (HPC : LtPutC) (HTC : LtTakeC) (HQC : LtPutRC) (HUC : LtTakeRC) (W : World) (t : Tc) (r : Ry) :
    Calls Try.prog 3 #[TcV t, RyV r] W fun e w' => e = .returned (.bool true) ∧ Below W.heap.size W w' := by
  have HP := Lib.hid HPC
  have HT := Lib.hid HTC
  have HQ := Lib.hid HQC
  have HU := Lib.hid HUC
  clear HPC HTC HQC HUC
  have HB0 : Hid (Below W.heap.size W ((W.alloc (.cells #[.int .u8 t.l.toNat, .int .u32 t.q.toNat, .int .u8 t.k.toNat, .int .u8 t.o.a.toNat, .int .u8 t.o.b.toNat, .int .u8 t.o.c.toNat, .int .u8 t.o.d.toNat, .int .u8 t.o.e.toNat, .int .u8 t.o.f.toNat, .int .u8 t.t.a.toNat, .int .u8 t.t.b.toNat, .int .u8 t.t.c.toNat, .int .u8 t.t.d.toNat, .int .u8 t.t.e.toNat, .int .u8 t.t.f.toNat] 26)).alloc (.cells #[.int .u8 r.l.toNat, .int .u32 r.q.toNat, .int .u8 r.k.toNat, .bool r.s, .bool r.e, .int .u8 r.i.a.toNat, .int .u8 r.i.b.toNat, .int .u8 r.i.c.toNat, .int .u8 r.i.d.toNat, .int .u8 r.i.e.toNat, .int .u8 r.i.f.toNat, .int .u8 r.u.a.toNat, .int .u8 r.u.b.toNat, .int .u8 r.u.c.toNat, .int .u8 r.u.d.toNat, .int .u8 r.u.e.toNat, .int .u8 r.u.f.toNat] 28))) := Lib.hid (((Below.refl _ _).alloc (Nat.le_refl _) _).alloc (by simp) _)
  have HKt0 : Hid (Blk ((W.alloc (.cells #[.int .u8 t.l.toNat, .int .u32 t.q.toNat, .int .u8 t.k.toNat, .int .u8 t.o.a.toNat, .int .u8 t.o.b.toNat, .int .u8 t.o.c.toNat, .int .u8 t.o.d.toNat, .int .u8 t.o.e.toNat, .int .u8 t.o.f.toNat, .int .u8 t.t.a.toNat, .int .u8 t.t.b.toNat, .int .u8 t.t.c.toNat, .int .u8 t.t.d.toNat, .int .u8 t.t.e.toNat, .int .u8 t.t.f.toNat] 26)).alloc (.cells #[.int .u8 r.l.toNat, .int .u32 r.q.toNat, .int .u8 r.k.toNat, .bool r.s, .bool r.e, .int .u8 r.i.a.toNat, .int .u8 r.i.b.toNat, .int .u8 r.i.c.toNat, .int .u8 r.i.d.toNat, .int .u8 r.i.e.toNat, .int .u8 r.i.f.toNat, .int .u8 r.u.a.toNat, .int .u8 r.u.b.toNat, .int .u8 r.u.c.toNat, .int .u8 r.u.d.toNat, .int .u8 r.u.e.toNat, .int .u8 r.u.f.toNat] 28)) W.heap.size 26 #[.int .u8 t.l.toNat, .int .u32 t.q.toNat, .int .u8 t.k.toNat, .int .u8 t.o.a.toNat, .int .u8 t.o.b.toNat, .int .u8 t.o.c.toNat, .int .u8 t.o.d.toNat, .int .u8 t.o.e.toNat, .int .u8 t.o.f.toNat, .int .u8 t.t.a.toNat, .int .u8 t.t.b.toNat, .int .u8 t.t.c.toNat, .int .u8 t.t.d.toNat, .int .u8 t.t.e.toNat, .int .u8 t.t.f.toNat]) := Lib.hid ((Blk.new _ _ _).alloc _)
  have HKr0 : Hid (Blk ((W.alloc (.cells #[.int .u8 t.l.toNat, .int .u32 t.q.toNat, .int .u8 t.k.toNat, .int .u8 t.o.a.toNat, .int .u8 t.o.b.toNat, .int .u8 t.o.c.toNat, .int .u8 t.o.d.toNat, .int .u8 t.o.e.toNat, .int .u8 t.o.f.toNat, .int .u8 t.t.a.toNat, .int .u8 t.t.b.toNat, .int .u8 t.t.c.toNat, .int .u8 t.t.d.toNat, .int .u8 t.t.e.toNat, .int .u8 t.t.f.toNat] 26)).alloc (.cells #[.int .u8 r.l.toNat, .int .u32 r.q.toNat, .int .u8 r.k.toNat, .bool r.s, .bool r.e, .int .u8 r.i.a.toNat, .int .u8 r.i.b.toNat, .int .u8 r.i.c.toNat, .int .u8 r.i.d.toNat, .int .u8 r.i.e.toNat, .int .u8 r.i.f.toNat, .int .u8 r.u.a.toNat, .int .u8 r.u.b.toNat, .int .u8 r.u.c.toNat, .int .u8 r.u.d.toNat, .int .u8 r.u.e.toNat, .int .u8 r.u.f.toNat] 28)) (W.heap.size + 1) 28 #[.int .u8 r.l.toNat, .int .u32 r.q.toNat, .int .u8 r.k.toNat, .bool r.s, .bool r.e, .int .u8 r.i.a.toNat, .int .u8 r.i.b.toNat, .int .u8 r.i.c.toNat, .int .u8 r.i.d.toNat, .int .u8 r.i.e.toNat, .int .u8 r.i.f.toNat, .int .u8 r.u.a.toNat, .int .u8 r.u.b.toNat, .int .u8 r.u.c.toNat, .int .u8 r.u.d.toNat, .int .u8 r.u.e.toNat, .int .u8 r.u.f.toNat]) := Lib.hid (by
    have := Blk.new (W.alloc (.cells #[.int .u8 t.l.toNat, .int .u32 t.q.toNat, .int .u8 t.k.toNat, .int .u8 t.o.a.toNat, .int .u8 t.o.b.toNat, .int .u8 t.o.c.toNat, .int .u8 t.o.d.toNat, .int .u8 t.o.e.toNat, .int .u8 t.o.f.toNat, .int .u8 t.t.a.toNat, .int .u8 t.t.b.toNat, .int .u8 t.t.c.toNat, .int .u8 t.t.d.toNat, .int .u8 t.t.e.toNat, .int .u8 t.t.f.toNat] 26)) 28 #[.int .u8 r.l.toNat, .int .u32 r.q.toNat, .int .u8 r.k.toNat, .bool r.s, .bool r.e, .int .u8 r.i.a.toNat, .int .u8 r.i.b.toNat, .int .u8 r.i.c.toNat, .int .u8 r.i.d.toNat, .int .u8 r.i.e.toNat, .int .u8 r.i.f.toNat, .int .u8 r.u.a.toNat, .int .u8 r.u.b.toNat, .int .u8 r.u.c.toNat, .int .u8 r.u.d.toNat, .int .u8 r.u.e.toNat, .int .u8 r.u.f.toNat]
    simpa using this)
  have KP := Lib.hid (fun w => HP.out t w)
  have KR := Lib.hid (fun w => refput15_any t w)
  have KQ := Lib.hid (fun w => HQ.out r w)
  have KS := Lib.hid (fun w => refputr15_any r w)
  have hpt : (tcP t).t = [] := by unfold tcP; split <;> rfl
  have hql : (ryP r).t.length ≤ 2 := by
    unfold ryP
    split
    · show (ryT r).length ≤ 2
      unfold ryT prT
      split <;> split <;> simp
    · exact Nat.zero_le _
  obtain ⟨P, hP⟩ : ∃ P, tcP t = P := ⟨_, rfl⟩
  obtain ⟨Q, hQ⟩ : ∃ P, ryP r = P := ⟨_, rfl⟩
  obtain ⟨E, hE⟩ : ∃ E, tcE t = E := ⟨_, rfl⟩
  obtain ⟨G, hG⟩ : ∃ E, ryE r = E := ⟨_, rfl⟩
  rw [hP, hE] at KP KR
  rw [hQ, hG] at KQ KS
  rw [hP] at hpt
  rw [hQ] at hql
  have hlen : P.t.length = 0 := by rw [hpt]; rfl
  have KO1 := Lib.hid (fun A k w => of12_any A k P w (by rw [hpt]; exact els_nilL _ _) (by omega))
  have KZ1 := Lib.hid (fun A B k d w => same12_any A B k d P w (by rw [hpt]; exact els_nilL _ _) (by rw [hpt]; exact els_nilL _ _) (by omega))
  have KO2 := Lib.hid (fun A k w h => of12_any A k Q w h (by omega))
  have KZ2 := Lib.hid (fun A B k d w h h' => same12_any A B k d Q w h h' (by omega))
  obtain ⟨n, hn⟩ : ∃ n, Q.t.length = n := ⟨_, rfl⟩
  simp only [PdV, hlen] at KP KR KO1 KZ1
  simp only [PdV, hn] at KQ KS KO2 KZ2
  clear hpt hql hP hQ hE hG hlen hn
  go_enter Try.func3, Try.ntmps3
  go_wp2_with (first
    | (refine wpList_load_cs 26 2 rfl (by kernel_rfl) W.heap.size 26 #[.int .u8 t.l.toNat, .int .u32 t.q.toNat, .int .u8 t.k.toNat, .int .u8 t.o.a.toNat, .int .u8 t.o.b.toNat, .int .u8 t.o.c.toNat, .int .u8 t.o.d.toNat, .int .u8 t.o.e.toNat, .int .u8 t.o.f.toNat, .int .u8 t.t.a.toNat, .int .u8 t.t.b.toNat, .int .u8 t.t.c.toNat, .int .u8 t.t.d.toNat, .int .u8 t.t.e.toNat, .int .u8 t.t.f.toNat] _ rfl HKt0.out Try.underlying26 rfl (by kernel_rfl) ?_))
  refine (oft15_any t _).mono ?_
  rintro r w1 ⟨rfl, hb1⟩
  have HB1 : Hid (Below W.heap.size W w1) := Lib.hid (HB0.out.trans (hb1.mono HB0.out.size))
  have HKt1 := Lib.hid (HKt0.out.below hb1 HKt0.out.lt)
  have HKr1 := Lib.hid (HKr0.out.below hb1 HKr0.out.lt)
  clear hb1 HB0 HKt0 HKr0
  go_wp2_with fail
  refine (KP.out _).mono ?_
  rintro r w2 ⟨A1, k1, rfl, hz, hb2⟩
  have HB2 : Hid (Below W.heap.size W w2) := Lib.hid (HB1.out.trans (hb2.mono HB1.out.size))
  have HKt2 := Lib.hid (HKt1.out.below hb2 HKt1.out.lt)
  have HKr2 := Lib.hid (HKr1.out.below hb2 HKr1.out.lt)
  clear hb2 HB1 HKt1 HKr1
  clear hz
  have HB3 : Hid (Below W.heap.size W (w2.alloc (.cells #[.int .u8 P.l.toNat, .int .u8 P.o.toNat, .int .u8 P.g.toNat, .string ⟨P.x.toArray⟩, .slice A1 0 k1] 31))) := Lib.hid (HB2.out.alloc HB2.out.size _)
  have HKt3 := Lib.hid (HKt2.out.alloc (.cells #[.int .u8 P.l.toNat, .int .u8 P.o.toNat, .int .u8 P.g.toNat, .string ⟨P.x.toArray⟩, .slice A1 0 k1] 31))
  have HKr3 := Lib.hid (HKr2.out.alloc (.cells #[.int .u8 P.l.toNat, .int .u8 P.o.toNat, .int .u8 P.g.toNat, .string ⟨P.x.toArray⟩, .slice A1 0 k1] 31))
  have HM3 := Lib.hid (Blk.new w2 31 #[.int .u8 P.l.toNat, .int .u8 P.o.toNat, .int .u8 P.g.toNat, .string ⟨P.x.toArray⟩, .slice A1 0 k1])
  clear HB2 HKt2 HKr2
  go_wp2_with (first
    | (refine wpList_load_cs 26 2 rfl (by kernel_rfl) W.heap.size 26 #[.int .u8 t.l.toNat, .int .u32 t.q.toNat, .int .u8 t.k.toNat, .int .u8 t.o.a.toNat, .int .u8 t.o.b.toNat, .int .u8 t.o.c.toNat, .int .u8 t.o.d.toNat, .int .u8 t.o.e.toNat, .int .u8 t.o.f.toNat, .int .u8 t.t.a.toNat, .int .u8 t.t.b.toNat, .int .u8 t.t.c.toNat, .int .u8 t.t.d.toNat, .int .u8 t.t.e.toNat, .int .u8 t.t.f.toNat] _ rfl HKt3.out Try.underlying26 rfl (by kernel_rfl) ?_))
  refine (KR.out _).mono ?_
  rintro r w4 ⟨rfl, hb4⟩
  have HB4 : Hid (Below W.heap.size W w4) := Lib.hid (HB3.out.trans (hb4.mono HB3.out.size))
  have HKt4 := Lib.hid (HKt3.out.below hb4 HKt3.out.lt)
  have HKr4 := Lib.hid (HKr3.out.below hb4 HKr3.out.lt)
  have HM4 := Lib.hid (HM3.out.below hb4 HM3.out.lt)
  clear hb4 HB3 HKt3 HKr3 HM3
  clear HKt4
  have HB5 : Hid (Below W.heap.size W (w4.alloc (.cells #[.int .u8 P.l.toNat, .int .u8 P.o.toNat, .int .u8 P.g.toNat, .string ⟨P.x.toArray⟩, .slice none 0 0] 39))) := Lib.hid (HB4.out.alloc HB4.out.size _)
  have HKr5 := Lib.hid (HKr4.out.alloc (.cells #[.int .u8 P.l.toNat, .int .u8 P.o.toNat, .int .u8 P.g.toNat, .string ⟨P.x.toArray⟩, .slice none 0 0] 39))
  have HM5 := Lib.hid (HM4.out.alloc (.cells #[.int .u8 P.l.toNat, .int .u8 P.o.toNat, .int .u8 P.g.toNat, .string ⟨P.x.toArray⟩, .slice none 0 0] 39))
  have HN5 := Lib.hid (Blk.new w4 39 #[.int .u8 P.l.toNat, .int .u8 P.o.toNat, .int .u8 P.g.toNat, .string ⟨P.x.toArray⟩, .slice none 0 0])
  clear HB4 HKr4 HM4
  go_wp2_with (first
    | (refine wpList_load_cs 28 3 rfl (by kernel_rfl) (W.heap.size + 1) 28 #[.int .u8 r.l.toNat, .int .u32 r.q.toNat, .int .u8 r.k.toNat, .bool r.s, .bool r.e, .int .u8 r.i.a.toNat, .int .u8 r.i.b.toNat, .int .u8 r.i.c.toNat, .int .u8 r.i.d.toNat, .int .u8 r.i.e.toNat, .int .u8 r.i.f.toNat, .int .u8 r.u.a.toNat, .int .u8 r.u.b.toNat, .int .u8 r.u.c.toNat, .int .u8 r.u.d.toNat, .int .u8 r.u.e.toNat, .int .u8 r.u.f.toNat] _ rfl HKr5.out Try.underlying28 rfl (by kernel_rfl) ?_))
  refine (ofr15_any r _).mono ?_
  rintro r w6 ⟨rfl, hb6⟩
  have HB6 : Hid (Below W.heap.size W w6) := Lib.hid (HB5.out.trans (hb6.mono HB5.out.size))
  have HKr6 := Lib.hid (HKr5.out.below hb6 HKr5.out.lt)
  have HM6 := Lib.hid (HM5.out.below hb6 HM5.out.lt)
  have HN6 := Lib.hid (HN5.out.below hb6 HN5.out.lt)
  clear hb6 HB5 HKr5 HM5 HN5
  go_wp2_with fail
  refine (KQ.out _).mono ?_
  rintro r w7 ⟨A3, k3, rfl, hF, hz, hfr, hb7⟩
  have HB7 : Hid (Below W.heap.size W w7) := Lib.hid (HB6.out.trans (hb7.mono HB6.out.size))
  have HKr7 := Lib.hid (HKr6.out.below hb7 HKr6.out.lt)
  have HM7 := Lib.hid (HM6.out.below hb7 HM6.out.lt)
  have HN7 := Lib.hid (HN6.out.below hb7 HN6.out.lt)
  clear hb7 HB6 HKr6 HM6 HN6
  clear hz hfr
  have HE7 : Hid (Els 2 tlV w7 A3 Q.t) := Lib.hid hF
  clear hF
  have HB8 : Hid (Below W.heap.size W (w7.alloc (.cells #[.int .u8 Q.l.toNat, .int .u8 Q.o.toNat, .int .u8 Q.g.toNat, .string ⟨Q.x.toArray⟩, .slice A3 n k3] 31))) := Lib.hid (HB7.out.alloc HB7.out.size _)
  have HKr8 := Lib.hid (HKr7.out.alloc (.cells #[.int .u8 Q.l.toNat, .int .u8 Q.o.toNat, .int .u8 Q.g.toNat, .string ⟨Q.x.toArray⟩, .slice A3 n k3] 31))
  have HM8 := Lib.hid (HM7.out.alloc (.cells #[.int .u8 Q.l.toNat, .int .u8 Q.o.toNat, .int .u8 Q.g.toNat, .string ⟨Q.x.toArray⟩, .slice A3 n k3] 31))
  have HN8 := Lib.hid (HN7.out.alloc (.cells #[.int .u8 Q.l.toNat, .int .u8 Q.o.toNat, .int .u8 Q.g.toNat, .string ⟨Q.x.toArray⟩, .slice A3 n k3] 31))
  have HE8 : Hid (Els 2 tlV (w7.alloc (.cells #[.int .u8 Q.l.toNat, .int .u8 Q.o.toNat, .int .u8 Q.g.toNat, .string ⟨Q.x.toArray⟩, .slice A3 n k3] 31)) A3 Q.t) := Lib.hid (HE7.out.next ((Below.refl _ _).alloc (Nat.le_refl _) _))
  have HX8 := Lib.hid (Blk.new w7 31 #[.int .u8 Q.l.toNat, .int .u8 Q.o.toNat, .int .u8 Q.g.toNat, .string ⟨Q.x.toArray⟩, .slice A3 n k3])
  clear HB7 HKr7 HM7 HN7 HE7
  go_wp2_with (first
    | (refine wpList_load_cs 28 3 rfl (by kernel_rfl) (W.heap.size + 1) 28 #[.int .u8 r.l.toNat, .int .u32 r.q.toNat, .int .u8 r.k.toNat, .bool r.s, .bool r.e, .int .u8 r.i.a.toNat, .int .u8 r.i.b.toNat, .int .u8 r.i.c.toNat, .int .u8 r.i.d.toNat, .int .u8 r.i.e.toNat, .int .u8 r.i.f.toNat, .int .u8 r.u.a.toNat, .int .u8 r.u.b.toNat, .int .u8 r.u.c.toNat, .int .u8 r.u.d.toNat, .int .u8 r.u.e.toNat, .int .u8 r.u.f.toNat] _ rfl HKr8.out Try.underlying28 rfl (by kernel_rfl) ?_))
  refine (KS.out _).mono ?_
  rintro r w9 ⟨A4, k4, rfl, hF, hz, hb9⟩
  have HB9 : Hid (Below W.heap.size W w9) := Lib.hid (HB8.out.trans (hb9.mono HB8.out.size))
  have HKr9 := Lib.hid (HKr8.out.below hb9 HKr8.out.lt)
  have HM9 := Lib.hid (HM8.out.below hb9 HM8.out.lt)
  have HN9 := Lib.hid (HN8.out.below hb9 HN8.out.lt)
  have HX9 := Lib.hid (HX8.out.below hb9 HX8.out.lt)
  have HE9 : Hid (Els 2 tlV w9 A3 Q.t) := Lib.hid (HE8.out.next hb9)
  clear hb9 HB8 HKr8 HM8 HN8 HX8 HE8
  clear hz
  have HF9 : Hid (Els 2 tlV w9 A4 Q.t) := Lib.hid hF
  clear hF
  clear HKr9
  have HB10 : Hid (Below W.heap.size W (w9.alloc (.cells #[.int .u8 Q.l.toNat, .int .u8 Q.o.toNat, .int .u8 Q.g.toNat, .string ⟨Q.x.toArray⟩, .slice A4 n k4] 39))) := Lib.hid (HB9.out.alloc HB9.out.size _)
  have HM10 := Lib.hid (HM9.out.alloc (.cells #[.int .u8 Q.l.toNat, .int .u8 Q.o.toNat, .int .u8 Q.g.toNat, .string ⟨Q.x.toArray⟩, .slice A4 n k4] 39))
  have HN10 := Lib.hid (HN9.out.alloc (.cells #[.int .u8 Q.l.toNat, .int .u8 Q.o.toNat, .int .u8 Q.g.toNat, .string ⟨Q.x.toArray⟩, .slice A4 n k4] 39))
  have HX10 := Lib.hid (HX9.out.alloc (.cells #[.int .u8 Q.l.toNat, .int .u8 Q.o.toNat, .int .u8 Q.g.toNat, .string ⟨Q.x.toArray⟩, .slice A4 n k4] 39))
  have HE10 : Hid (Els 2 tlV (w9.alloc (.cells #[.int .u8 Q.l.toNat, .int .u8 Q.o.toNat, .int .u8 Q.g.toNat, .string ⟨Q.x.toArray⟩, .slice A4 n k4] 39)) A3 Q.t) := Lib.hid (HE9.out.next ((Below.refl _ _).alloc (Nat.le_refl _) _))
  have HF10 : Hid (Els 2 tlV (w9.alloc (.cells #[.int .u8 Q.l.toNat, .int .u8 Q.o.toNat, .int .u8 Q.g.toNat, .string ⟨Q.x.toArray⟩, .slice A4 n k4] 39)) A4 Q.t) := Lib.hid (HF9.out.next ((Below.refl _ _).alloc (Nat.le_refl _) _))
  have HY10 := Lib.hid (Blk.new w9 39 #[.int .u8 Q.l.toNat, .int .u8 Q.o.toNat, .int .u8 Q.g.toNat, .string ⟨Q.x.toArray⟩, .slice A4 n k4])
  clear HB9 HM9 HN9 HX9 HE9 HF9
  have a0 := HM10.out.cell 0
  have a1 := HM10.out.cell 1
  have a2 := HM10.out.cell 2
  have a3 := HM10.out.cell 3
  have a4 := HM10.out.cell 4
  simp only [List.getElem?_toArray, List.getElem?_cons_succ, List.getElem?_cons_zero] at a0 a1 a2 a3 a4
  have b0 := HN10.out.cell 0
  have b1 := HN10.out.cell 1
  have b2 := HN10.out.cell 2
  have b3 := HN10.out.cell 3
  have b4 := HN10.out.cell 4
  simp only [List.getElem?_toArray, List.getElem?_cons_succ, List.getElem?_cons_zero] at b0 b1 b2 b3 b4
  have c0 := HX10.out.cell 0
  have c1 := HX10.out.cell 1
  have c2 := HX10.out.cell 2
  have c3 := HX10.out.cell 3
  have c4 := HX10.out.cell 4
  simp only [List.getElem?_toArray, List.getElem?_cons_succ, List.getElem?_cons_zero] at c0 c1 c2 c3 c4
  have d0 := HY10.out.cell 0
  have d1 := HY10.out.cell 1
  have d2 := HY10.out.cell 2
  have d3 := HY10.out.cell 3
  have d4 := HY10.out.cell 4
  simp only [List.getElem?_toArray, List.getElem?_cons_succ, List.getElem?_cons_zero] at d0 d1 d2 d3 d4
  have HBd : Hid (Below W.heap.size W (w9.alloc (.cells #[.int .u8 Q.l.toNat, .int .u8 Q.o.toNat, .int .u8 Q.g.toNat, .string ⟨Q.x.toArray⟩, .slice A4 n k4] 39)).drew) := Lib.hid HB10.out.drew
  have HE_ : Hid (Els 2 tlV (w9.alloc (.cells #[.int .u8 Q.l.toNat, .int .u8 Q.o.toNat, .int .u8 Q.g.toNat, .string ⟨Q.x.toArray⟩, .slice A4 n k4] 39)).drew A3 Q.t) := Lib.hid HE10.out
  have HF_ : Hid (Els 2 tlV (w9.alloc (.cells #[.int .u8 Q.l.toNat, .int .u8 Q.o.toNat, .int .u8 Q.g.toNat, .string ⟨Q.x.toArray⟩, .slice A4 n k4] 39)).drew A4 Q.t) := Lib.hid HF10.out
  go_upto_region 5 with (fail)
  go_region_held3 (fun w_ => w_.cell? ⟨w2.heap.size, 0, none⟩ = some (.int .u8 P.l.toNat) ∧ w_.cell? ⟨w2.heap.size, 1, none⟩ = some (.int .u8 P.o.toNat) ∧ w_.cell? ⟨w2.heap.size, 2, none⟩ = some (.int .u8 P.g.toNat) ∧ w_.cell? ⟨w2.heap.size, 3, none⟩ = some (.string ⟨P.x.toArray⟩) ∧ w_.cell? ⟨w2.heap.size, 4, none⟩ = some (.slice A1 0 k1) ∧ w_.cell? ⟨w4.heap.size, 0, none⟩ = some (.int .u8 P.l.toNat) ∧ w_.cell? ⟨w4.heap.size, 1, none⟩ = some (.int .u8 P.o.toNat) ∧ w_.cell? ⟨w4.heap.size, 2, none⟩ = some (.int .u8 P.g.toNat) ∧ w_.cell? ⟨w4.heap.size, 3, none⟩ = some (.string ⟨P.x.toArray⟩) ∧ w_.cell? ⟨w4.heap.size, 4, none⟩ = some (.slice none 0 0) ∧ w_.cell? ⟨w7.heap.size, 0, none⟩ = some (.int .u8 Q.l.toNat) ∧ w_.cell? ⟨w7.heap.size, 1, none⟩ = some (.int .u8 Q.o.toNat) ∧ w_.cell? ⟨w7.heap.size, 2, none⟩ = some (.int .u8 Q.g.toNat) ∧ w_.cell? ⟨w7.heap.size, 3, none⟩ = some (.string ⟨Q.x.toArray⟩) ∧ w_.cell? ⟨w7.heap.size, 4, none⟩ = some (.slice A3 n k3) ∧ w_.cell? ⟨w9.heap.size, 0, none⟩ = some (.int .u8 Q.l.toNat) ∧ w_.cell? ⟨w9.heap.size, 1, none⟩ = some (.int .u8 Q.o.toNat) ∧ w_.cell? ⟨w9.heap.size, 2, none⟩ = some (.int .u8 Q.g.toNat) ∧ w_.cell? ⟨w9.heap.size, 3, none⟩ = some (.string ⟨Q.x.toArray⟩) ∧ w_.cell? ⟨w9.heap.size, 4, none⟩ = some (.slice A4 n k4) ∧ Hid (Below W.heap.size W w_)) (go_keep)
    (first
      | (go_at_call_of 12 P.x; refine (KO1.out _ _ _).mono ?_; rintro r_ w_ ⟨B1_, d1_, rfl, hF_, hA_, hb_⟩; clear hF_ hA_; obtain ⟨k0_, k1_, k2_, k3_, k4_, k5_, k6_, k7_, k8_, k9_, k10_, k11_, k12_, k13_, k14_, k15_, k16_, k17_, k18_, k19_, HE_, HF_, HBd⟩ := keep15 (W := W) (g5 := w2.heap.size) (g7 := w4.heap.size) (g9 := w7.heap.size) (g11 := w9.heap.size) (k1 := k1) (k3 := k3) (k4 := k4) (n := n) (A1 := A1) (A3 := A3) (A4 := A4) (P := P) (Q := Q) (by assumption) (by assumption) (by assumption) (by assumption) (by assumption) (by assumption) (by assumption) (by assumption) (by assumption) (by assumption) (by assumption) (by assumption) (by assumption) (by assumption) (by assumption) (by assumption) (by assumption) (by assumption) (by assumption) (by assumption) HE_ HF_ HBd hb_; clear hb_)
      | (go_at_call_of 12 Q.x; refine (KO2.out _ _ _ HF_.out).mono ?_; rintro r_ w_ ⟨B2_, d2_, rfl, hF_, hA_, hb_⟩; have HO_ := Lib.hid hF_; clear hF_ hA_; obtain ⟨k0_, k1_, k2_, k3_, k4_, k5_, k6_, k7_, k8_, k9_, k10_, k11_, k12_, k13_, k14_, k15_, k16_, k17_, k18_, k19_, HE_, HF_, HBd⟩ := keep15 (W := W) (g5 := w2.heap.size) (g7 := w4.heap.size) (g9 := w7.heap.size) (g11 := w9.heap.size) (k1 := k1) (k3 := k3) (k4 := k4) (n := n) (A1 := A1) (A3 := A3) (A4 := A4) (P := P) (Q := Q) (by assumption) (by assumption) (by assumption) (by assumption) (by assumption) (by assumption) (by assumption) (by assumption) (by assumption) (by assumption) (by assumption) (by assumption) (by assumption) (by assumption) (by assumption) (by assumption) (by assumption) (by assumption) (by assumption) (by assumption) HE_ HF_ HBd hb_; clear hb_)
      | (go_at_call_of 11 P.x; refine (KZ1.out _ _ _ _ _).mono ?_; rintro r_ w_ ⟨rfl, hb_⟩; obtain ⟨k0_, k1_, k2_, k3_, k4_, k5_, k6_, k7_, k8_, k9_, k10_, k11_, k12_, k13_, k14_, k15_, k16_, k17_, k18_, k19_, HE_, HF_, HBd⟩ := keep15 (W := W) (g5 := w2.heap.size) (g7 := w4.heap.size) (g9 := w7.heap.size) (g11 := w9.heap.size) (k1 := k1) (k3 := k3) (k4 := k4) (n := n) (A1 := A1) (A3 := A3) (A4 := A4) (P := P) (Q := Q) (by assumption) (by assumption) (by assumption) (by assumption) (by assumption) (by assumption) (by assumption) (by assumption) (by assumption) (by assumption) (by assumption) (by assumption) (by assumption) (by assumption) (by assumption) (by assumption) (by assumption) (by assumption) (by assumption) (by assumption) HE_ HF_ HBd hb_; clear hb_)
      | (go_at_call_of 11 Q.x; refine (KZ2.out _ _ _ _ _ HE_.out HO_.out).mono ?_; rintro r_ w_ ⟨rfl, hb_⟩; obtain ⟨k0_, k1_, k2_, k3_, k4_, k5_, k6_, k7_, k8_, k9_, k10_, k11_, k12_, k13_, k14_, k15_, k16_, k17_, k18_, k19_, HE_, HF_, HBd⟩ := keep15 (W := W) (g5 := w2.heap.size) (g7 := w4.heap.size) (g9 := w7.heap.size) (g11 := w9.heap.size) (k1 := k1) (k3 := k3) (k4 := k4) (n := n) (A1 := A1) (A3 := A3) (A4 := A4) (P := P) (Q := Q) (by assumption) (by assumption) (by assumption) (by assumption) (by assumption) (by assumption) (by assumption) (by assumption) (by assumption) (by assumption) (by assumption) (by assumption) (by assumption) (by assumption) (by assumption) (by assumption) (by assumption) (by assumption) (by assumption) (by assumption) HE_ HF_ HBd hb_; clear hb_)
      | (go_at_call 13; refine (wakes15 HP.out HT.out HQ.out HU.out _).mono ?_; rintro r_ w_ ⟨rfl, hb_⟩; obtain ⟨k0_, k1_, k2_, k3_, k4_, k5_, k6_, k7_, k8_, k9_, k10_, k11_, k12_, k13_, k14_, k15_, k16_, k17_, k18_, k19_, HE_, HF_, HBd⟩ := keep15 (W := W) (g5 := w2.heap.size) (g7 := w4.heap.size) (g9 := w7.heap.size) (g11 := w9.heap.size) (k1 := k1) (k3 := k3) (k4 := k4) (n := n) (A1 := A1) (A3 := A3) (A4 := A4) (P := P) (Q := Q) (by assumption) (by assumption) (by assumption) (by assumption) (by assumption) (by assumption) (by assumption) (by assumption) (by assumption) (by assumption) (by assumption) (by assumption) (by assumption) (by assumption) (by assumption) (by assumption) (by assumption) (by assumption) (by assumption) (by assumption) HE_ HF_ HBd hb_; clear hb_)
      | fail "no")
  have HBQ : Hid (Below W.heap.size W w_) := by assumption
  go_wp2
  go_ret
  exact ⟨rfl, HBQ.out⟩
end Go.Proofs.Ytieopgmmjpmflaa
