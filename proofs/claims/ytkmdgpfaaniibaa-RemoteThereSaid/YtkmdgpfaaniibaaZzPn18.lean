/- Layer 18, the program: the machine in memory; the small calls. -/
import Derived.Test.YtkmdgpfaaniibaaZz
import Derived.Test.YtkmdgpfaaniibaaZzIm13
import Derived.Test.YtkmdgpfaaniibaaZzLaw18
namespace Go.Proofs.Ytkmdgpfaaniibaa
open Go.RowKit
set_option linter.unusedVariables false
set_option linter.unusedSimpArgs false
set_option maxRecDepth 100000

/-- the machine m at the block b, its map at mb, which reads as L -/
structure Rmo (w : World) (b mb : Nat) (L : List Vn) (m : Rm) : Prop where
  blk : Blk w b 60 #[.int .u8 m.o.lv.toNat, .int .u16 m.o.me.toNat, .int .u8 m.o.iv.toNat, .string ⟨m.o.ma.toArray⟩, .map (some mb), .int .i64 (m.er : Nat), .int .i64 (m.cr : Nat)]
  map : Vmap w mb L
  ris : Ris L
  l8 : L.length ≤ 8
  keys : L.map (·.v) = m.os
  la : ∀ x ∈ L, m.la x.v = x.m
  rd : ∀ x ∈ L, m.rd x.v = x.u
  top : ∀ x ∈ L, x.m ≤ 35
  er : m.er ≤ 35
  cr : m.cr ≤ 35
def rmS (b mb : Nat) : Nat → Prop := fun k => k = b ∨ k = mb
section
variable {w w' : World} {b mb : Nat} {L : List Vn} {m : Rm}
theorem Rmo.ne (h : Rmo w b mb L m) : mb ≠ b := h.map.not_blk h.blk
theorem Rmo.lt (h : Rmo w b mb L m) : ∀ k, rmS b mb k → k < w.heap.size := by
  rintro k (rfl | rfl)
  · exact h.blk.lt
  · exact h.map.lt
theorem Rmo.chg {T : Nat → Prop} (h : Rmo w b mb L m) (hc : Chg T w w') (hn : ∀ k, rmS b mb k → ¬ T k) : Rmo w' b mb L m :=
  ⟨h.blk.chg hc (hn b (.inl rfl)), h.map.chg hc (hn mb (.inr rfl)), h.ris, h.l8, h.keys, h.la, h.rd, h.top, h.er, h.cr⟩
theorem Rmo.next (h : Rmo w b mb L m) (hb : Below w.heap.size w w') : Rmo w' b mb L m := h.chg (T := fun _ => False) (Chg.of_below hb) (fun _ _ h => h)
theorem Rmo.drew (h : Rmo w b mb L m) : Rmo w.drew b mb L m := h.next ((Below.refl _ _).drew)
theorem Rmo.vof (h : Rmo w b mb L m) : Vof w (some mb) L := h.map
theorem Rmo.c0 (h : Rmo w b mb L m) : w.cell? ⟨b, 0, none⟩ = some (.int .u8 m.o.lv.toNat) := by
  have := h.blk.cell 0
  simpa using this
theorem Rmo.c1 (h : Rmo w b mb L m) : w.cell? ⟨b, 1, none⟩ = some (.int .u16 m.o.me.toNat) := by
  have := h.blk.cell 1
  simpa using this
theorem Rmo.c2 (h : Rmo w b mb L m) : w.cell? ⟨b, 2, none⟩ = some (.int .u8 m.o.iv.toNat) := by
  have := h.blk.cell 2
  simpa using this
theorem Rmo.c3 (h : Rmo w b mb L m) : w.cell? ⟨b, 3, none⟩ = some (.string ⟨m.o.ma.toArray⟩) := by
  have := h.blk.cell 3
  simpa using this
theorem Rmo.c4 (h : Rmo w b mb L m) : w.cell? ⟨b, 4, none⟩ = some (.map (some mb)) := by
  have := h.blk.cell 4
  simpa using this
theorem Rmo.c5 (h : Rmo w b mb L m) : w.cell? ⟨b, 5, none⟩ = some (.int .i64 (m.er : Nat)) := by
  have := h.blk.cell 5
  simpa using this
theorem Rmo.c6 (h : Rmo w b mb L m) : w.cell? ⟨b, 6, none⟩ = some (.int .i64 (m.cr : Nat)) := by
  have := h.blk.cell 6
  simpa using this
theorem Rmo.fz (h : Rmo w b mb L m) (i : Nat) : w.frozen? ⟨b, i, none⟩ = false := h.blk.frozen i
end
theorem lasts18_any (i : UInt8) (w : World) : Calls Try.prog 20 #[.int .u8 i.toNat] w fun e w' => e = .returned (.int .i64 (lsN i : Nat)) ∧ Below w.heap.size w w' := by
  have K := Lib.hid (ccticks_impl i w)
  have h3 : (ckN i = 1 ∧ lsN i = 4) ∨ (ckN i = 10 ∧ lsN i = 35) ∨ (ckN i = 0 ∧ lsN i = 0) := by
    unfold ckN lsN
    by_cases h4 : i = 4
    · simp [h4]
    · by_cases h5 : i = 5
      · simp [h4, h5]
      · simp [h4, h5]
  obtain ⟨a, ha⟩ : ∃ a, ckN i = a := ⟨_, rfl⟩
  obtain ⟨c, hc⟩ : ∃ a, lsN i = a := ⟨_, rfl⟩
  rw [ha] at K
  rw [ha, hc] at h3
  rw [hc]
  clear ha hc
  rcases h3 with ⟨rfl, rfl⟩ | ⟨rfl, rfl⟩ | ⟨rfl, rfl⟩
  · go_enter Try.func20, Try.ntmps20
    go_wp2_with fail
    refine K.out.mono ?_
    rintro e w1 ⟨rfl, hb⟩
    go_wp2
    go_ret
    exact ⟨rfl, hb⟩
  · go_enter Try.func20, Try.ntmps20
    go_wp2_with fail
    refine K.out.mono ?_
    rintro e w1 ⟨rfl, hb⟩
    go_wp2
    go_ret
    exact ⟨rfl, hb⟩
  · go_enter Try.func20, Try.ntmps20
    go_wp2_with fail
    refine K.out.mono ?_
    rintro e w1 ⟨rfl, hb⟩
    go_wp2
    go_ret
    exact ⟨rfl, hb⟩
set_option maxHeartbeats 1000000 in
theorem mayBe18_any (c : Ck) (w : World) (h : c.a.length ≤ 1000) : Calls Try.prog 24 #[.agg #[.int .u8 c.l.toNat, .bool c.r, .int .u8 c.i.toNat, .int .u32 c.q.toNat, .int .u16 c.m.toNat, .string ⟨c.a.toArray⟩]] w fun e w' => e = .returned (.bool (ckM c)) ∧ Below w.heap.size w w' := by
  have HB0 : Hid (Below w.heap.size w (w.alloc (.cells #[.int .u8 c.l.toNat, .bool c.r, .int .u8 c.i.toNat, .int .u32 c.q.toNat, .int .u16 c.m.toNat, .string ⟨c.a.toArray⟩] 44))) := Lib.hid ((Below.refl _ _).alloc (Nat.le_refl _) _)
  have HK0 := Lib.hid (Blk.new w 44 #[.int .u8 c.l.toNat, .bool c.r, .int .u8 c.i.toNat, .int .u32 c.q.toNat, .int .u16 c.m.toNat, .string ⟨c.a.toArray⟩])
  have K : Hid (∀ w, Calls Try.prog 36 #[.agg #[.int .u8 c.l.toNat, .bool c.r, .int .u8 c.i.toNat, .int .u32 c.q.toNat, .int .u16 c.m.toNat, .string ⟨c.a.toArray⟩]] w fun e w' => ∃ A k, e = .returned (.tuple #[PdV (ckP c) A k, .int .i64 (ckE c : Nat)]) ∧ (A = none → k = 0) ∧ Below w.heap.size w w') := Lib.hid (fun w => ccput_impl c w h)
  obtain ⟨M, hM⟩ : ∃ M, ckM c = M := ⟨_, rfl⟩
  have hE : ckE c = if M then 0 else 2 := by unfold ckE; rw [hM]
  obtain ⟨E, hEE⟩ : ∃ E, ckE c = E := ⟨_, rfl⟩
  obtain ⟨p, hp⟩ : ∃ p, ckP c = p := ⟨_, rfl⟩
  rw [hEE, hp] at K
  rw [hEE] at hE
  rw [hM]
  clear hM hEE hp h
  have k0 := HK0.out.cell 0
  have k1 := HK0.out.cell 1
  have k2 := HK0.out.cell 2
  have k3 := HK0.out.cell 3
  have k4 := HK0.out.cell 4
  have k5 := HK0.out.cell 5
  simp only [List.getElem?_toArray, List.getElem?_cons_succ, List.getElem?_cons_zero] at k0 k1 k2 k3 k4 k5
  go_enter Try.func24, Try.ntmps24
  go_wp2_with fail
  refine (K.out _).mono ?_
  rintro e w1 ⟨A, n, rfl, _, hb⟩
  have HB1 := Lib.hid (HB0.out.trans (hb.mono HB0.out.size))
  clear hb K k0 k1 k2 k3 k4 k5
  cases M
  · obtain rfl : E = 2 := hE
    go_wp2
    go_ret
    exact ⟨rfl, HB1.out.alloc HB1.out.size _⟩
  · obtain rfl : E = 0 := hE
    go_wp2
    go_ret
    exact ⟨rfl, HB1.out.alloc HB1.out.size _⟩
set_option maxHeartbeats 1000000 in
theorem checkOf18_any (o : On) (w : World) : Calls Try.prog 25 #[.agg #[.int .u8 o.lv.toNat, .int .u16 o.me.toNat, .int .u8 o.iv.toNat, .string ⟨o.ma.toArray⟩]] w fun e w' => e = .returned (.agg #[.int .u8 o.lv.toNat, .bool false, .int .u8 o.iv.toNat, .int .u32 0, .int .u16 o.me.toNat, .string ⟨o.ma.toArray⟩]) ∧ Below w.heap.size w w' := by
  obtain ⟨w1, hw1⟩ : ∃ w1, w.alloc (.cells #[.int .u8 o.lv.toNat, .int .u16 o.me.toNat, .int .u8 o.iv.toNat, .string ⟨o.ma.toArray⟩] 33) = w1 := ⟨_, rfl⟩
  have HB0 : Hid (∀ cs, Below w.heap.size w (w1.alloc (.cells cs 44))) := Lib.hid (fun cs => by rw [← hw1]; exact ((Below.refl _ _).alloc (Nat.le_refl _) _).alloc (by simp) _)
  have HO : Hid (Blk (w1.alloc (.cells #[.int .u8 0, .bool false, .int .u8 0, .int .u32 0, .int .u16 0, .string ⟨#[]⟩] 44)) w.heap.size 33 #[.int .u8 o.lv.toNat, .int .u16 o.me.toNat, .int .u8 o.iv.toNat, .string ⟨o.ma.toArray⟩]) := Lib.hid (Blk.alloc (by rw [← hw1]; exact Blk.new _ _ _) _)
  have k0 := HO.out.cell 0
  have k1 := HO.out.cell 1
  have k2 := HO.out.cell 2
  have k3 := HO.out.cell 3
  simp only [List.getElem?_toArray, List.getElem?_cons_succ, List.getElem?_cons_zero] at k0 k1 k2 k3
  go_enter Try.func25, Try.ntmps25
  go_wp2_with fail
  refine bodyPost_ret (v := .agg #[.int .u8 o.lv.toNat, .bool false, .int .u8 o.iv.toNat, .int .u32 0, .int .u16 o.me.toNat, .string ⟨o.ma.toArray⟩]) ?hr ?hd ?hq
  case hq => exact ⟨rfl, HB0.out _⟩
  case hd => rfl
  case hr => exact results_cell_one18 (p := 2) (by kernel_rfl) _ _ w1.heap.size 44 _ _ rfl (Blk.new w1 _ _) Try.underlying44 rfl (by kernel_rfl)
set_option maxHeartbeats 1000000 in
theorem has18_any {w : World} {b mb : Nat} {L : List Vn} {m : Rm} (h : Rmo w b mb L m) (n : UInt16) : Calls Try.prog 26 #[.pointer (some ⟨b, 0, none⟩), .int .u16 n.toNat] w fun e w' => e = .returned (.bool (vhas L n)) ∧ Below w.heap.size w w' := by
  have c4 := h.c4
  have hrun := h.vof.run n true
  simp only [if_true] at hrun
  obtain ⟨a, ha⟩ : ∃ a, (vm L n : Int) = a := ⟨_, rfl⟩
  rw [ha] at hrun
  clear h ha
  go_enter Try.func26, Try.ntmps26
  go_wp2
  go_ret
  exact ⟨rfl, (Below.refl _ _).alloc (Nat.le_refl _) _⟩
set_option maxHeartbeats 1000000 in
theorem lost18_any (l : Nat) (r : Bool) (w : World) : Calls Try.prog 33 #[.agg #[.int .i64 l, .bool r]] w fun e w' => e = .returned (.bool (l == 0)) ∧ Below w.heap.size w w' := by
  have HK0 := Lib.hid (Blk.new w 63 #[.int .i64 l, .bool r])
  have HB0 : Hid (Below w.heap.size w (w.alloc (.cells #[.int .i64 l, .bool r] 63))) := Lib.hid ((Below.refl _ _).alloc (Nat.le_refl _) _)
  have k0 := HK0.out.cell 0
  have k1 := HK0.out.cell 1
  simp only [List.getElem?_toArray, List.getElem?_cons_succ, List.getElem?_cons_zero] at k0 k1
  have e : (l == 0) = ((l : Int) == 0) := by rw [Bool.eq_iff_iff, beq_iff_eq, beq_iff_eq]; omega
  rw [e]
  go_enter Try.func33, Try.ntmps33
  go_wp2
  go_ret
  exact ⟨rfl, HB0.out⟩
set_option maxHeartbeats 1000000 in
theorem rdi18_fn (l : Nat) (r : Bool) (w : World) : Calls Try.prog 34 #[.agg #[.int .i64 l, .bool r]] w fun e w' => e = .returned (.bool (!(l == 0) && r)) ∧ Below w.heap.size w w' := by
  have HK0 := Lib.hid (Blk.new w 63 #[.int .i64 l, .bool r])
  have HB0 : Hid (Below w.heap.size w (w.alloc (.cells #[.int .i64 l, .bool r] 63))) := Lib.hid ((Below.refl _ _).alloc (Nat.le_refl _) _)
  have K := Lib.hid (fun w => lost18_any l r w)
  obtain ⟨z, hz⟩ : ∃ z, (l == 0) = z := ⟨_, rfl⟩
  rw [hz] at K ⊢
  clear hz
  have k0 := HK0.out.cell 0
  have k1 := HK0.out.cell 1
  simp only [List.getElem?_toArray, List.getElem?_cons_succ, List.getElem?_cons_zero] at k0 k1
  go_enter Try.func34, Try.ntmps34
  go_wp2_with fail
  refine (K.out _).mono ?_
  rintro e w1 ⟨rfl, hb⟩
  have HB1 := Lib.hid (HB0.out.trans (hb.mono HB0.out.size))
  have HK1 := Lib.hid (HK0.out.below hb HK0.out.lt)
  clear k0 k1 hb
  have k0 := HK1.out.cell 0
  have k1 := HK1.out.cell 1
  simp only [List.getElem?_toArray, List.getElem?_cons_succ, List.getElem?_cons_zero] at k0 k1
  cases z
  · go_wp2
    go_ret
    exact ⟨rfl, HB1.out⟩
  · go_wp2
    go_ret
    exact ⟨rfl, HB1.out⟩
end Go.Proofs.Ytkmdgpfaaniibaa
