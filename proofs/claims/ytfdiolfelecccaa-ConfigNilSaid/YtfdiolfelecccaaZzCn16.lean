/- Layer 16: ConfigNil's walk, over the bundle. -/
import Derived.Test.YtfdiolfelecccaaZzWk16
import Derived.Test.YtfdiolfelecccaaZzOpenAc
namespace Go.Proofs.Ytfdiolfelecccaa
open Go.RowKit
set_option linter.unusedVariables false
set_option linter.unusedSimpArgs false
set_option maxRecDepth 100000

set_option maxHeartbeats 8000000 in
theorem confignil_walk {R : (Nat → Prop) → World → Nat → Tb → Prop} (HH : CgI R) (w : World) (y : AcX) (p : UInt8) (v : UInt16) (i : Int) (hq : AcQ w y) :
    Calls Try.prog 4 #[AcV y.x y.B y.c, .int .u8 p.toNat, .int .u16 v.toNat, .int .i64 i] w fun e w' => e = .returned (.bool true) ∧ Below w.heap.size w w' := by
  have H := Lib.hid HH
  have KW := Lib.hid (fun w => wakes16 HH w)
  have KD := Lib.hid (fun w => doesnil16_any HH w y.x y.B y.c)
  have KAs := Lib.hid (fun w => HH.assocN w i)
  have KM := Lib.hid (fun w => HH.mepsN w)
  have KAt := Lib.hid (fun w => HH.attN w p v)
  have HB0 : Hid (Below w.heap.size w ((w.alloc (.cells #[.int .u8 y.x.k.toNat, .int .u8 y.x.a.l.toNat, .string ⟨y.x.a.d.toArray⟩, .string ⟨y.x.a.n.toArray⟩, .int .u16 y.x.a.v.toNat, .int .u8 y.x.a.i.toNat, .slice y.B y.x.a.m.length y.c, .int .i64 y.x.e.a, .int .u16 y.x.e.m.toNat, .int .u8 y.x.e.p.toNat, .bool y.x.e.u, .int .u8 y.x.m.p.toNat, .int .u16 y.x.m.v.toNat, .int .u8 y.x.m.l.toNat] 43)).alloc (.cells #[.int .u8 y.x.k.toNat, .int .u8 y.x.a.l.toNat, .string ⟨y.x.a.d.toArray⟩, .string ⟨y.x.a.n.toArray⟩, .int .u16 y.x.a.v.toNat, .int .u8 y.x.a.i.toNat, .slice y.B y.x.a.m.length y.c, .int .i64 y.x.e.a, .int .u16 y.x.e.m.toNat, .int .u8 y.x.e.p.toNat, .bool y.x.e.u, .int .u8 y.x.m.p.toNat, .int .u16 y.x.m.v.toNat, .int .u8 y.x.m.l.toNat] 43))) := Lib.hid (((Below.refl _ _).alloc (Nat.le_refl _) _).alloc (by simp) _)
  have HK0 := Lib.hid (Blk.new w 43 #[.int .u8 y.x.k.toNat, .int .u8 y.x.a.l.toNat, .string ⟨y.x.a.d.toArray⟩, .string ⟨y.x.a.n.toArray⟩, .int .u16 y.x.a.v.toNat, .int .u8 y.x.a.i.toNat, .slice y.B y.x.a.m.length y.c, .int .i64 y.x.e.a, .int .u16 y.x.e.m.toNat, .int .u8 y.x.e.p.toNat, .bool y.x.e.u, .int .u8 y.x.m.p.toNat, .int .u16 y.x.m.v.toNat, .int .u8 y.x.m.l.toNat])
  have HK1 : Hid (Blk ((w.alloc (.cells #[.int .u8 y.x.k.toNat, .int .u8 y.x.a.l.toNat, .string ⟨y.x.a.d.toArray⟩, .string ⟨y.x.a.n.toArray⟩, .int .u16 y.x.a.v.toNat, .int .u8 y.x.a.i.toNat, .slice y.B y.x.a.m.length y.c, .int .i64 y.x.e.a, .int .u16 y.x.e.m.toNat, .int .u8 y.x.e.p.toNat, .bool y.x.e.u, .int .u8 y.x.m.p.toNat, .int .u16 y.x.m.v.toNat, .int .u8 y.x.m.l.toNat] 43)).alloc (.cells #[.int .u8 y.x.k.toNat, .int .u8 y.x.a.l.toNat, .string ⟨y.x.a.d.toArray⟩, .string ⟨y.x.a.n.toArray⟩, .int .u16 y.x.a.v.toNat, .int .u8 y.x.a.i.toNat, .slice y.B y.x.a.m.length y.c, .int .i64 y.x.e.a, .int .u16 y.x.e.m.toNat, .int .u8 y.x.e.p.toNat, .bool y.x.e.u, .int .u8 y.x.m.p.toNat, .int .u16 y.x.m.v.toNat, .int .u8 y.x.m.l.toNat] 43)) w.heap.size 43 #[.int .u8 y.x.k.toNat, .int .u8 y.x.a.l.toNat, .string ⟨y.x.a.d.toArray⟩, .string ⟨y.x.a.n.toArray⟩, .int .u16 y.x.a.v.toNat, .int .u8 y.x.a.i.toNat, .slice y.B y.x.a.m.length y.c, .int .i64 y.x.e.a, .int .u16 y.x.e.m.toNat, .int .u8 y.x.e.p.toNat, .bool y.x.e.u, .int .u8 y.x.m.p.toNat, .int .u16 y.x.m.v.toNat, .int .u8 y.x.m.l.toNat]) := Lib.hid ((Blk.new _ _ _).alloc _)
  have HE0 : Hid (Els 14 acE ((w.alloc (.cells #[.int .u8 y.x.k.toNat, .int .u8 y.x.a.l.toNat, .string ⟨y.x.a.d.toArray⟩, .string ⟨y.x.a.n.toArray⟩, .int .u16 y.x.a.v.toNat, .int .u8 y.x.a.i.toNat, .slice y.B y.x.a.m.length y.c, .int .i64 y.x.e.a, .int .u16 y.x.e.m.toNat, .int .u8 y.x.e.p.toNat, .bool y.x.e.u, .int .u8 y.x.m.p.toNat, .int .u16 y.x.m.v.toNat, .int .u8 y.x.m.l.toNat] 43)).alloc (.cells #[.int .u8 y.x.k.toNat, .int .u8 y.x.a.l.toNat, .string ⟨y.x.a.d.toArray⟩, .string ⟨y.x.a.n.toArray⟩, .int .u16 y.x.a.v.toNat, .int .u8 y.x.a.i.toNat, .slice y.B y.x.a.m.length y.c, .int .i64 y.x.e.a, .int .u16 y.x.e.m.toNat, .int .u8 y.x.e.p.toNat, .bool y.x.e.u, .int .u8 y.x.m.p.toNat, .int .u16 y.x.m.v.toNat, .int .u8 y.x.m.l.toNat] 43)) (some ⟨((w.alloc (.cells #[.int .u8 y.x.k.toNat, .int .u8 y.x.a.l.toNat, .string ⟨y.x.a.d.toArray⟩, .string ⟨y.x.a.n.toArray⟩, .int .u16 y.x.a.v.toNat, .int .u8 y.x.a.i.toNat, .slice y.B y.x.a.m.length y.c, .int .i64 y.x.e.a, .int .u16 y.x.e.m.toNat, .int .u8 y.x.e.p.toNat, .bool y.x.e.u, .int .u8 y.x.m.p.toNat, .int .u16 y.x.m.v.toNat, .int .u8 y.x.m.l.toNat] 43))).heap.size, 0, none⟩) [y]) := Lib.hid (els_one16 (w.alloc (.cells #[.int .u8 y.x.k.toNat, .int .u8 y.x.a.l.toNat, .string ⟨y.x.a.d.toArray⟩, .string ⟨y.x.a.n.toArray⟩, .int .u16 y.x.a.v.toNat, .int .u8 y.x.a.i.toNat, .slice y.B y.x.a.m.length y.c, .int .i64 y.x.e.a, .int .u16 y.x.e.m.toNat, .int .u8 y.x.e.p.toNat, .bool y.x.e.u, .int .u8 y.x.m.p.toNat, .int .u16 y.x.m.v.toNat, .int .u8 y.x.m.l.toNat] 43)) 43 y _ rfl)
  have hsz : ((w.alloc (.cells #[.int .u8 y.x.k.toNat, .int .u8 y.x.a.l.toNat, .string ⟨y.x.a.d.toArray⟩, .string ⟨y.x.a.n.toArray⟩, .int .u16 y.x.a.v.toNat, .int .u8 y.x.a.i.toNat, .slice y.B y.x.a.m.length y.c, .int .i64 y.x.e.a, .int .u16 y.x.e.m.toNat, .int .u8 y.x.e.p.toNat, .bool y.x.e.u, .int .u8 y.x.m.p.toNat, .int .u16 y.x.m.v.toNat, .int .u8 y.x.m.l.toNat] 43))).heap.size = w.heap.size + 1 := by simp
  rw [hsz] at HE0
  have KG := Lib.hid (fun w h => great16_any (some ⟨w.heap.size, 0, none⟩) 1 [y] w h)
  obtain ⟨gb, hgb⟩ : ∃ gb, grt [y] = gb := ⟨_, rfl⟩
  have q : ∀ w : World, (Op.equalIn 10000 56 (.agg #[.int .u8 0, .int .u8 0, .int .i64 (-1)]) (.agg #[.int .u8 0, .int .u8 0, .int .i64 (-1)])).run Try.prog w = .ok true w := fun w => run_eqAt 0 0 (-1) w
  have KG2 : Hid (Calls Try.prog 6 #[.slice (some ⟨w.heap.size + 1, 0, none⟩) 1 1] ((w.alloc (.cells #[.int .u8 y.x.k.toNat, .int .u8 y.x.a.l.toNat, .string ⟨y.x.a.d.toArray⟩, .string ⟨y.x.a.n.toArray⟩, .int .u16 y.x.a.v.toNat, .int .u8 y.x.a.i.toNat, .slice y.B y.x.a.m.length y.c, .int .i64 y.x.e.a, .int .u16 y.x.e.m.toNat, .int .u8 y.x.e.p.toNat, .bool y.x.e.u, .int .u8 y.x.m.p.toNat, .int .u16 y.x.m.v.toNat, .int .u8 y.x.m.l.toNat] 43)).alloc (.cells #[.int .u8 y.x.k.toNat, .int .u8 y.x.a.l.toNat, .string ⟨y.x.a.d.toArray⟩, .string ⟨y.x.a.n.toArray⟩, .int .u16 y.x.a.v.toNat, .int .u8 y.x.a.i.toNat, .slice y.B y.x.a.m.length y.c, .int .i64 y.x.e.a, .int .u16 y.x.e.m.toNat, .int .u8 y.x.e.p.toNat, .bool y.x.e.u, .int .u8 y.x.m.p.toNat, .int .u16 y.x.m.v.toNat, .int .u8 y.x.m.l.toNat] 43)) fun e w' => e = .returned (.bool gb) ∧ Below (((w.alloc (.cells #[.int .u8 y.x.k.toNat, .int .u8 y.x.a.l.toNat, .string ⟨y.x.a.d.toArray⟩, .string ⟨y.x.a.n.toArray⟩, .int .u16 y.x.a.v.toNat, .int .u8 y.x.a.i.toNat, .slice y.B y.x.a.m.length y.c, .int .i64 y.x.e.a, .int .u16 y.x.e.m.toNat, .int .u8 y.x.e.p.toNat, .bool y.x.e.u, .int .u8 y.x.m.p.toNat, .int .u16 y.x.m.v.toNat, .int .u8 y.x.m.l.toNat] 43)).alloc (.cells #[.int .u8 y.x.k.toNat, .int .u8 y.x.a.l.toNat, .string ⟨y.x.a.d.toArray⟩, .string ⟨y.x.a.n.toArray⟩, .int .u16 y.x.a.v.toNat, .int .u8 y.x.a.i.toNat, .slice y.B y.x.a.m.length y.c, .int .i64 y.x.e.a, .int .u16 y.x.e.m.toNat, .int .u8 y.x.e.p.toNat, .bool y.x.e.u, .int .u8 y.x.m.p.toNat, .int .u16 y.x.m.v.toNat, .int .u8 y.x.m.l.toNat] 43))).heap.size ((w.alloc (.cells #[.int .u8 y.x.k.toNat, .int .u8 y.x.a.l.toNat, .string ⟨y.x.a.d.toArray⟩, .string ⟨y.x.a.n.toArray⟩, .int .u16 y.x.a.v.toNat, .int .u8 y.x.a.i.toNat, .slice y.B y.x.a.m.length y.c, .int .i64 y.x.e.a, .int .u16 y.x.e.m.toNat, .int .u8 y.x.e.p.toNat, .bool y.x.e.u, .int .u8 y.x.m.p.toNat, .int .u16 y.x.m.v.toNat, .int .u8 y.x.m.l.toNat] 43)).alloc (.cells #[.int .u8 y.x.k.toNat, .int .u8 y.x.a.l.toNat, .string ⟨y.x.a.d.toArray⟩, .string ⟨y.x.a.n.toArray⟩, .int .u16 y.x.a.v.toNat, .int .u8 y.x.a.i.toNat, .slice y.B y.x.a.m.length y.c, .int .i64 y.x.e.a, .int .u16 y.x.e.m.toNat, .int .u8 y.x.e.p.toNat, .bool y.x.e.u, .int .u8 y.x.m.p.toNat, .int .u16 y.x.m.v.toNat, .int .u8 y.x.m.l.toNat] 43)) w') := Lib.hid (by
    have := great16_any (some ⟨w.heap.size + 1, 0, none⟩) 1 [y] _ HE0.out
    rw [hgb] at this
    exact this)
  clear KG hgb hsz HH hq
  have a0 := HK0.out.cell 0
  have a1 := HK0.out.cell 1
  have a2 := HK0.out.cell 2
  have a3 := HK0.out.cell 3
  have a4 := HK0.out.cell 4
  have a5 := HK0.out.cell 5
  have a6 := HK0.out.cell 6
  have a7 := HK0.out.cell 7
  have a8 := HK0.out.cell 8
  have a9 := HK0.out.cell 9
  have a10 := HK0.out.cell 10
  have a11 := HK0.out.cell 11
  have a12 := HK0.out.cell 12
  have a13 := HK0.out.cell 13
  simp only [List.getElem?_toArray, List.getElem?_cons_succ, List.getElem?_cons_zero] at a0 a1 a2 a3 a4 a5 a6 a7 a8 a9 a10 a11 a12 a13
  show Calls _ _ #[.agg #[.int .u8 y.x.k.toNat, .int .u8 y.x.a.l.toNat, .string ⟨y.x.a.d.toArray⟩, .string ⟨y.x.a.n.toArray⟩, .int .u16 y.x.a.v.toNat, .int .u8 y.x.a.i.toNat, .slice y.B y.x.a.m.length y.c, .int .i64 y.x.e.a, .int .u16 y.x.e.m.toNat, .int .u8 y.x.e.p.toNat, .bool y.x.e.u, .int .u8 y.x.m.p.toNat, .int .u16 y.x.m.v.toNat, .int .u8 y.x.m.l.toNat], _, _, _] _ _
  go_enter Try.func4, Try.ntmps4
  go_wp2_with fail
  refine (KG2.out).mono ?_
  rintro e_ w1 ⟨rfl, hb1⟩
  have HB1 : Hid (Below w.heap.size w w1) := Lib.hid (HB0.out.trans (hb1.mono HB0.out.size))
  have HK2 := Lib.hid (HK1.out.below hb1 HK1.out.lt)
  clear hb1 HB0 HK0 HK1 HE0 KG2 a0 a1 a2 a3 a4 a5 a6 a7 a8 a9 a10 a11 a12 a13
  cases gb
  · 
    have a0 := HK2.out.cell 0
    have a1 := HK2.out.cell 1
    have a2 := HK2.out.cell 2
    have a3 := HK2.out.cell 3
    have a4 := HK2.out.cell 4
    have a5 := HK2.out.cell 5
    have a6 := HK2.out.cell 6
    have a7 := HK2.out.cell 7
    have a8 := HK2.out.cell 8
    have a9 := HK2.out.cell 9
    have a10 := HK2.out.cell 10
    have a11 := HK2.out.cell 11
    have a12 := HK2.out.cell 12
    have a13 := HK2.out.cell 13
    simp only [List.getElem?_toArray, List.getElem?_cons_succ, List.getElem?_cons_zero] at a0 a1 a2 a3 a4 a5 a6 a7 a8 a9 a10 a11 a12 a13
    go_wp2_with fail
    refine (KD.out _).mono ?_
    rintro e_ w2 ⟨rfl, hb2⟩
    have HB2 : Hid (Below w.heap.size w w2) := Lib.hid (HB1.out.trans (hb2.mono HB1.out.size))
    clear hb2 HB1 HK2 a0 a1 a2 a3 a4 a5 a6 a7 a8 a9 a10 a11 a12 a13
    go_wp2_with fail
    refine (KAs.out _).mono ?_
    rintro e_ w3 ⟨rfl, hb3⟩
    have HB3 : Hid (Below w.heap.size w (w3.alloc (.cells #[.int .u8 0, .string ⟨#[]⟩, .string ⟨#[]⟩, .int .u16 0, .int .u8 0, .slice none 0 0] 50))) := Lib.hid ((HB2.out.trans (hb3.mono HB2.out.size)).alloc (by have := HB2.out.size; have := hb3.size; omega) _)
    have HZ3 := Lib.hid (Blk.new w3 50 #[.int .u8 0, .string ⟨#[]⟩, .string ⟨#[]⟩, .int .u16 0, .int .u8 0, .slice none 0 0])
    clear hb3 HB2
    have z2 := HZ3.out.cell 2
    have z5 := HZ3.out.cell 5
    simp only [List.getElem?_toArray, List.getElem?_cons_succ, List.getElem?_cons_zero] at z2 z5
    go_wp2_with fail
    refine (KM.out _).mono ?_
    rintro e_ w4 ⟨B4, c4, rfl, hb4⟩
    have HB4 : Hid (Below w.heap.size w w4) := Lib.hid (HB3.out.trans (hb4.mono HB3.out.size))
    clear hb4 HB3 HZ3 z2 z5
    go_wp2_with fail
    refine (KAt.out _).mono ?_
    rintro e_ w5 ⟨rfl, hb5⟩
    have HB5 : Hid (Below w.heap.size w w5) := Lib.hid (HB4.out.trans (hb5.mono HB4.out.size))
    clear hb5 HB4
    go_wp2_with fail
    refine (KW.out _).mono ?_
    rintro e_ w6 ⟨rfl, hb6⟩
    have HB6 : Hid (Below w.heap.size w w6) := Lib.hid (HB5.out.trans (hb6.mono HB5.out.size))
    clear hb6 HB5
    go_wp2
    go_ret
    exact ⟨rfl, HB6.out⟩
  · go_wp2_with fail
    refine (KW.out _).mono ?_
    rintro e_ w2 ⟨rfl, hb2⟩
    have HB2 : Hid (Below w.heap.size w w2) := Lib.hid (HB1.out.trans (hb2.mono HB1.out.size))
    clear hb2 HB1 HK2
    go_wp2
    go_ret
    exact ⟨rfl, HB2.out⟩
end Go.Proofs.Ytfdiolfelecccaa
