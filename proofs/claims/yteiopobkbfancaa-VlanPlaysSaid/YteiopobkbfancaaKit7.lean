/- Layer 7: what the laws share: acts as arguments, VLANs as rows, what comes in. -/
import Derived.Test.YteiopobkbfancaaAfter
import Derived.Test.YteiopobkbfancaaNums
import Derived.Test.YteiopobkbfancaaGro
import Derived.Shelf.SlSortCmp.QuietGrown
namespace Go.Proofs.Yteiopobkbfancaa
open Go.Shelf
open Go.Sort (grow)
open Go.RowKit Go.ChangeShapes Go.WideShapes Go.ChangeAt
set_option linter.unusedVariables false
set_option linter.unusedSimpArgs false
set_option maxRecDepth 100000

section
variable {H : Type} {enc : TypeId × Value → H} {w : World} {base : Nat} {spare : Nat → Bool} {held : Bool}
theorem ac_trod {t : TypeId} {f0 f1 f2 f3 f4 : Field} (hs : Try.prog.underlying t = some (.struct #[f0, f1, f2, f3, f4])) (ht : f0.type = 5 ∧ f1.type = 23 ∧ f2.type = 5 ∧ f3.type = 5 ∧ f4.type = 5) (ho : f0.offset = 0 ∧ f1.offset = 1 ∧ f2.offset = 2 ∧ f3.offset = 3 ∧ f4.offset = 4)
    {fuel : Nat} {cs : List Value} {x : DataW H × List MemPlace} (hl : cs.length = 5) (h : DataW.trod enc Try.prog w base spare held fuel t cs = some x) : ∃ v : Ac, True ∧ cs = encA v := by
  obtain ⟨t0, t1, t2, t3, t4⟩ := ht
  obtain ⟨o0, o1, o2, o3, o4⟩ := ho
  obtain ⟨n0, e0, w0⟩ := trod_fldInt hs h 0 f0 rfl (k := .u8) (by rw [t0]; exact Try.underlying5) (by rw [t0]; kernel_rfl)
  obtain ⟨n1, e1, w1⟩ := trod_fldInt hs h 1 f1 rfl (k := .u16) (by rw [t1]; exact Try.underlying23) (by rw [t1]; kernel_rfl)
  obtain ⟨n2, e2, w2⟩ := trod_fldInt hs h 2 f2 rfl (k := .u8) (by rw [t2]; exact Try.underlying5) (by rw [t2]; kernel_rfl)
  obtain ⟨n3, e3, w3⟩ := trod_fldInt hs h 3 f3 rfl (k := .u8) (by rw [t3]; exact Try.underlying5) (by rw [t3]; kernel_rfl)
  obtain ⟨n4, e4, w4⟩ := trod_fldInt hs h 4 f4 rfl (k := .u8) (by rw [t4]; exact Try.underlying5) (by rw [t4]; kernel_rfl)
  rw [o0] at e0
  rw [o1] at e1
  rw [o2] at e2
  rw [o3] at e3
  rw [o4] at e4
  obtain ⟨v1, rfl⟩ := u16_of w1
  obtain ⟨v2, rfl⟩ := u8_of w2
  obtain ⟨v3, rfl⟩ := u8_of w3
  obtain ⟨v4, rfl⟩ := u8_of w4
  match cs, hl with
  | [c0, c1, c2, c3, c4], _ =>
    simp only [List.getElem?_cons_zero, List.getElem?_cons_succ, Option.some.injEq] at e0 e1 e2 e3 e4
    subst e0 e1 e2 e3 e4
    exact ⟨⟨n0, v1, v2, v3, v4⟩, trivial, rfl⟩
end
/-- what number k of the VLANs holds in memory -/
theorem els_k {w : World} {A : Option Addr} {L : List Vn} (h : Els 1 encU w A (vks L)) {k : Nat} {x : Vn} (hx : L[k]? = some x) :
    ∃ b off, A = some ⟨b, off, none⟩ ∧ b < w.heap.size ∧ w.cell? ⟨b, off + k, none⟩ = some (.int .u16 x.v.toNat) := by
  obtain ⟨hk, rfl⟩ := List.getElem?_eq_some_iff.1 hx
  obtain ⟨b, off, e, hlt, hc⟩ := h (by rw [vks_len]; omega)
  have := hc k (by rw [vks_len]; exact hk) 0 _ rfl
  rw [Nat.mul_one, Nat.add_zero] at this
  refine ⟨b, off, e, hlt, this.trans ?_⟩
  simp [vks]
theorem els_k2 {w : World} {b off : Nat} {L : List Vn} (h : Els 1 encU w (some ⟨b, off, none⟩) (vks L)) {k : Nat} {x : Vn} (hx : L[k]? = some x) : w.cell? ⟨b, off + k, none⟩ = some (.int .u16 x.v.toNat) := by
  obtain ⟨b', off', e, _, hc⟩ := els_k h hx
  cases e
  exact hc
theorem ris_lt {L : List Vn} (h : Ris L) {j : Nat} {x y : Vn} (hy : L[j]? = some y) (hx : L[j + 1]? = some x) : y.v.toNat < x.v.toNat := by
  obtain ⟨h1, rfl⟩ := List.getElem?_eq_some_iff.1 hy
  obtain ⟨h2, rfl⟩ := List.getElem?_eq_some_iff.1 hx
  exact List.pairwise_iff_getElem.1 h _ _ h1 h2 (Nat.lt_succ_self _)
/-- the members of a VLAN of the row -/
theorem vm_at : ∀ {L : List Vn}, Ris L → ∀ {j : Nat} {x : Vn}, L[j]? = some x → vm L x.v = x.m
  | [], _, j, x, h => by simp at h
  | y :: L, hr, 0, x, h => by
    have e : y = x := by simpa using h
    subst e
    simp [vm, vfind]
  | y :: L, hr, j + 1, x, h => by
    have h' : L[j]? = some x := by simpa using h
    have hx : x ∈ L := List.mem_of_getElem? h'
    have hc := List.pairwise_cons.1 hr
    have hne : ¬ y.v = x.v := fun e => by have := hc.1 x hx; rw [e] at this; omega
    have := vm_at hc.2 h'
    unfold vm vfind at this ⊢
    rw [List.find?_cons_of_neg (by simpa using hne)]
    exact this
theorem vin_no {N : Nat} {L : List Vn} {own : List UInt16} {p : UInt8} {f : Fr} (h : vinB N L own p f = false) : vinV N L own p f = 0 := by
  unfold vinB at h
  unfold vinV
  rw [h]
  rfl
theorem vin_yes {N : Nat} {L : List Vn} {own : List UInt16} {p : UInt8} {f : Fr} (h : vinB N L own p f = true) : has8 (vm L (vinV N L own p f)) p = true ∧ (f.tag = true → f.vid ≠ 0 → vinV N L own p f = f.vid) := by
  unfold vinB at h
  unfold vinV
  rw [h]
  refine ⟨h, fun h1 h2 => ?_⟩
  show vtold N own p f = f.vid
  unfold vtold
  rw [h1]
  simp [h2]
theorem has8_lt {s p : UInt8} (h : has8 s p = true) : p.toNat ≤ 7 := by
  rcases Nat.lt_or_ge 7 p.toNat with h1 | h1
  · rw [has8_big h1] at h; cases h
  · exact h1
theorem vout_has {L : List Vn} {p : UInt8} {v : UInt16} {f : Fr} (h : voutB L p v f = true) : has8 (vm L v) p = true := by
  unfold voutB at h
  simp at h
  exact h.1
theorem has8_run0 (s p : UInt8) : (bits BinOp.and IntKind.u8 ((s.toNat : Int) / 2 ^ min p.toNat 8) 1 == 0) = !has8 s p := by
  have h := has8_run s p
  have hs : s.toNat < 256 := s.toNat_lt
  have e : ((s.toNat : Int) / 2 ^ min p.toNat 8) = ((s.toNat / 2 ^ min p.toNat 8 : Nat) : Int) := by simp
  have hlt : s.toNat / 2 ^ min p.toNat 8 < 256 := Nat.lt_of_le_of_lt (Nat.div_le_self _ _) hs
  rw [← h, e]
  have := u8_and_nat (s.toNat / 2 ^ min p.toNat 8) 1 hlt (by decide)
  rw [show ((1 : Nat) : Int) = 1 from rfl] at this
  rw [this, nat_mask1]
  rcases Nat.mod_two_eq_zero_or_one (s.toNat / 2 ^ min p.toNat 8) with h0 | h0 <;> rw [h0] <;> rfl
/-- what a call of the law's after leaves: a table, its frame in memory beside it -/
structure ApS (W : World) (t : Nat) (mb : Option Nat) (N : Nat) (L : List Vn) (own : List UInt16) (g : Nat) (f : Fr) (w : World) : Prop where
  tb : Tbl w t mb N L own
  fr : FrA w g f
  bl : Below W.heap.size W w
theorem ApS.calm {W w w' : World} {t N g : Nat} {mb : Option Nat} {L : List Vn} {own : List UInt16} {f : Fr} (h : ApS W t mb N L own g f w) (hb : Below w.heap.size w w') : ApS W t mb N L own g f w' :=
  ⟨h.tb.next hb, h.fr.next hb, h.bl.trans (hb.mono h.bl.size)⟩
/-- .. and what a later world is to the one behind the call of Vlans -/
structure Ap2 (W W5 : World) (t : Nat) (mb : Option Nat) (N : Nat) (L : List Vn) (own : List UInt16) (g : Nat) (f : Fr) (w : World) : Prop where
  a : ApS W t mb N L own g f w
  b : Below W5.heap.size W5 w
theorem Ap2.calm {W W5 w w' : World} {t N g : Nat} {mb : Option Nat} {L : List Vn} {own : List UInt16} {f : Fr} (h : Ap2 W W5 t mb N L own g f w) (hb : Below w.heap.size w w') : Ap2 W W5 t mb N L own g f w' :=
  ⟨h.a.calm hb, h.b.trans (hb.mono h.b.size)⟩
set_option maxHeartbeats 1000000 in
theorem of_gro {w : World} {t N : Nat} {mb : Option Nat} {L : List Vn} {own : List UInt16} (h : Tbl w t mb N L own) (v : UInt16) :
    Calls Try.prog 25 #[.pointer (some ⟨t, 0, none⟩), .int .u16 v.toNat] w fun e w' => e = .returned (.agg #[.int .u8 (vm L v).toNat, .int .u8 (vu L v).toNat]) ∧ Gro w w' := by
  have hlt := h.lt t (.inl rfl)
  have c1 := h.c1
  have hl := (h.next ((Below.refl _ w).alloc (Nat.le_refl _) (.cells #[.int .u8 0, .int .u8 0] 69))).vof.run v false
  clear h
  go_enter Try.func25, Try.ntmps25
  go_wp2
  exact bodyPost_ret (v := .agg #[.int .u8 (vm L v).toNat, .int .u8 (vu L v).toNat]) (by simp [results, Try.results25, go_sem]) rfl ⟨rfl, (Gro.refl w).alloc _⟩
set_option maxHeartbeats 1000000 in
theorem members_gro {w : World} {t N : Nat} {mb : Option Nat} {L : List Vn} {own : List UInt16} (h : Tbl w t mb N L own) (v : UInt16) :
    Calls Try.prog 11 #[.pointer (some ⟨t, 0, none⟩), .int .u16 v.toNat] w fun e w' => e = .returned (.int .u8 (vm L v).toNat) ∧ Gro w w' := by
  go_enter Try.func11, Try.ntmps11
  go_wp2_with fail
  refine (of_gro h v).mono ?_
  rintro e w2 ⟨rfl, hb⟩
  clear h
  have hf := fld0 (vm L v).toNat (vu L v).toNat
  go_wp2
  go_ret
  exact ⟨rfl, hb⟩
theorem members_grow {w : World} {t N : Nat} {mb : Option Nat} {L : List Vn} {own : List UInt16} (h : Tbl w t mb N L own) (v : UInt16) :
    Calls Try.prog 11 #[.pointer (some ⟨t, 0, none⟩), .int .u16 v.toNat] w fun e w' => e = .returned (.int .u8 (vm L v).toNat) ∧ ∃ q os, w' = grow (w.drewN q) os :=
  (members_gro h v).mono fun _ _ h => ⟨h.1, h.2.out⟩
theorem cell_gr {w : World} {a : Addr} {v : Value} (h : w.cell? a = some v) (n : Nat) (os : Array Obj) : (grow (w.drewN n) os).cell? a = some v := cell_grown (World.block_lt_of_cell? w _ h) h n os
theorem keepF {W W5 w w' : World} {t N g : Nat} {mb : Option Nat} {L : List Vn} {own : List UInt16} {f : Fr} {b i : Nat} {u : Value} (h0 : w.cell? ⟨b, i, none⟩ = some u) (h : Hid (Ap2 W W5 t mb N L own g f w)) (hb : Below w.heap.size w w') :
    w'.cell? ⟨g, 0, none⟩ = some (.int .u8 f.d0.toNat) ∧ w'.cell? ⟨g, 1, none⟩ = some (.int .u8 f.d1.toNat) ∧ w'.cell? ⟨g, 2, none⟩ = some (.int .u8 f.d2.toNat) ∧ w'.cell? ⟨g, 3, none⟩ = some (.int .u8 f.d3.toNat) ∧ w'.cell? ⟨g, 4, none⟩ = some (.int .u8 f.d4.toNat) ∧ w'.cell? ⟨g, 5, none⟩ = some (.int .u8 f.d5.toNat) ∧ w'.cell? ⟨g, 6, none⟩ = some (.int .u8 f.s0.toNat) ∧ w'.cell? ⟨g, 7, none⟩ = some (.int .u8 f.s1.toNat) ∧ w'.cell? ⟨g, 8, none⟩ = some (.int .u8 f.s2.toNat) ∧ w'.cell? ⟨g, 9, none⟩ = some (.int .u8 f.s3.toNat) ∧ w'.cell? ⟨g, 10, none⟩ = some (.int .u8 f.s4.toNat) ∧ w'.cell? ⟨g, 11, none⟩ = some (.int .u8 f.s5.toNat) ∧ w'.cell? ⟨g, 12, none⟩ = some (.bool f.tag) ∧ w'.cell? ⟨g, 13, none⟩ = some (.int .u8 f.pri.toNat) ∧ w'.cell? ⟨g, 14, none⟩ = some (.int .u16 f.vid.toNat) ∧ w'.cell? ⟨g, 15, none⟩ = some (.int .u16 f.ty.toNat) ∧ w'.cell? ⟨g, 16, none⟩ = some (.string ⟨f.data.toArray⟩) ∧ w'.cell? ⟨b, i, none⟩ = some u ∧ Hid (Ap2 W W5 t mb N L own g f w') := by
  have h' := h.out.calm hb
  have c := h'.a.fr.cells
  exact ⟨c.c0, c.c1, c.c2, c.c3, c.c4, c.c5, c.c6, c.c7, c.c8, c.c9, c.c10, c.c11, c.c12, c.c13, c.c14, c.c15, c.c16, (hb.cell (p := ⟨b, i, none⟩) (World.block_lt_of_cell? w _ h0)).trans h0, Lib.hid h'⟩
/-- a frame stored into a block of one -/
theorem stores_blk {w : World} {g : Nat} {f : Fr} (h : FrA w g f) (v0 v1 v2 v3 v4 v5 v6 v7 v8 v9 v10 v11 v12 v13 v14 v15 v16 : Value) (h1 : (#[v0, v1, v2, v3, v4, v5, v6, v7, v8, v9, v10, v11, v12, v13, v14, v15, v16] : Array Value).all (·.oneCell') = true) :
    (storeCells ⟨g, 0, none⟩ [v0, v1, v2, v3, v4, v5, v6, v7, v8, v9, v10, v11, v12, v13, v14, v15, v16] 0).run Try.prog w = .ok () (w.setRow g #[v0, v1, v2, v3, v4, v5, v6, v7, v8, v9, v10, v11, v12, v13, v14, v15, v16]) := by
  have := run_storeCells_from (P := Try.prog) g 27 [v0, v1, v2, v3, v4, v5, v6, v7, v8, v9, v10, v11, v12, v13, v14, v15, v16] 0 _ w h (by simp) (by simpa using h1)
  rw [this]
  rfl
theorem storesN (w : World) (x : Fr) : (storeCells ⟨w.heap.size, 0, none⟩ [.int .u8 x.d0.toNat, .int .u8 x.d1.toNat, .int .u8 x.d2.toNat, .int .u8 x.d3.toNat, .int .u8 x.d4.toNat, .int .u8 x.d5.toNat, .int .u8 x.s0.toNat, .int .u8 x.s1.toNat, .int .u8 x.s2.toNat, .int .u8 x.s3.toNat, .int .u8 x.s4.toNat, .int .u8 x.s5.toNat, .bool x.tag, .int .u8 x.pri.toNat, .int .u16 x.vid.toNat, .int .u16 x.ty.toNat, .string ⟨x.data.toArray⟩] 0).run Try.prog (w.alloc (.cells #[.int .u8 0, .int .u8 0, .int .u8 0, .int .u8 0, .int .u8 0, .int .u8 0, .int .u8 0, .int .u8 0, .int .u8 0, .int .u8 0, .int .u8 0, .int .u8 0, .bool false, .int .u8 0, .int .u16 0, .int .u16 0, .string ⟨#[]⟩] 27)) = .ok () (w.alloc (.cells #[.int .u8 x.d0.toNat, .int .u8 x.d1.toNat, .int .u8 x.d2.toNat, .int .u8 x.d3.toNat, .int .u8 x.d4.toNat, .int .u8 x.d5.toNat, .int .u8 x.s0.toNat, .int .u8 x.s1.toNat, .int .u8 x.s2.toNat, .int .u8 x.s3.toNat, .int .u8 x.s4.toNat, .int .u8 x.s5.toNat, .bool x.tag, .int .u8 x.pri.toNat, .int .u16 x.vid.toNat, .int .u16 x.ty.toNat, .string ⟨x.data.toArray⟩] 27)) :=
  stores_new w (.int .u8 x.d0.toNat) (.int .u8 x.d1.toNat) (.int .u8 x.d2.toNat) (.int .u8 x.d3.toNat) (.int .u8 x.d4.toNat) (.int .u8 x.d5.toNat) (.int .u8 x.s0.toNat) (.int .u8 x.s1.toNat) (.int .u8 x.s2.toNat) (.int .u8 x.s3.toNat) (.int .u8 x.s4.toNat) (.int .u8 x.s5.toNat) (.bool x.tag) (.int .u8 x.pri.toNat) (.int .u16 x.vid.toNat) (.int .u16 x.ty.toNat) (.string ⟨x.data.toArray⟩) (by kernel_rfl)
theorem storesB {w : World} {g : Nat} {f : Fr} (h : FrA w g f) (x : Fr) : (storeCells ⟨g, 0, none⟩ [.int .u8 x.d0.toNat, .int .u8 x.d1.toNat, .int .u8 x.d2.toNat, .int .u8 x.d3.toNat, .int .u8 x.d4.toNat, .int .u8 x.d5.toNat, .int .u8 x.s0.toNat, .int .u8 x.s1.toNat, .int .u8 x.s2.toNat, .int .u8 x.s3.toNat, .int .u8 x.s4.toNat, .int .u8 x.s5.toNat, .bool x.tag, .int .u8 x.pri.toNat, .int .u16 x.vid.toNat, .int .u16 x.ty.toNat, .string ⟨x.data.toArray⟩] 0).run Try.prog w = .ok () (w.setRow g #[.int .u8 x.d0.toNat, .int .u8 x.d1.toNat, .int .u8 x.d2.toNat, .int .u8 x.d3.toNat, .int .u8 x.d4.toNat, .int .u8 x.d5.toNat, .int .u8 x.s0.toNat, .int .u8 x.s1.toNat, .int .u8 x.s2.toNat, .int .u8 x.s3.toNat, .int .u8 x.s4.toNat, .int .u8 x.s5.toNat, .bool x.tag, .int .u8 x.pri.toNat, .int .u16 x.vid.toNat, .int .u16 x.ty.toNat, .string ⟨x.data.toArray⟩]) :=
  stores_blk h (.int .u8 x.d0.toNat) (.int .u8 x.d1.toNat) (.int .u8 x.d2.toNat) (.int .u8 x.d3.toNat) (.int .u8 x.d4.toNat) (.int .u8 x.d5.toNat) (.int .u8 x.s0.toNat) (.int .u8 x.s1.toNat) (.int .u8 x.s2.toNat) (.int .u8 x.s3.toNat) (.int .u8 x.s4.toNat) (.int .u8 x.s5.toNat) (.bool x.tag) (.int .u8 x.pri.toNat) (.int .u16 x.vid.toNat) (.int .u16 x.ty.toNat) (.string ⟨x.data.toArray⟩) (by kernel_rfl)
theorem below_dr {w w' : World} (hb : Below w.drew.heap.size w.drew w') : Below w.heap.size w w' := ((Below.refl w.heap.size w).drew).trans hb
theorem below_al {w w' : World} {o : Obj} (hb : Below (w.alloc o).drew.heap.size (w.alloc o).drew w') : Below w.heap.size w w' :=
  ((Below.refl w.heap.size w).alloc (Nat.le_refl _) _).drew.trans (hb.mono (by simp))
theorem zero_al {w w' : World} (hb : Below (w.alloc (.cells #[.int .u8 0, .int .u8 0, .int .u8 0, .int .u8 0, .int .u8 0, .int .u8 0, .int .u8 0, .int .u8 0, .int .u8 0, .int .u8 0, .int .u8 0, .int .u8 0, .bool false, .int .u8 0, .int .u16 0, .int .u16 0, .string ⟨#[]⟩] 27)).drew.heap.size (w.alloc (.cells #[.int .u8 0, .int .u8 0, .int .u8 0, .int .u8 0, .int .u8 0, .int .u8 0, .int .u8 0, .int .u8 0, .int .u8 0, .int .u8 0, .int .u8 0, .int .u8 0, .bool false, .int .u8 0, .int .u16 0, .int .u16 0, .string ⟨#[]⟩] 27)).drew w') : FrA w' w.heap.size Fr.zero := FrA.next (w := (w.alloc (.cells #[.int .u8 0, .int .u8 0, .int .u8 0, .int .u8 0, .int .u8 0, .int .u8 0, .int .u8 0, .int .u8 0, .int .u8 0, .int .u8 0, .int .u8 0, .int .u8 0, .bool false, .int .u8 0, .int .u16 0, .int .u16 0, .string ⟨#[]⟩] 27)).drew) (FrA.new w Fr.zero) hb
theorem below_set {a w : World} {i : Nat} {v : Value} (h : Below a.heap.size a w) : Below a.heap.size a (w.setCell ⟨a.heap.size, i, none⟩ v) := h.setCell (Nat.le_refl _) _
theorem keepAp {W W5 w w' : World} {t N g : Nat} {mb : Option Nat} {L : List Vn} {own : List UInt16} {f : Fr} {b i j : Nat} {u v : Value} (h0 : w.cell? ⟨b, i, none⟩ = some u) (h1 : w.cell? ⟨b, j, none⟩ = some v) (h : Hid (Ap2 W W5 t mb N L own g f w)) (hb : Below w.heap.size w w') :
    w'.cell? ⟨b, i, none⟩ = some u ∧ w'.cell? ⟨b, j, none⟩ = some v ∧ Hid (Ap2 W W5 t mb N L own g f w') :=
  ⟨(hb.cell (p := ⟨b, i, none⟩) (World.block_lt_of_cell? w _ h0)).trans h0, (hb.cell (p := ⟨b, j, none⟩) (World.block_lt_of_cell? w _ h1)).trans h1, Lib.hid (h.out.calm hb)⟩
end Go.Proofs.Yteiopobkbfancaa
