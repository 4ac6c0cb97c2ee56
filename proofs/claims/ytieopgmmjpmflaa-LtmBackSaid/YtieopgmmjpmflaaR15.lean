/- Layer 15: the document's PutReply; the law's of, ofReply. -/
import Derived.Test.YtieopgmmjpmflaaR15a
namespace Go.Proofs.Ytieopgmmjpmflaa
open Go.RowKit
set_option linter.unusedVariables false
set_option linter.unusedSimpArgs false
set_option maxRecDepth 100000

theorem infoR15 : (Try.prog.info? 68).map (fun i => (i.zero, i.size, i.bytes)) = some (some (.agg #[.int .u8 0, .string ⟨#[]⟩]), 2, 24) := by kernel_rfl
theorem a6_eq (x : A6) (w : World) : (Op.equalIn 10000 24 (.agg #[.int .u8 x.a.toNat, .int .u8 x.b.toNat, .int .u8 x.c.toNat, .int .u8 x.d.toNat, .int .u8 x.e.toNat, .int .u8 x.f.toNat]) (.agg #[.int .u8 0, .int .u8 0, .int .u8 0, .int .u8 0, .int .u8 0, .int .u8 0])).run Try.prog w = .ok (decide (x = A6.z)) w := by
  have h := run_equalIn_bytes (P := Try.prog) w 9998 24 5 6 Try.underlying24 Try.underlying5 (fun w => by have := Try.sizeOf5; exact this w) x.l A6.z.l rfl rfl
  rw [a6_beq] at h
  exact h
/-- PutReply's memory -/
structure PrS (w : World) (r : Ry) (G : Int) (X : List UInt8) (T : List Tl) (v : Value) (wx : World) : Prop where
  hk : Blk wx w.heap.size 28 #[.int .u8 r.l.toNat, .int .u32 r.q.toNat, .int .u8 r.k.toNat, .bool r.s, .bool r.e, .int .u8 r.i.a.toNat, .int .u8 r.i.b.toNat, .int .u8 r.i.c.toNat, .int .u8 r.i.d.toNat, .int .u8 r.i.e.toNat, .int .u8 r.i.f.toNat, .int .u8 r.u.a.toNat, .int .u8 r.u.b.toNat, .int .u8 r.u.c.toNat, .int .u8 r.u.d.toNat, .int .u8 r.u.e.toNat, .int .u8 r.u.f.toNat]
  hr : Blk wx (w.heap.size + 1) 39 #[.int .u8 0, .int .u8 0, .int .u8 0, .string ⟨#[]⟩, .slice none 0 0]
  hp : Blk wx (w.heap.size + 2) 39 #[.int .u8 r.l.toNat, .int .u8 4, .int .u8 G, .string ⟨X.toArray⟩, v]
  own : wx.ownsRow (w.heap.size + 3) 68 2 v T.length (T.flatMap tlV)
  big : w.heap.size + 3 ≤ wx.heap.size
  below : Below w.heap.size w wx
section
variable {w wx w' : World} {r : Ry} {G : Int} {X : List UInt8} {T : List Tl} {v : Value}
theorem PrS.next (h : PrS w r G X T v wx) (hb : Below wx.heap.size wx w') : PrS w r G X T v w' := by
  obtain ⟨h1, h2, h3, h4, h5, h6⟩ := h
  refine ⟨h1.below hb h1.lt, h2.below hb h2.lt, h3.below hb h3.lt, ?_, Nat.le_trans h5 hb.size, h6.trans (hb.mono h6.size)⟩
  refine ⟨h4.1, ?_⟩
  rcases h4.2 with hn | ⟨g, cap, cur, hv, hbg, hg, rest⟩
  · exact .inl hn
  · refine .inr ⟨g, cap, cur, hv, hbg, ?_, rest⟩
    exact (hb.block g (Array.getElem?_eq_some_iff.1 hg).1).trans hg
theorem PrS.drew (h : PrS w r G X T v wx) : PrS w r G X T v wx.drew := ⟨h.hk, h.hr, h.hp, h.own, h.big, h.below.drew⟩
end
section
variable {w wx w' : World} {r : Ry} {G : Int} {X : List UInt8} {T : List Tl} {v : Value}
theorem own_far15 {g : Nat} {p : Addr} {u : Value} (h : wx.ownsRow g 68 2 v T.length (T.flatMap tlV)) (hp : p.block < g) : (wx.setCell p u).ownsRow g 68 2 v T.length (T.flatMap tlV) := by
  refine ⟨h.1, ?_⟩
  rcases h.2 with hn | ⟨g', cap, cur, hv, hbg, hg, rest⟩
  · exact .inl hn
  · exact .inr ⟨g', cap, cur, hv, hbg, (Below.heap_setCell wx p u g' (by omega)).trans hg, rest⟩
theorem PrS.put2 (h : PrS w r G X T v wx) (n : Int) : PrS w r n X T v (wx.setCell ⟨w.heap.size + 2, 2, none⟩ (.int .u8 n)) :=
  ⟨h.hk.far (p := ⟨w.heap.size + 2, 2, none⟩) (by show w.heap.size ≠ w.heap.size + 2; omega) _, h.hr.far (p := ⟨w.heap.size + 2, 2, none⟩) (by show w.heap.size + 1 ≠ w.heap.size + 2; omega) _, by have := h.hp.put 2 (.int .u8 n); simpa using this, own_far15 h.own (by show w.heap.size + 2 < w.heap.size + 3; omega), by simpa using h.big, h.below.setCell (p := ⟨w.heap.size + 2, 2, none⟩) (by show w.heap.size ≤ w.heap.size + 2; omega) _⟩
theorem PrS.put3 (h : PrS w r G X T v wx) (Y : List UInt8) : PrS w r G Y T v (wx.setCell ⟨w.heap.size + 2, 3, none⟩ (.string ⟨Y.toArray⟩)) :=
  ⟨h.hk.far (p := ⟨w.heap.size + 2, 3, none⟩) (by show w.heap.size ≠ w.heap.size + 2; omega) _, h.hr.far (p := ⟨w.heap.size + 2, 3, none⟩) (by show w.heap.size + 1 ≠ w.heap.size + 2; omega) _, by have := h.hp.put 3 (.string ⟨Y.toArray⟩); simpa using this, own_far15 h.own (by show w.heap.size + 2 < w.heap.size + 3; omega), by simpa using h.big, h.below.setCell (p := ⟨w.heap.size + 2, 3, none⟩) (by show w.heap.size ≤ w.heap.size + 2; omega) _⟩
/-- behind an append: the new row is stored -/
theorem PrS.put4 {v' : Value} {T' : List Tl} (h : PrS w r G X T v wx) (hg : wx.grownBy w' v.ownBlock) (ho : w'.ownsRow (w.heap.size + 3) 68 2 v' T'.length (T'.flatMap tlV)) : (Blk w' (w.heap.size + 2) 39 #[.int .u8 r.l.toNat, .int .u8 4, .int .u8 G, .string ⟨X.toArray⟩, v]) ∧ PrS w r G X T' v' (w'.setCell ⟨w.heap.size + 2, 4, none⟩ v') := by
  have b1 := blk_grownL h.hk hg (own_neL h.own h.hk (by decide))
  have b2 := blk_grownL h.hr hg (own_neL h.own h.hr (by decide))
  have b3 := blk_grownL h.hp hg (own_neL h.own h.hp (by decide))
  have hb := h.below.grown hg h.below.size (fun k hk => by have := (h.own.lt k hk).1; omega)
  refine ⟨b3, b1.far (p := ⟨w.heap.size + 2, 4, none⟩) (by show w.heap.size ≠ w.heap.size + 2; omega) _, b2.far (p := ⟨w.heap.size + 2, 4, none⟩) (by show w.heap.size + 1 ≠ w.heap.size + 2; omega) _, by have := b3.put 4 v'; simpa using this, own_far15 ho (by show w.heap.size + 2 < w.heap.size + 3; omega), ?_, hb.setCell (p := ⟨w.heap.size + 2, 4, none⟩) (by show w.heap.size ≤ w.heap.size + 2; omega) _⟩
  have := b3.lt
  simp
  omega
end
set_option maxHeartbeats 8000000 in
theorem refputr15_any (r : Ry) (w : World) :
    Calls Try.prog 10 #[RyV r] w fun e w' => ∃ A k, e = .returned (.tuple #[PdV (ryP r) A k, .int .i64 (ryE r : Nat)]) ∧ Els 2 tlV w' A (ryP r).t ∧ (A = none → k = 0) ∧ Below w.heap.size w w' := by
  have HB0 : Hid (Below w.heap.size w ((w.alloc (.cells #[.int .u8 r.l.toNat, .int .u32 r.q.toNat, .int .u8 r.k.toNat, .bool r.s, .bool r.e, .int .u8 r.i.a.toNat, .int .u8 r.i.b.toNat, .int .u8 r.i.c.toNat, .int .u8 r.i.d.toNat, .int .u8 r.i.e.toNat, .int .u8 r.i.f.toNat, .int .u8 r.u.a.toNat, .int .u8 r.u.b.toNat, .int .u8 r.u.c.toNat, .int .u8 r.u.d.toNat, .int .u8 r.u.e.toNat, .int .u8 r.u.f.toNat] 28)).alloc (.cells #[.int .u8 0, .int .u8 0, .int .u8 0, .string ⟨#[]⟩, .slice none 0 0] 39))) := Lib.hid (((Below.refl _ _).alloc (Nat.le_refl _) _).alloc (by simp) _)
  have HK0 : Hid (Blk ((w.alloc (.cells #[.int .u8 r.l.toNat, .int .u32 r.q.toNat, .int .u8 r.k.toNat, .bool r.s, .bool r.e, .int .u8 r.i.a.toNat, .int .u8 r.i.b.toNat, .int .u8 r.i.c.toNat, .int .u8 r.i.d.toNat, .int .u8 r.i.e.toNat, .int .u8 r.i.f.toNat, .int .u8 r.u.a.toNat, .int .u8 r.u.b.toNat, .int .u8 r.u.c.toNat, .int .u8 r.u.d.toNat, .int .u8 r.u.e.toNat, .int .u8 r.u.f.toNat] 28)).alloc (.cells #[.int .u8 0, .int .u8 0, .int .u8 0, .string ⟨#[]⟩, .slice none 0 0] 39)) w.heap.size 28 #[.int .u8 r.l.toNat, .int .u32 r.q.toNat, .int .u8 r.k.toNat, .bool r.s, .bool r.e, .int .u8 r.i.a.toNat, .int .u8 r.i.b.toNat, .int .u8 r.i.c.toNat, .int .u8 r.i.d.toNat, .int .u8 r.i.e.toNat, .int .u8 r.i.f.toNat, .int .u8 r.u.a.toNat, .int .u8 r.u.b.toNat, .int .u8 r.u.c.toNat, .int .u8 r.u.d.toNat, .int .u8 r.u.e.toNat, .int .u8 r.u.f.toNat]) := Lib.hid ((Blk.new _ _ _).alloc _)
  have HR0 : Hid (Blk ((w.alloc (.cells #[.int .u8 r.l.toNat, .int .u32 r.q.toNat, .int .u8 r.k.toNat, .bool r.s, .bool r.e, .int .u8 r.i.a.toNat, .int .u8 r.i.b.toNat, .int .u8 r.i.c.toNat, .int .u8 r.i.d.toNat, .int .u8 r.i.e.toNat, .int .u8 r.i.f.toNat, .int .u8 r.u.a.toNat, .int .u8 r.u.b.toNat, .int .u8 r.u.c.toNat, .int .u8 r.u.d.toNat, .int .u8 r.u.e.toNat, .int .u8 r.u.f.toNat] 28)).alloc (.cells #[.int .u8 0, .int .u8 0, .int .u8 0, .string ⟨#[]⟩, .slice none 0 0] 39)) (w.heap.size + 1) 39 #[.int .u8 0, .int .u8 0, .int .u8 0, .string ⟨#[]⟩, .slice none 0 0]) := Lib.hid (by
    have := Blk.new (w.alloc (.cells #[.int .u8 r.l.toNat, .int .u32 r.q.toNat, .int .u8 r.k.toNat, .bool r.s, .bool r.e, .int .u8 r.i.a.toNat, .int .u8 r.i.b.toNat, .int .u8 r.i.c.toNat, .int .u8 r.i.d.toNat, .int .u8 r.i.e.toNat, .int .u8 r.i.f.toNat, .int .u8 r.u.a.toNat, .int .u8 r.u.b.toNat, .int .u8 r.u.c.toNat, .int .u8 r.u.d.toNat, .int .u8 r.u.e.toNat, .int .u8 r.u.f.toNat] 28)) 39 #[.int .u8 0, .int .u8 0, .int .u8 0, .string ⟨#[]⟩, .slice none 0 0]
    simpa using this)
  show Calls _ _ #[.agg #[.int .u8 r.l.toNat, .int .u32 r.q.toNat, .int .u8 r.k.toNat, .bool r.s, .bool r.e, .int .u8 r.i.a.toNat, .int .u8 r.i.b.toNat, .int .u8 r.i.c.toNat, .int .u8 r.i.d.toNat, .int .u8 r.i.e.toNat, .int .u8 r.i.f.toNat, .int .u8 r.u.a.toNat, .int .u8 r.u.b.toNat, .int .u8 r.u.c.toNat, .int .u8 r.u.d.toNat, .int .u8 r.u.e.toNat, .int .u8 r.u.f.toNat]] _ _
  by_cases h7 : 7 < r.l.toNat
  · have HE : Hid (ryP r = pd0 ∧ ryE r = 2) := Lib.hid (by
      have e : ryE r = 2 := by unfold ryE; rw [if_pos h7]
      exact ⟨by unfold ryP; rw [if_neg (by omega)], e⟩)
    have p7 : (7 : Int) < (r.l.toNat : Int) := by omega
    clear h7
    have j0 := Blk.cell HK0.out 0
    simp only [List.getElem?_toArray, List.getElem?_cons_succ, List.getElem?_cons_zero] at j0
    go_enter Try.func10, Try.ntmps10
    go_wp2_with (refine wpList_store_row rfl 39 (.tmp 2) (.tmp 9) rfl (w.heap.size + 1) rfl _ rfl 39 _ HR0.out (by kernel_rfl) rfl (by kernel_rfl) ?_)
    refine bodyPost_ret (v := .tuple #[.agg #[.int .u8 0, .int .u8 0, .int .u8 0, .string ⟨#[]⟩, .slice none 0 0], .int .i64 2]) (results_cell_slot (p := 2) (q := 3) (by kernel_rfl) _ _ (w.heap.size + 1) 39 _ _ rfl (Blk.row HR0.out _) Try.underlying39 rfl (by kernel_rfl) _ rfl) rfl ?_
    exact ⟨none, 0, by rw [HE.out.1, HE.out.2]; rfl, by rw [HE.out.1]; exact els_nilL _ _, fun _ => rfl, below_row HB0.out (by omega) _⟩
  · have p7 : ¬ (7 : Int) < (r.l.toNat : Int) := by omega
    have hE : ryE r = 0 := by unfold ryE; rw [if_neg h7]
    have HE : Hid (ryP r = ⟨r.l, 4, ryG r, ryS r, ryT r⟩ ∧ ryE r = 0) := Lib.hid ⟨ryP_ok hE, hE⟩
    have H3 : Hid (PrS w r 0 [] [] (.slice none 0 0) (((w.alloc (.cells #[.int .u8 r.l.toNat, .int .u32 r.q.toNat, .int .u8 r.k.toNat, .bool r.s, .bool r.e, .int .u8 r.i.a.toNat, .int .u8 r.i.b.toNat, .int .u8 r.i.c.toNat, .int .u8 r.i.d.toNat, .int .u8 r.i.e.toNat, .int .u8 r.i.f.toNat, .int .u8 r.u.a.toNat, .int .u8 r.u.b.toNat, .int .u8 r.u.c.toNat, .int .u8 r.u.d.toNat, .int .u8 r.u.e.toNat, .int .u8 r.u.f.toNat] 28)).alloc (.cells #[.int .u8 0, .int .u8 0, .int .u8 0, .string ⟨#[]⟩, .slice none 0 0] 39)).alloc (.cells #[.int .u8 r.l.toNat, .int .u8 4, .int .u8 0, .string ⟨#[]⟩, .slice none 0 0] 39))) := Lib.hid (by
      have hn := Blk.new ((w.alloc (.cells #[.int .u8 r.l.toNat, .int .u32 r.q.toNat, .int .u8 r.k.toNat, .bool r.s, .bool r.e, .int .u8 r.i.a.toNat, .int .u8 r.i.b.toNat, .int .u8 r.i.c.toNat, .int .u8 r.i.d.toNat, .int .u8 r.i.e.toNat, .int .u8 r.i.f.toNat, .int .u8 r.u.a.toNat, .int .u8 r.u.b.toNat, .int .u8 r.u.c.toNat, .int .u8 r.u.d.toNat, .int .u8 r.u.e.toNat, .int .u8 r.u.f.toNat] 28)).alloc (.cells #[.int .u8 0, .int .u8 0, .int .u8 0, .string ⟨#[]⟩, .slice none 0 0] 39)) 39 #[.int .u8 r.l.toNat, .int .u8 4, .int .u8 0, .string ⟨#[]⟩, .slice none 0 0]
      have e2 : (((w.alloc (.cells #[.int .u8 r.l.toNat, .int .u32 r.q.toNat, .int .u8 r.k.toNat, .bool r.s, .bool r.e, .int .u8 r.i.a.toNat, .int .u8 r.i.b.toNat, .int .u8 r.i.c.toNat, .int .u8 r.i.d.toNat, .int .u8 r.i.e.toNat, .int .u8 r.i.f.toNat, .int .u8 r.u.a.toNat, .int .u8 r.u.b.toNat, .int .u8 r.u.c.toNat, .int .u8 r.u.d.toNat, .int .u8 r.u.e.toNat, .int .u8 r.u.f.toNat] 28)).alloc (.cells #[.int .u8 0, .int .u8 0, .int .u8 0, .string ⟨#[]⟩, .slice none 0 0] 39))).heap.size = w.heap.size + 2 := by simp
      rw [e2] at hn
      exact ⟨HK0.out.alloc _, HR0.out.alloc _, hn, World.ownsRow_nil _ _ _ _, by simp, HB0.out.alloc (by simp; omega) _⟩)
    have j0 := Blk.cell HK0.out 0
    simp only [List.getElem?_toArray, List.getElem?_cons_succ, List.getElem?_cons_zero] at j0
    have c3 := Blk.cell H3.out.hk 3
    simp only [List.getElem?_toArray, List.getElem?_cons_succ, List.getElem?_cons_zero] at c3
    have z2 := H3.out.hp.cell 2
    have f2 := H3.out.hp.frozen 2
    simp only [List.getElem?_toArray, List.getElem?_cons_succ, List.getElem?_cons_zero] at  z2
    clear h7 hE HK0 HR0
    go_enter Try.func10, Try.ntmps10
    go_upto_if 14 with (fail)
    clear j0
    generalize (((w.alloc (.cells #[.int .u8 r.l.toNat, .int .u32 r.q.toNat, .int .u8 r.k.toNat, .bool r.s, .bool r.e, .int .u8 r.i.a.toNat, .int .u8 r.i.b.toNat, .int .u8 r.i.c.toNat, .int .u8 r.i.d.toNat, .int .u8 r.i.e.toNat, .int .u8 r.i.f.toNat, .int .u8 r.u.a.toNat, .int .u8 r.u.b.toNat, .int .u8 r.u.c.toNat, .int .u8 r.u.d.toNat, .int .u8 r.u.e.toNat, .int .u8 r.u.f.toNat] 28)).alloc (.cells #[.int .u8 0, .int .u8 0, .int .u8 0, .string ⟨#[]⟩, .slice none 0 0] 39)).alloc (.cells #[.int .u8 r.l.toNat, .int .u8 4, .int .u8 0, .string ⟨#[]⟩, .slice none 0 0] 39)) = w3 at *
    rw [show w.heap.size + 1 + 1 = w.heap.size + 2 from rfl]
    generalize Value.agg #[.int .u8 r.l.toNat, .int .u32 r.q.toNat, .int .u8 r.k.toNat, .bool r.s, .bool r.e, .int .u8 r.i.a.toNat, .int .u8 r.i.b.toNat, .int .u8 r.i.c.toNat, .int .u8 r.i.d.toNat, .int .u8 r.i.e.toNat, .int .u8 r.i.f.toNat, .int .u8 r.u.a.toNat, .int .u8 r.u.b.toNat, .int .u8 r.u.c.toNat, .int .u8 r.u.d.toNat, .int .u8 r.u.e.toNat, .int .u8 r.u.f.toNat] = V0
    go_cut [] (fun wx => Hid (PrS w r (if r.s then 64 else 0) [] [] (.slice none 0 0) wx))
    case first =>
      obtain ⟨b, hb⟩ : ∃ b, r.s = b := ⟨_, rfl⟩
      rw [hb] at c3
      rw [hb]
      have HB := Lib.hid hb
      clear hb
      cases b
      · go_wp2_with fail
        go_meet
        rw [HB.out]
        exact H3
      · go_wp2_with fail
        go_meet
        rw [HB.out]
        exact Lib.hid (H3.out.put2 64)
    clear c3 z2 f2 H3
    obtain ⟨w4, rfl⟩ : ∃ w4, w4 = wc := ⟨_, rfl⟩
    have H4 := hcut
    have c4 := Blk.cell H4.out.hk 4
    simp only [List.getElem?_toArray, List.getElem?_cons_succ, List.getElem?_cons_zero] at c4
    have z2 := H4.out.hp.cell 2
    have f2 := H4.out.hp.frozen 2
    simp only [List.getElem?_toArray, List.getElem?_cons_succ, List.getElem?_cons_zero] at  z2
    obtain ⟨g0, hg0⟩ : ∃ g0 : Int, (if r.s then 64 else 0) = g0 := ⟨_, rfl⟩
    rw [hg0] at H4 z2
    clear hcut
    go_upto_if 17 with (fail)
    go_cut [5] (fun a wx => a = .string ⟨#[ryK r]⟩ ∧ Hid (PrS w r (ryG r).toNat [] [] (.slice none 0 0) wx))
    case first =>
      obtain ⟨b, hb⟩ : ∃ b, r.e = b := ⟨_, rfl⟩
      rw [hb] at c4
      rw [hb]
      have HB := Lib.hid hb
      cases b
      rotate_left
      · have he : r.e = true := hb
        have hw : IntKind.u8.wrap (g0 + 32) = ((ryG r).toNat : Int) := by rw [← hg0]; unfold ryG; rw [he]; cases r.s <;> rfl
        have hk : ryK r = 1 := by unfold ryK; rw [if_pos he]
        have HKK := Lib.hid hk
        clear hg0 hk he hb
        go_wp2_with fail
        go_meet
        exact ⟨by rw [HKK.out], Lib.hid (H4.out.put2 _)⟩
      · have he' : r.e = false := hb
        have he : ¬ r.e = true := by rw [he']; decide
        have hw : ((ryG r).toNat : Int) = g0 := by rw [← hg0]; unfold ryG; rw [he']; cases r.s <;> rfl
        have hk : ryK r = 2 := by unfold ryK; rw [if_neg he]
        have HKK := Lib.hid (And.intro hk hw)
        clear hg0 hk hw he he' hb
        go_wp2_with fail
        go_meet
        exact ⟨by rw [HKK.out.1], by rw [HKK.out.2]; exact H4⟩
    obtain ⟨rfl, H5⟩ := hcut
    clear c4 z2 f2 H4 hg0
    obtain ⟨w5, rfl⟩ : ∃ w5, w5 = wc := ⟨_, rfl⟩
    obtain ⟨X, hX⟩ : ∃ X, ryS r = X := ⟨_, rfl⟩
    obtain ⟨D, hD⟩ : ∃ X, dig 4 r.q.toNat = X := ⟨_, rfl⟩
    obtain ⟨K, hK⟩ : ∃ X, ryK r = X := ⟨_, rfl⟩
    obtain ⟨D1, hD1⟩ : ∃ X, D ++ [r.k] = X := ⟨_, rfl⟩
    have hX2 : D1 ++ [K] = X := by rw [← hX, ← hD1, ← hD, ← hK]; unfold ryS; simp
    have l0 : D.length = 4 := by rw [← hD, dig_len]
    have l1 : D1.length = 5 := by rw [← hD1]; simp [l0]
    have a1 : ∀ w : World, (Op.stringOp .add ⟨D.toArray⟩ ⟨#[r.k]⟩).run Try.prog w = .ok (.string ⟨D1.toArray⟩) w := fun w => by rw [← hD1]; exact run_string_add_lists w D [r.k] (by omega) (by simp)
    have a2 : ∀ w : World, (Op.stringOp .add ⟨D1.toArray⟩ ⟨#[K]⟩).run Try.prog w = .ok (.string ⟨X.toArray⟩) w := fun w => by rw [← hX2]; exact run_string_add_lists w D1 [K] (by omega) (by simp)
    have K1 := Lib.hid (fun w => num4_any r.q w)
    have K2 := Lib.hid (fun w => num1_any r.k w)
    rw [hD] at K1
    rw [hX] at HE
    rw [hK]
    have hwq : IntKind.u64.wrap (r.q.toNat : Int) = (r.q.toNat : Int) := by have := r.q.toNat_lt; simp [IntKind.wrap, IntKind.signed, IntKind.bits]; omega
    have hwk : IntKind.u64.wrap (r.k.toNat : Int) = (r.k.toNat : Int) := by have := r.k.toNat_lt; simp [IntKind.wrap, IntKind.signed, IntKind.bits]; omega
    clear hX hD hK hD1 hX2 l0 l1
    go_upto_region 10 with (fail)
    go_cut [] (fun wx => Hid (PrS w r (ryG r).toNat X [] (.slice none 0 0) wx))
    case first =>
      have Hd : Hid (PrS w r (ryG r).toNat [] [] (.slice none 0 0) w5.drew) := Lib.hid H5.out.drew
      have c1 := Hd.out.hk.cell 1
      have c2 := Hd.out.hk.cell 2
      have z3 := Hd.out.hp.cell 3
      have f3 := Hd.out.hp.frozen 3
      simp only [List.getElem?_toArray, List.getElem?_cons_succ, List.getElem?_cons_zero] at  c1 c2 z3
      go_wp2_with fail
      go_region_held3 (fun w_ => w_.cell? ⟨w.heap.size, 1, none⟩ = some (.int .u32 r.q.toNat) ∧ w_.cell? ⟨w.heap.size, 2, none⟩ = some (.int .u8 r.k.toNat)) (first | go_keep)
        (first
          | (go_at_call_of 21 r.q; refine (K1.out _).mono ?_; rintro r_ w_ ⟨rfl, hb_⟩; replace Hd := Lib.hid (Hd.out.next hb_); have c1 := Hd.out.hk.cell 1; have c2 := Hd.out.hk.cell 2; have z3 := Hd.out.hp.cell 3; have f3 := Hd.out.hp.frozen 3; simp only [List.getElem?_toArray, List.getElem?_cons_succ, List.getElem?_cons_zero] at  c1 c2 z3; clear hb_)
          | (go_at_call_of 21 r.k; refine (K2.out _).mono ?_; rintro r_ w_ ⟨rfl, hb_⟩; replace Hd := Lib.hid (Hd.out.next hb_); have c1 := Hd.out.hk.cell 1; have c2 := Hd.out.hk.cell 2; have z3 := Hd.out.hp.cell 3; have f3 := Hd.out.hp.frozen 3; simp only [List.getElem?_toArray, List.getElem?_cons_succ, List.getElem?_cons_zero] at  c1 c2 z3; clear hb_)
          | fail "no")
      all_goals (
        go_wp2_with fail
        go_meet
        exact Lib.hid (Hd.out.put3 X))
    have H6 := hcut
    clear hcut H5 K1 K2 a1 a2 hwq hwk
    obtain ⟨w6, rfl⟩ : ∃ w6, w6 = wc := ⟨_, rfl⟩
    obtain ⟨i0, hi⟩ := info_parts infoR15
    have HIT := Lib.hid hi
    clear hi
    obtain ⟨b, hb⟩ : ∃ b, decide (r.i = A6.z) = b := ⟨_, rfl⟩
    have q1 : ∀ w : World, (Op.equalIn 10000 24 (.agg #[.int .u8 r.i.a.toNat, .int .u8 r.i.b.toNat, .int .u8 r.i.c.toNat, .int .u8 r.i.d.toNat, .int .u8 r.i.e.toNat, .int .u8 r.i.f.toNat]) (.agg #[.int .u8 0, .int .u8 0, .int .u8 0, .int .u8 0, .int .u8 0, .int .u8 0])).run Try.prog w = .ok b w := fun w => by rw [← hb]; exact a6_eq r.i w
    have c5 := Blk.cell H6.out.hk 5
    have c6 := Blk.cell H6.out.hk 6
    have c7 := Blk.cell H6.out.hk 7
    have c8 := Blk.cell H6.out.hk 8
    have c9 := Blk.cell H6.out.hk 9
    have c10 := Blk.cell H6.out.hk 10
    simp only [List.getElem?_toArray, List.getElem?_cons_succ, List.getElem?_cons_zero] at c5 c6 c7 c8 c9 c10
    have HBB := Lib.hid hb
    clear hb
    go_upto_if 37 with (fail)
    go_cut [] (fun wx => ∃ v, Hid (PrS w r (ryG r).toNat X ([] ++ prT 5 r.i) v wx))
    case first =>
      cases b
      · have HT : Hid (prT 5 r.i = [⟨5, 1 :: r.i.l⟩]) := Lib.hid (by unfold prT; rw [if_neg (by simpa using HBB.out)])
        have Hd : Hid (PrS w r (ryG r).toNat X [] (.slice none 0 0) w6.drew) := Lib.hid H6.out.drew
        have cv := (ry_str Hd.out.hk).1.conv
        have a1 : ∀ w : World, (Op.stringOp .add ⟨#[1]⟩ ⟨(r.i.l).toArray⟩).run Try.prog w = .ok (.string ⟨(1 :: r.i.l).toArray⟩) w := fun w => run_string_add_lists w [1] (r.i.l) (by simp) (by show ((6 : Nat) : Int) ≤ 8388608; omega)
        have c4 := Hd.out.hp.cell 4
        simp only [List.getElem?_toArray, List.getElem?_cons_succ, List.getElem?_cons_zero] at  c4
        have c4a : ∀ o, (w6.alloc o).cell? ⟨w.heap.size + 2, 4, none⟩ = some (.slice none 0 0) := fun o => by
          have h := (H6.out.hp.alloc o).cell 4
          simpa only [List.getElem?_toArray, List.getElem?_cons_succ, List.getElem?_cons_zero] using h
        have HTL : Hid (([] : List Tl).length + 1 ≤ 1000000) := Lib.hid (by simp)
        obtain ⟨L, hL⟩ : ∃ L, r.i.l = L := ⟨_, rfl⟩
        rw [hL] at cv HT
        simp only [hL] at a1
        clear hL c5 c6 c7 c8 c9 c10 q1
        go_wp2_with fail
        go_region_law (refine step_appL rfl (.tmp 39) (.tmp 45) 37 rfl tlV_len tlV_one (by decide) (w.heap.size + 3) 68 i0 _ 24 Try.underlying37 HIT.out rfl _ [] (by simp [Act.eval, Act.put]) (World.ownsRow.alloc Hd.out.own _) (some ⟨w6.heap.size, 0, none⟩) 1 1 [⟨5, 1 :: L⟩] rfl (by simp [Act.eval, Act.put]) (fun e => by cases e) (els_oneL _ _ ⟨5, 1 :: L⟩ _ rfl) HTL.out (by decide) (by have := Hd.out.big; simp at this ⊢; omega) ?_; intro v5 w5 ho5 hg5 _; obtain ⟨A5, c5, e5, _⟩ := own_fullL tlV_len ho5; obtain ⟨n5, hn5⟩ : ∃ n, ([] ++ [(⟨5, 1 :: L⟩ : Tl)]).length = n := ⟨_, rfl⟩; rw [hn5] at e5; clear hn5; subst e5; have H5 := Lib.hid ((Hd.out.next ((Below.refl _ _).alloc (Nat.le_refl _) _)).put4 hg5 ho5); have z4 := H5.out.1.cell 4; have f4 := H5.out.1.frozen 4; simp only [List.getElem?_toArray, List.getElem?_cons_succ, List.getElem?_cons_zero] at  z4; clear ho5 hg5)
        all_goals (
          go_wp2_with fail
          go_meet
          exact ⟨_, by rw [HT.out]; exact Lib.hid H5.out.2⟩)
      · have HT : Hid (prT 5 r.i = []) := Lib.hid (by unfold prT; rw [if_pos (by simpa using HBB.out)])
        clear c5 c6 c7 c8 c9 c10 q1
        go_wp2_with fail
        go_meet
        exact ⟨_, by rw [HT.out, List.append_nil]; exact H6⟩
    obtain ⟨v1, H7⟩ := hcut
    clear c5 c6 c7 c8 c9 c10 q1 HBB H6
    obtain ⟨w7, rfl⟩ : ∃ w7, w7 = wc := ⟨_, rfl⟩
    obtain ⟨T1, hT1⟩ : ∃ T, [] ++ prT 5 r.i = T := ⟨_, rfl⟩
    have HT1L : Hid (T1.length + 1 ≤ 1000000) := Lib.hid (by rw [← hT1]; unfold prT; split <;> simp)
    rw [hT1] at H7
    have HT1 := Lib.hid hT1
    clear hT1
    obtain ⟨b, hb⟩ : ∃ b, decide (r.u = A6.z) = b := ⟨_, rfl⟩
    have q1 : ∀ w : World, (Op.equalIn 10000 24 (.agg #[.int .u8 r.u.a.toNat, .int .u8 r.u.b.toNat, .int .u8 r.u.c.toNat, .int .u8 r.u.d.toNat, .int .u8 r.u.e.toNat, .int .u8 r.u.f.toNat]) (.agg #[.int .u8 0, .int .u8 0, .int .u8 0, .int .u8 0, .int .u8 0, .int .u8 0])).run Try.prog w = .ok b w := fun w => by rw [← hb]; exact a6_eq r.u w
    have c11 := Blk.cell H7.out.hk 11
    have c12 := Blk.cell H7.out.hk 12
    have c13 := Blk.cell H7.out.hk 13
    have c14 := Blk.cell H7.out.hk 14
    have c15 := Blk.cell H7.out.hk 15
    have c16 := Blk.cell H7.out.hk 16
    simp only [List.getElem?_toArray, List.getElem?_cons_succ, List.getElem?_cons_zero] at c11 c12 c13 c14 c15 c16
    have HBB := Lib.hid hb
    clear hb
    go_upto_if 51 with (fail)
    go_cut [] (fun wx => ∃ v, Hid (PrS w r (ryG r).toNat X (T1 ++ prT 6 r.u) v wx))
    case first =>
      cases b
      · have HT : Hid (prT 6 r.u = [⟨6, 1 :: r.u.l⟩]) := Lib.hid (by unfold prT; rw [if_neg (by simpa using HBB.out)])
        have Hd : Hid (PrS w r (ryG r).toNat X T1 v1 w7.drew) := Lib.hid H7.out.drew
        have cv := (ry_str Hd.out.hk).2.conv
        have a1 : ∀ w : World, (Op.stringOp .add ⟨#[1]⟩ ⟨(r.u.l).toArray⟩).run Try.prog w = .ok (.string ⟨(1 :: r.u.l).toArray⟩) w := fun w => run_string_add_lists w [1] (r.u.l) (by simp) (by show ((6 : Nat) : Int) ≤ 8388608; omega)
        have c4 := Hd.out.hp.cell 4
        simp only [List.getElem?_toArray, List.getElem?_cons_succ, List.getElem?_cons_zero] at  c4
        have c4a : ∀ o, (w7.alloc o).cell? ⟨w.heap.size + 2, 4, none⟩ = some v1 := fun o => by
          have h := (H7.out.hp.alloc o).cell 4
          simpa only [List.getElem?_toArray, List.getElem?_cons_succ, List.getElem?_cons_zero] using h
        have HTL : Hid ((T1 : List Tl).length + 1 ≤ 1000000) := Lib.hid (by exact HT1L.out)
        obtain ⟨L, hL⟩ : ∃ L, r.u.l = L := ⟨_, rfl⟩
        rw [hL] at cv HT
        simp only [hL] at a1
        clear hL c11 c12 c13 c14 c15 c16 q1
        go_wp2_with fail
        go_region_law (refine step_appL rfl (.tmp 53) (.tmp 59) 37 rfl tlV_len tlV_one (by decide) (w.heap.size + 3) 68 i0 _ 24 Try.underlying37 HIT.out rfl _ T1 (by simp [Act.eval, Act.put]) (World.ownsRow.alloc Hd.out.own _) (some ⟨w7.heap.size, 0, none⟩) 1 1 [⟨6, 1 :: L⟩] rfl (by simp [Act.eval, Act.put]) (fun e => by cases e) (els_oneL _ _ ⟨6, 1 :: L⟩ _ rfl) HTL.out (by decide) (by have := Hd.out.big; simp at this ⊢; omega) ?_; intro v5 w5 ho5 hg5 _; obtain ⟨A5, c5, e5, _⟩ := own_fullL tlV_len ho5; obtain ⟨n5, hn5⟩ : ∃ n, (T1 ++ [(⟨6, 1 :: L⟩ : Tl)]).length = n := ⟨_, rfl⟩; rw [hn5] at e5; clear hn5; subst e5; have H5 := Lib.hid ((Hd.out.next ((Below.refl _ _).alloc (Nat.le_refl _) _)).put4 hg5 ho5); have z4 := H5.out.1.cell 4; have f4 := H5.out.1.frozen 4; simp only [List.getElem?_toArray, List.getElem?_cons_succ, List.getElem?_cons_zero] at  z4; clear ho5 hg5)
        all_goals (
          go_wp2_with fail
          go_meet
          exact ⟨_, by rw [HT.out]; exact Lib.hid H5.out.2⟩)
      · have HT : Hid (prT 6 r.u = []) := Lib.hid (by unfold prT; rw [if_pos (by simpa using HBB.out)])
        clear c11 c12 c13 c14 c15 c16 q1
        go_wp2_with fail
        go_meet
        exact ⟨_, by rw [HT.out, List.append_nil]; exact H7⟩
    obtain ⟨v2, H8⟩ := hcut
    clear c11 c12 c13 c14 c15 c16 q1 HBB H7
    obtain ⟨w8, rfl⟩ : ∃ w8, w8 = wc := ⟨_, rfl⟩
    have hT : T1 ++ prT 6 r.u = ryT r := by rw [← HT1.out]; rfl
    rw [hT] at H8
    obtain ⟨A, c, rfl, hE, _, hz, hA⟩ := own_fullL tlV_len H8.out.own
    obtain ⟨n, hn⟩ : ∃ n, (ryT r).length = n := ⟨_, rfl⟩
    have HN := Lib.hid hn
    rw [hn] at H8
    have HEA := Lib.hid (And.intro hE (And.intro hz hA))
    clear hT hE hz hA hn HB0
    have c0 := Blk.cell H8.out.hp 0
    have c1 := Blk.cell H8.out.hp 1
    have c2 := Blk.cell H8.out.hp 2
    have c3 := Blk.cell H8.out.hp 3
    have c4 := Blk.cell H8.out.hp 4
    simp only [List.getElem?_toArray, List.getElem?_cons_succ, List.getElem?_cons_zero] at c0 c1 c2 c3 c4
    go_wp2_with (refine wpList_store_row rfl 39 (.tmp 2) (.tmp 62) rfl (w.heap.size + 1) rfl _ rfl 39 _ H8.out.hr (by kernel_rfl) rfl (by kernel_rfl) ?_)
    refine bodyPost_ret (v := .tuple #[.agg #[.int .u8 r.l.toNat, .int .u8 4, .int .u8 (ryG r).toNat, .string ⟨X.toArray⟩, .slice A n c], .int .i64 0]) (results_cell_slot (p := 2) (q := 3) (by kernel_rfl) _ _ (w.heap.size + 1) 39 _ _ rfl (Blk.row H8.out.hr _) Try.underlying39 rfl (by kernel_rfl) _ rfl) rfl ?_
    exact ⟨A, c, by rw [HE.out.1, HE.out.2, ← HN.out]; rfl, by rw [HE.out.1]; exact els_row HEA.out.1 H8.out.hr trivial (fun a ha => by have := (HEA.out.2.2 a ha).1; omega), HEA.out.2.1, below_row H8.out.below (by omega) _⟩
set_option maxHeartbeats 2000000 in
theorem oft15_any (t : Tc) (w : World) :
    Calls Try.prog 6 #[TcV t] w fun e w' => e = .returned (TcV t) ∧ Below w.heap.size w w' := by
  have HB0 : Hid (Below w.heap.size w ((w.alloc (.cells #[.int .u8 t.l.toNat, .int .u32 t.q.toNat, .int .u8 t.k.toNat, .int .u8 t.o.a.toNat, .int .u8 t.o.b.toNat, .int .u8 t.o.c.toNat, .int .u8 t.o.d.toNat, .int .u8 t.o.e.toNat, .int .u8 t.o.f.toNat, .int .u8 t.t.a.toNat, .int .u8 t.t.b.toNat, .int .u8 t.t.c.toNat, .int .u8 t.t.d.toNat, .int .u8 t.t.e.toNat, .int .u8 t.t.f.toNat] 26)).alloc (.cells #[.int .u8 0, .int .u32 0, .int .u8 0, .int .u8 0, .int .u8 0, .int .u8 0, .int .u8 0, .int .u8 0, .int .u8 0, .int .u8 0, .int .u8 0, .int .u8 0, .int .u8 0, .int .u8 0, .int .u8 0] 35))) := Lib.hid (((Below.refl _ _).alloc (Nat.le_refl _) _).alloc (by simp) _)
  have HR0 : Hid (Blk ((w.alloc (.cells #[.int .u8 t.l.toNat, .int .u32 t.q.toNat, .int .u8 t.k.toNat, .int .u8 t.o.a.toNat, .int .u8 t.o.b.toNat, .int .u8 t.o.c.toNat, .int .u8 t.o.d.toNat, .int .u8 t.o.e.toNat, .int .u8 t.o.f.toNat, .int .u8 t.t.a.toNat, .int .u8 t.t.b.toNat, .int .u8 t.t.c.toNat, .int .u8 t.t.d.toNat, .int .u8 t.t.e.toNat, .int .u8 t.t.f.toNat] 26)).alloc (.cells #[.int .u8 0, .int .u32 0, .int .u8 0, .int .u8 0, .int .u8 0, .int .u8 0, .int .u8 0, .int .u8 0, .int .u8 0, .int .u8 0, .int .u8 0, .int .u8 0, .int .u8 0, .int .u8 0, .int .u8 0] 35)) (w.heap.size + 1) 35 #[.int .u8 0, .int .u32 0, .int .u8 0, .int .u8 0, .int .u8 0, .int .u8 0, .int .u8 0, .int .u8 0, .int .u8 0, .int .u8 0, .int .u8 0, .int .u8 0, .int .u8 0, .int .u8 0, .int .u8 0]) := Lib.hid (by
    have := Blk.new (w.alloc (.cells #[.int .u8 t.l.toNat, .int .u32 t.q.toNat, .int .u8 t.k.toNat, .int .u8 t.o.a.toNat, .int .u8 t.o.b.toNat, .int .u8 t.o.c.toNat, .int .u8 t.o.d.toNat, .int .u8 t.o.e.toNat, .int .u8 t.o.f.toNat, .int .u8 t.t.a.toNat, .int .u8 t.t.b.toNat, .int .u8 t.t.c.toNat, .int .u8 t.t.d.toNat, .int .u8 t.t.e.toNat, .int .u8 t.t.f.toNat] 26)) 35 #[.int .u8 0, .int .u32 0, .int .u8 0, .int .u8 0, .int .u8 0, .int .u8 0, .int .u8 0, .int .u8 0, .int .u8 0, .int .u8 0, .int .u8 0, .int .u8 0, .int .u8 0, .int .u8 0, .int .u8 0]
    simpa using this)
  go_enter Try.func6, Try.ntmps6
  go_wp2_with (refine wpList_store_row rfl 35 (.tmp 2) (.tmp 13) rfl (w.heap.size + 1) rfl _ rfl 35 _ HR0.out (by kernel_rfl) rfl (by kernel_rfl) ?_)
  refine bodyPost_ret (v := .agg #[.int .u8 t.l.toNat, .int .u32 t.q.toNat, .int .u8 t.k.toNat, .int .u8 t.o.a.toNat, .int .u8 t.o.b.toNat, .int .u8 t.o.c.toNat, .int .u8 t.o.d.toNat, .int .u8 t.o.e.toNat, .int .u8 t.o.f.toNat, .int .u8 t.t.a.toNat, .int .u8 t.t.b.toNat, .int .u8 t.t.c.toNat, .int .u8 t.t.d.toNat, .int .u8 t.t.e.toNat, .int .u8 t.t.f.toNat]) (results_cell_one (p := 2) (by kernel_rfl) _ _ (w.heap.size + 1) 35 _ _ rfl (Blk.row HR0.out _) Try.underlying35 rfl (by kernel_rfl)) rfl ?_
  exact ⟨rfl, below_row HB0.out (by omega) _⟩
set_option maxHeartbeats 2000000 in
theorem ofr15_any (r : Ry) (w : World) :
    Calls Try.prog 9 #[RyV r] w fun e w' => e = .returned (RyV r) ∧ Below w.heap.size w w' := by
  have HB0 : Hid (Below w.heap.size w ((w.alloc (.cells #[.int .u8 r.l.toNat, .int .u32 r.q.toNat, .int .u8 r.k.toNat, .bool r.s, .bool r.e, .int .u8 r.i.a.toNat, .int .u8 r.i.b.toNat, .int .u8 r.i.c.toNat, .int .u8 r.i.d.toNat, .int .u8 r.i.e.toNat, .int .u8 r.i.f.toNat, .int .u8 r.u.a.toNat, .int .u8 r.u.b.toNat, .int .u8 r.u.c.toNat, .int .u8 r.u.d.toNat, .int .u8 r.u.e.toNat, .int .u8 r.u.f.toNat] 28)).alloc (.cells #[.int .u8 0, .int .u32 0, .int .u8 0, .bool false, .bool false, .int .u8 0, .int .u8 0, .int .u8 0, .int .u8 0, .int .u8 0, .int .u8 0, .int .u8 0, .int .u8 0, .int .u8 0, .int .u8 0, .int .u8 0, .int .u8 0] 43))) := Lib.hid (((Below.refl _ _).alloc (Nat.le_refl _) _).alloc (by simp) _)
  have HR0 : Hid (Blk ((w.alloc (.cells #[.int .u8 r.l.toNat, .int .u32 r.q.toNat, .int .u8 r.k.toNat, .bool r.s, .bool r.e, .int .u8 r.i.a.toNat, .int .u8 r.i.b.toNat, .int .u8 r.i.c.toNat, .int .u8 r.i.d.toNat, .int .u8 r.i.e.toNat, .int .u8 r.i.f.toNat, .int .u8 r.u.a.toNat, .int .u8 r.u.b.toNat, .int .u8 r.u.c.toNat, .int .u8 r.u.d.toNat, .int .u8 r.u.e.toNat, .int .u8 r.u.f.toNat] 28)).alloc (.cells #[.int .u8 0, .int .u32 0, .int .u8 0, .bool false, .bool false, .int .u8 0, .int .u8 0, .int .u8 0, .int .u8 0, .int .u8 0, .int .u8 0, .int .u8 0, .int .u8 0, .int .u8 0, .int .u8 0, .int .u8 0, .int .u8 0] 43)) (w.heap.size + 1) 43 #[.int .u8 0, .int .u32 0, .int .u8 0, .bool false, .bool false, .int .u8 0, .int .u8 0, .int .u8 0, .int .u8 0, .int .u8 0, .int .u8 0, .int .u8 0, .int .u8 0, .int .u8 0, .int .u8 0, .int .u8 0, .int .u8 0]) := Lib.hid (by
    have := Blk.new (w.alloc (.cells #[.int .u8 r.l.toNat, .int .u32 r.q.toNat, .int .u8 r.k.toNat, .bool r.s, .bool r.e, .int .u8 r.i.a.toNat, .int .u8 r.i.b.toNat, .int .u8 r.i.c.toNat, .int .u8 r.i.d.toNat, .int .u8 r.i.e.toNat, .int .u8 r.i.f.toNat, .int .u8 r.u.a.toNat, .int .u8 r.u.b.toNat, .int .u8 r.u.c.toNat, .int .u8 r.u.d.toNat, .int .u8 r.u.e.toNat, .int .u8 r.u.f.toNat] 28)) 43 #[.int .u8 0, .int .u32 0, .int .u8 0, .bool false, .bool false, .int .u8 0, .int .u8 0, .int .u8 0, .int .u8 0, .int .u8 0, .int .u8 0, .int .u8 0, .int .u8 0, .int .u8 0, .int .u8 0, .int .u8 0, .int .u8 0]
    simpa using this)
  go_enter Try.func9, Try.ntmps9
  go_wp2_with (refine wpList_store_row rfl 43 (.tmp 2) (.tmp 17) rfl (w.heap.size + 1) rfl _ rfl 43 _ HR0.out (by kernel_rfl) rfl (by kernel_rfl) ?_)
  refine bodyPost_ret (v := .agg #[.int .u8 r.l.toNat, .int .u32 r.q.toNat, .int .u8 r.k.toNat, .bool r.s, .bool r.e, .int .u8 r.i.a.toNat, .int .u8 r.i.b.toNat, .int .u8 r.i.c.toNat, .int .u8 r.i.d.toNat, .int .u8 r.i.e.toNat, .int .u8 r.i.f.toNat, .int .u8 r.u.a.toNat, .int .u8 r.u.b.toNat, .int .u8 r.u.c.toNat, .int .u8 r.u.d.toNat, .int .u8 r.u.e.toNat, .int .u8 r.u.f.toNat]) (results_cell_one (p := 2) (by kernel_rfl) _ _ (w.heap.size + 1) 43 _ _ rfl (Blk.row HR0.out _) Try.underlying43 rfl (by kernel_rfl)) rfl ?_
  exact ⟨rfl, below_row HB0.out (by omega) _⟩
end Go.Proofs.Ytieopgmmjpmflaa
