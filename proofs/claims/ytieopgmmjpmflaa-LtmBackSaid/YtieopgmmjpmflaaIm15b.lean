/- Layer 15: package ltm's Put and PutReply keep the words of Law15. -/
import Derived.Test.YtieopgmmjpmflaaIm15a
import Derived.Test.YtieopgmmjpmflaaConcat
import Derived.Test.YtieopgmmjpmflaaNumW
import Derived.Maps.OwnSet
import Derived.BigQuiet
import Derived.Deep.QuietTactic
import Derived.Deep.RegionHeld3
import Derived.Deep.RegionLaw
import Derived.Deep.DeepCutAuto
import Derived.OwnWalk
import Derived.StillTailTactics
namespace Go.Proofs.Ytieopgmmjpmflaa
open Go.RowKit
set_option linter.unusedVariables false
set_option linter.unusedSimpArgs false
set_option maxRecDepth 100000

theorem infoT15 : (Try.prog.info? 69).map (fun i => (i.zero, i.size, i.bytes)) = some (some (.agg #[.int .u8 0, .string ⟨#[]⟩]), 2, 24) := by kernel_rfl
theorem dig1_15 (k : UInt8) : dig 1 ((k.toNat : Int)).toNat = [k] := by
  have := k.toNat_lt
  simp only [dig, Int.toNat_natCast, List.nil_append]
  rw [Nat.mod_eq_of_lt (by omega)]
  simp
theorem put8one (w : World) :
    Calls Try.prog 18 #[.slice none 0 0, .int .u8 1] w fun e w' => ∃ v, e = .returned v ∧ Str w' v [1] ∧ Below w.heap.size w w' := by
  refine (put8_any (w := w) none 0 [] 1 (Byt.nil_ _ _) (fun _ => rfl) (by simp) (by omega) (by omega)).mono ?_
  rintro e w' ⟨v, rfl, ho, hb⟩
  have hs := ho.str
  rw [show ([] ++ dig 1 ((1 : Int)).toNat) = [(1 : UInt8)] by decide] at hs
  exact ⟨v, rfl, hs, hb⟩
theorem own_len15 {w : World} {base : Nat} {v : Value} {l : List UInt8} (h : OwnB w base v l) : ∃ A c, v = .slice A l.length c ∧ (A = none → c = 0) ∧ Byt w A l := h.str
theorem put8s15 (A : Option Addr) (c n : Nat) (l : List UInt8) (k : UInt8) (w : World) (hn : l.length = n) (hl : n ≤ 1000) (hz : A = none → c = 0) (hy : Byt w A l) :
    Calls Try.prog 18 #[.slice A n c, .int .u8 k.toNat] w fun e w' => ∃ A c, e = .returned (.slice A (n + 1) c) ∧ (A = none → c = 0) ∧ Byt w' A (l ++ [k]) ∧ Str w' (.slice A (n + 1) c) (l ++ [k]) ∧ (∀ a, A = some a → w.heap.size ≤ a.block) ∧ Below w.heap.size w w' := by
  subst hn
  have := k.toNat_lt
  refine (put8_any (w := w) A c l (k.toNat : Int) hy hz (by omega) (by omega) (by omega)).mono ?_
  rintro e w' ⟨v, rfl, ho, hb⟩
  rw [dig1_15] at ho
  have hs := ho.str
  have hbk := ho.ge
  obtain ⟨A, c, rfl, hz, hy⟩ := own_len15 ho
  have e6 : (l ++ [k]).length = l.length + 1 := by simp
  rw [e6] at hs
  exact ⟨A, c, by rw [e6], hz, hy, hs, fun a ha => hbk _ (by rw [ha]; rfl), hb⟩
theorem str_chg15 {w w' : World} {g : Nat} {A : Option Addr} {n c : Nat} {l : List UInt8} (h : Str w (.slice A n c) l) (hc : Chg (only g) w w') (hA : ∀ a, A = some a → a.block ≠ g) : Str w' (.slice A n c) l := by
  obtain ⟨A', c', e, hz, hy⟩ := h
  refine ⟨A', c', e, hz, fun h0 => ?_⟩
  obtain ⟨ad, e2, hcell⟩ := hy h0
  refine ⟨ad, e2, fun j u hu => ?_⟩
  have h1 := hcell j u hu
  have hlt := World.block_lt_of_cell? w _ h1
  have e3 : A = some ad := by
    simp only [Value.slice.injEq] at e
    rw [e.1, e2]
  have hb : (ad.add j).block = ad.block := by unfold Addr.add; split <;> rfl
  rw [hc.cell (p := ad.add j) hlt (by unfold only; rw [hb]; exact hA ad e3)]
  exact h1
theorem put32n15 (q : UInt32) (w : World) :
    Calls Try.prog 19 #[.slice none 0 0, .int .u32 q.toNat] w fun e w' => ∃ A c, e = .returned (.slice A 4 c) ∧ (A = none → c = 0) ∧ Byt w' A (dig 4 q.toNat) ∧ Below w.heap.size w w' := by
  have := q.toNat_lt
  refine (put32_any (w := w) none 0 [] (q.toNat : Int) (Byt.nil_ _ _) (fun _ => rfl) (by simp) (by omega) (by omega)).mono ?_
  rintro e w' ⟨v, rfl, ho, hb⟩
  obtain ⟨A, c, rfl, hz, hy⟩ := own_len15 ho
  rw [show ([] ++ dig 4 ((q.toNat : Int)).toNat) = dig 4 q.toNat by simp] at hy
  exact ⟨A, c, by simp [dig_len], hz, hy, hb⟩
/-- the list of ports under way: its cell (block g), its row (blocks from base on) -/
structure PpS (W : World) (g base : Nat) (T : List Tl) (v : Value) (w : World) : Prop where
  blk : Blk w g 29 #[v]
  own : w.ownsRow base 69 2 v T.length (T.flatMap tlV)
  big : base ≤ w.heap.size
  lt : g < base
  below : Below g W w
section
variable {W w w' : World} {g base : Nat} {T : List Tl} {v : Value}
theorem own_next15 (h4 : w.ownsRow base 69 2 v T.length (T.flatMap tlV)) (hb : Below w.heap.size w w') : w'.ownsRow base 69 2 v T.length (T.flatMap tlV) := by
  refine ⟨h4.1, ?_⟩
  rcases h4.2 with hn | ⟨g', cap, cur, hv, hbg, hg, rest⟩
  · exact .inl hn
  · exact .inr ⟨g', cap, cur, hv, hbg, (hb.block g' (Array.getElem?_eq_some_iff.1 hg).1).trans hg, rest⟩
theorem own_farT {p : Addr} {u : Value} (h : w.ownsRow base 69 2 v T.length (T.flatMap tlV)) (hp : p.block < base) : (w.setCell p u).ownsRow base 69 2 v T.length (T.flatMap tlV) := by
  refine ⟨h.1, ?_⟩
  rcases h.2 with hn | ⟨g', cap, cur, hv, hbg, hg, rest⟩
  · exact .inl hn
  · exact .inr ⟨g', cap, cur, hv, hbg, (Below.heap_setCell w p u g' (by omega)).trans hg, rest⟩
theorem PpS.next (h : PpS W g base T v w) (hb : Below w.heap.size w w') : PpS W g base T v w' :=
  ⟨h.blk.below hb h.blk.lt, own_next15 h.own hb, Nat.le_trans h.big hb.size, h.lt, h.below.trans (hb.mono (by have := h.blk.lt; omega))⟩
theorem PpS.drew (h : PpS W g base T v w) : PpS W g base T v w.drew := ⟨h.blk.drew, h.own, h.big, h.lt, h.below.drew⟩
theorem PpS.put {v' : Value} {T' : List Tl} (h : PpS W g base T v w) (hg : w.grownBy w' v.ownBlock) (ho : w'.ownsRow base 69 2 v' T'.length (T'.flatMap tlV)) : Blk w' g 29 #[v] ∧ PpS W g base T' v' (w'.setCell ⟨g, 0, none⟩ v') := by
  have b1 := blk_grownL h.blk hg (own_neL h.own h.blk (by decide))
  have hlt := h.lt
  have hb := h.below.grown hg (by have := h.blk.lt; omega) (fun k hk => by have := (h.own.lt k hk).1; omega)
  refine ⟨b1, by have := b1.put 0 v'; simpa using this, own_farT ho (by show g < base; omega), ?_, hlt, hb.setCell (p := ⟨g, 0, none⟩) (Nat.le_refl _) _⟩
  have h1 := h.big
  have h2 := hg.size
  simp
  omega
end
set_option maxHeartbeats 4000000 in
theorem putp_any (k : UInt8) (x : A6) (W : World) (g base : Nat) (T : List Tl) (v : Value) (w : World) (h : PpS W g base T v w) (hT : T.length ≤ 1000) :
    Calls Try.prog 40 #[.int .u8 k.toNat, A6V x, .pointer (some ⟨g, 0, none⟩)] w fun e w' => e = .returned (.tuple #[]) ∧ ∃ v', PpS W g base (T ++ prT k x) v' w' := by
  obtain ⟨b, hb⟩ : ∃ b, decide (x = A6.z) = b := ⟨_, rfl⟩
  have q1 : ∀ w : World, (Op.equalIn 10000 24 (.agg #[.int .u8 x.a.toNat, .int .u8 x.b.toNat, .int .u8 x.c.toNat, .int .u8 x.d.toNat, .int .u8 x.e.toNat, .int .u8 x.f.toNat]) (.agg #[.int .u8 0, .int .u8 0, .int .u8 0, .int .u8 0, .int .u8 0, .int .u8 0])).run Try.prog w = .ok b w := fun w => by rw [← hb]; exact a6_eq x w
  have HBB := Lib.hid hb
  have H0 : Hid (PpS W g base T v (w.alloc (.cells #[.int .u8 x.a.toNat, .int .u8 x.b.toNat, .int .u8 x.c.toNat, .int .u8 x.d.toNat, .int .u8 x.e.toNat, .int .u8 x.f.toNat] 24))) := Lib.hid (h.next ((Below.refl _ _).alloc (Nat.le_refl _) _))
  have HX0 := Lib.hid (Blk.new w 24 #[.int .u8 x.a.toNat, .int .u8 x.b.toNat, .int .u8 x.c.toNat, .int .u8 x.d.toNat, .int .u8 x.e.toNat, .int .u8 x.f.toNat])
  obtain ⟨i0, hi⟩ := info_parts infoT15
  have HIT := Lib.hid hi
  have HTL : Hid (T.length + 1 ≤ 1000000) := Lib.hid (by omega)
  show Calls _ _ #[_, .agg #[.int .u8 x.a.toNat, .int .u8 x.b.toNat, .int .u8 x.c.toNat, .int .u8 x.d.toNat, .int .u8 x.e.toNat, .int .u8 x.f.toNat], _] _ _
  clear hb h hi hT
  have c0 := HX0.out.cell 0
  have c1 := HX0.out.cell 1
  have c2 := HX0.out.cell 2
  have c3 := HX0.out.cell 3
  have c4 := HX0.out.cell 4
  have c5 := HX0.out.cell 5
  simp only [List.getElem?_toArray, List.getElem?_cons_succ, List.getElem?_cons_zero] at c0 c1 c2 c3 c4 c5
  cases b
  · have HT : Hid (prT k x = [⟨k, 1 :: x.l⟩]) := Lib.hid (by unfold prT; rw [if_neg (by simpa using HBB.out)])
    go_enter Try.func40, Try.ntmps40
    go_upto_region 2 with (fail)
    have Hd : Hid (PpS W g base T v (w.alloc (.cells #[.int .u8 x.a.toNat, .int .u8 x.b.toNat, .int .u8 x.c.toNat, .int .u8 x.d.toNat, .int .u8 x.e.toNat, .int .u8 x.f.toNat] 24)).drew) := Lib.hid H0.out.drew
    have HXd : Hid (Blk (w.alloc (.cells #[.int .u8 x.a.toNat, .int .u8 x.b.toNat, .int .u8 x.c.toNat, .int .u8 x.d.toNat, .int .u8 x.e.toNat, .int .u8 x.f.toNat] 24)).drew w.heap.size 24 #[.int .u8 x.a.toNat, .int .u8 x.b.toNat, .int .u8 x.c.toNat, .int .u8 x.d.toNat, .int .u8 x.e.toNat, .int .u8 x.f.toNat]) := Lib.hid HX0.out.drew
    have xs : ∀ {w : World} {g : Nat}, Blk w g 24 #[.int .u8 x.a.toNat, .int .u8 x.b.toNat, .int .u8 x.c.toNat, .int .u8 x.d.toNat, .int .u8 x.e.toNat, .int .u8 x.f.toNat] → Str w (.slice (some ⟨g, 0, none⟩) 6 6) x.l := fun h => str_six (h.cell 0) (h.cell 1) (h.cell 2) (h.cell 3) (h.cell 4) (h.cell 5)
    have XS := Lib.hid (fun w g => @xs w g)
    have cv := (XS.out _ _ HXd.out).conv
    have a1 : ∀ w : World, (Op.stringOp .add ⟨#[1]⟩ ⟨x.l.toArray⟩).run Try.prog w = .ok (.string ⟨(1 :: x.l).toArray⟩) w := fun w => run_string_add_lists w [1] x.l (by simp) (by show ((6 : Nat) : Int) ≤ 8388608; omega)
    have g0 := Hd.out.blk.cell 0
    simp only [List.getElem?_toArray, List.getElem?_cons_succ, List.getElem?_cons_zero] at g0
    obtain ⟨L, hL⟩ : ∃ L, x.l = L := ⟨_, rfl⟩
    rw [hL] at cv HT
    simp only [hL] at a1 XS
    clear hL xs c0 c1 c2 c3 c4 c5 q1 H0 HX0
    go_wp2_with fail
    go_region_law (first
      | (go_simp; go_at_call 18; refine (put8one _).mono ?_; rintro r w1 ⟨v1, rfl, hs1, hb1⟩; have hcv1 := hs1.conv; have H1 := Lib.hid (Hd.out.next hb1); have HX1 := Lib.hid (HXd.out.below hb1 HXd.out.lt); have cv1 := (XS.out _ _ HX1.out).conv; have g1 := H1.out.blk.cell 0; simp only [List.getElem?_toArray, List.getElem?_cons_succ, List.getElem?_cons_zero] at g1; have g1a : ∀ o, (w1.alloc o).cell? ⟨g, 0, none⟩ = some v := (fun o => by have h := (H1.out.blk.alloc o).cell 0; simpa only [List.getElem?_toArray, List.getElem?_cons_succ, List.getElem?_cons_zero] using h); clear hs1 hb1)
      | (refine step_appL rfl (.tmp 8) (.tmp 16) 29 rfl tlV_len tlV_one (by decide) base 69 i0 _ 24 Try.underlying29 HIT.out rfl _ T (by simp [Act.eval, Act.put]) (World.ownsRow.alloc H1.out.own _) (some ⟨w1.heap.size, 0, none⟩) 1 1 [⟨k, 1 :: L⟩] rfl (by simp [Act.eval, Act.put]) (fun e => by cases e) (els_oneL _ _ ⟨k, 1 :: L⟩ _ rfl) HTL.out (by decide) (by have := H1.out.big; simp at this ⊢; omega) ?_; intro v5 w5 ho5 hg5 _; obtain ⟨A5, c5, e5, _⟩ := own_fullL tlV_len ho5; obtain ⟨n5, hn5⟩ : ∃ n, (T ++ [(⟨k, 1 :: L⟩ : Tl)]).length = n := ⟨_, rfl⟩; rw [hn5] at e5; clear hn5; subst e5; have H5 := Lib.hid ((H1.out.next ((Below.refl _ _).alloc (Nat.le_refl _) _)).put hg5 ho5); have z4 := H5.out.1.cell 0; have f4 := H5.out.1.frozen 0; simp only [List.getElem?_toArray, List.getElem?_cons_succ, List.getElem?_cons_zero] at z4; clear ho5 hg5)
      | fail "no")
    all_goals (
      go_wp2_with fail
      go_end0
      exact ⟨rfl, _, by rw [HT.out]; exact H5.out.2⟩)
  · have HT : Hid (prT k x = []) := Lib.hid (by unfold prT; rw [if_pos (by simpa using HBB.out)])
    go_enter Try.func40, Try.ntmps40
    go_wp2_with fail
    go_end0
    exact ⟨rfl, v, by rw [HT.out, List.append_nil]; exact H0.out⟩
set_option maxHeartbeats 4000000 in
theorem putports_any (r : Ry) (w : World) :
    Calls Try.prog 24 #[RyV r] w fun e w' => ∃ A k, e = .returned (.slice A (ryT r).length k) ∧ Els 2 tlV w' A (ryT r) ∧ (A = none → k = 0) ∧ (∀ a, A = some a → w.heap.size ≤ a.block) ∧ Below w.heap.size w w' := by
  have hmf : ∀ (fn : Fn) (first cap : Array Value) (w : World), (Instr.makeFunc fn first cap).run Try.prog w = .ok (.func fn first cap) w := fun _ _ _ _ => rfl
  have HB0 : Hid (Below w.heap.size w ((w.alloc (.cells #[.int .u8 r.l.toNat, .int .u32 r.q.toNat, .int .u8 r.k.toNat, .bool r.s, .bool r.e, .int .u8 r.i.a.toNat, .int .u8 r.i.b.toNat, .int .u8 r.i.c.toNat, .int .u8 r.i.d.toNat, .int .u8 r.i.e.toNat, .int .u8 r.i.f.toNat, .int .u8 r.u.a.toNat, .int .u8 r.u.b.toNat, .int .u8 r.u.c.toNat, .int .u8 r.u.d.toNat, .int .u8 r.u.e.toNat, .int .u8 r.u.f.toNat] 43)).alloc (.cells #[.slice none 0 0] 29))) := Lib.hid (((Below.refl _ _).alloc (Nat.le_refl _) _).alloc (by simp) _)
  have HK0 : Hid (Blk ((w.alloc (.cells #[.int .u8 r.l.toNat, .int .u32 r.q.toNat, .int .u8 r.k.toNat, .bool r.s, .bool r.e, .int .u8 r.i.a.toNat, .int .u8 r.i.b.toNat, .int .u8 r.i.c.toNat, .int .u8 r.i.d.toNat, .int .u8 r.i.e.toNat, .int .u8 r.i.f.toNat, .int .u8 r.u.a.toNat, .int .u8 r.u.b.toNat, .int .u8 r.u.c.toNat, .int .u8 r.u.d.toNat, .int .u8 r.u.e.toNat, .int .u8 r.u.f.toNat] 43)).alloc (.cells #[.slice none 0 0] 29)) w.heap.size 43 #[.int .u8 r.l.toNat, .int .u32 r.q.toNat, .int .u8 r.k.toNat, .bool r.s, .bool r.e, .int .u8 r.i.a.toNat, .int .u8 r.i.b.toNat, .int .u8 r.i.c.toNat, .int .u8 r.i.d.toNat, .int .u8 r.i.e.toNat, .int .u8 r.i.f.toNat, .int .u8 r.u.a.toNat, .int .u8 r.u.b.toNat, .int .u8 r.u.c.toNat, .int .u8 r.u.d.toNat, .int .u8 r.u.e.toNat, .int .u8 r.u.f.toNat]) := Lib.hid ((Blk.new _ _ _).alloc _)
  have H0 : Hid (PpS ((w.alloc (.cells #[.int .u8 r.l.toNat, .int .u32 r.q.toNat, .int .u8 r.k.toNat, .bool r.s, .bool r.e, .int .u8 r.i.a.toNat, .int .u8 r.i.b.toNat, .int .u8 r.i.c.toNat, .int .u8 r.i.d.toNat, .int .u8 r.i.e.toNat, .int .u8 r.i.f.toNat, .int .u8 r.u.a.toNat, .int .u8 r.u.b.toNat, .int .u8 r.u.c.toNat, .int .u8 r.u.d.toNat, .int .u8 r.u.e.toNat, .int .u8 r.u.f.toNat] 43)).alloc (.cells #[.slice none 0 0] 29)) (w.heap.size + 1) (w.heap.size + 2) [] (.slice none 0 0) ((w.alloc (.cells #[.int .u8 r.l.toNat, .int .u32 r.q.toNat, .int .u8 r.k.toNat, .bool r.s, .bool r.e, .int .u8 r.i.a.toNat, .int .u8 r.i.b.toNat, .int .u8 r.i.c.toNat, .int .u8 r.i.d.toNat, .int .u8 r.i.e.toNat, .int .u8 r.i.f.toNat, .int .u8 r.u.a.toNat, .int .u8 r.u.b.toNat, .int .u8 r.u.c.toNat, .int .u8 r.u.d.toNat, .int .u8 r.u.e.toNat, .int .u8 r.u.f.toNat] 43)).alloc (.cells #[.slice none 0 0] 29))) := Lib.hid (by
    have := Blk.new (w.alloc (.cells #[.int .u8 r.l.toNat, .int .u32 r.q.toNat, .int .u8 r.k.toNat, .bool r.s, .bool r.e, .int .u8 r.i.a.toNat, .int .u8 r.i.b.toNat, .int .u8 r.i.c.toNat, .int .u8 r.i.d.toNat, .int .u8 r.i.e.toNat, .int .u8 r.i.f.toNat, .int .u8 r.u.a.toNat, .int .u8 r.u.b.toNat, .int .u8 r.u.c.toNat, .int .u8 r.u.d.toNat, .int .u8 r.u.e.toNat, .int .u8 r.u.f.toNat] 43)) 29 #[.slice none 0 0]
    refine ⟨by simpa using this, World.ownsRow_nil _ _ _ _, by simp, by omega, Below.refl _ _⟩)
  have K5 : Hid (∀ x W g base T v w, PpS W g base T v w → T.length ≤ 1000 → Calls Try.prog 40 #[.int .u8 5, A6V x, .pointer (some ⟨g, 0, none⟩)] w fun e w' => e = .returned (.tuple #[]) ∧ ∃ v', PpS W g base (T ++ prT 5 x) v' w') := Lib.hid (putp_any 5)
  have K6 : Hid (∀ x W g base T v w, PpS W g base T v w → T.length ≤ 1000 → Calls Try.prog 40 #[.int .u8 6, A6V x, .pointer (some ⟨g, 0, none⟩)] w fun e w' => e = .returned (.tuple #[]) ∧ ∃ v', PpS W g base (T ++ prT 6 x) v' w') := Lib.hid (putp_any 6)
  show Calls _ _ #[.agg #[.int .u8 r.l.toNat, .int .u32 r.q.toNat, .int .u8 r.k.toNat, .bool r.s, .bool r.e, .int .u8 r.i.a.toNat, .int .u8 r.i.b.toNat, .int .u8 r.i.c.toNat, .int .u8 r.i.d.toNat, .int .u8 r.i.e.toNat, .int .u8 r.i.f.toNat, .int .u8 r.u.a.toNat, .int .u8 r.u.b.toNat, .int .u8 r.u.c.toNat, .int .u8 r.u.d.toNat, .int .u8 r.u.e.toNat, .int .u8 r.u.f.toNat]] _ _
  have c5 := HK0.out.cell 5
  have c6 := HK0.out.cell 6
  have c7 := HK0.out.cell 7
  have c8 := HK0.out.cell 8
  have c9 := HK0.out.cell 9
  have c10 := HK0.out.cell 10
  simp only [List.getElem?_toArray, List.getElem?_cons_succ, List.getElem?_cons_zero] at c5 c6 c7 c8 c9 c10
  go_enter Try.func24, Try.ntmps24
  go_wp2_with fail
  refine (K5.out r.i _ _ _ _ _ _ H0.out (by simp)).mono ?_
  rintro e w1 ⟨rfl, v1, h1⟩
  have H1 := Lib.hid h1
  have HK1 : Hid (Blk w1 w.heap.size 43 #[.int .u8 r.l.toNat, .int .u32 r.q.toNat, .int .u8 r.k.toNat, .bool r.s, .bool r.e, .int .u8 r.i.a.toNat, .int .u8 r.i.b.toNat, .int .u8 r.i.c.toNat, .int .u8 r.i.d.toNat, .int .u8 r.i.e.toNat, .int .u8 r.i.f.toNat, .int .u8 r.u.a.toNat, .int .u8 r.u.b.toNat, .int .u8 r.u.c.toNat, .int .u8 r.u.d.toNat, .int .u8 r.u.e.toNat, .int .u8 r.u.f.toNat]) := Lib.hid (HK0.out.below h1.below (by omega))
  clear h1 c5 c6 c7 c8 c9 c10 H0
  obtain ⟨T1, hT1⟩ : ∃ T, [] ++ prT 5 r.i = T := ⟨_, rfl⟩
  have hl : T1.length ≤ 1000 := by rw [← hT1]; unfold prT; split <;> simp
  have HTT : Hid (T1 ++ prT 6 r.u = ryT r) := Lib.hid (by rw [← hT1]; rfl)
  rw [hT1] at H1
  clear hT1
  have c11 := HK1.out.cell 11
  have c12 := HK1.out.cell 12
  have c13 := HK1.out.cell 13
  have c14 := HK1.out.cell 14
  have c15 := HK1.out.cell 15
  have c16 := HK1.out.cell 16
  simp only [List.getElem?_toArray, List.getElem?_cons_succ, List.getElem?_cons_zero] at c11 c12 c13 c14 c15 c16
  go_wp2_with fail
  refine (K6.out r.u _ _ _ _ _ _ H1.out hl).mono ?_
  rintro e w2 ⟨rfl, v2, h2⟩
  rw [HTT.out] at h2
  have HB2 : Hid (Below w.heap.size w w2) := Lib.hid (HB0.out.trans (h2.below.mono (by omega)))
  obtain ⟨A, k, rfl, hE, _, hz, hA⟩ := own_fullL tlV_len h2.own
  obtain ⟨n, hn⟩ : ∃ n, (ryT r).length = n := ⟨_, rfl⟩
  rw [hn] at h2
  have g0 := h2.blk.cell 0
  simp only [List.getElem?_toArray, List.getElem?_cons_succ, List.getElem?_cons_zero] at g0
  have HE := Lib.hid (And.intro hn (And.intro hE (And.intro hz hA)))
  clear h2 hE hz hA hn hl c11 c12 c13 c14 c15 c16
  go_wp2_with fail
  go_ret
  exact ⟨A, k, by rw [HE.out.1]; rfl, HE.out.2.1, HE.out.2.2.1, fun a ha => by have := (HE.out.2.2.2 a ha).1; omega, HB2.out⟩
set_option maxHeartbeats 8000000 in
theorem ltput_impl : LtPutC := by
  intro t w
  have HB0 : Hid (Below w.heap.size w ((w.alloc (.cells #[.int .u8 t.l.toNat, .int .u32 t.q.toNat, .int .u8 t.k.toNat, .int .u8 t.o.a.toNat, .int .u8 t.o.b.toNat, .int .u8 t.o.c.toNat, .int .u8 t.o.d.toNat, .int .u8 t.o.e.toNat, .int .u8 t.o.f.toNat, .int .u8 t.t.a.toNat, .int .u8 t.t.b.toNat, .int .u8 t.t.c.toNat, .int .u8 t.t.d.toNat, .int .u8 t.t.e.toNat, .int .u8 t.t.f.toNat] 35)).alloc (.cells #[.int .u8 0, .int .u8 0, .int .u8 0, .string ⟨#[]⟩, .slice none 0 0] 31))) := Lib.hid (((Below.refl _ _).alloc (Nat.le_refl _) _).alloc (by simp) _)
  have HK0 : Hid (Blk ((w.alloc (.cells #[.int .u8 t.l.toNat, .int .u32 t.q.toNat, .int .u8 t.k.toNat, .int .u8 t.o.a.toNat, .int .u8 t.o.b.toNat, .int .u8 t.o.c.toNat, .int .u8 t.o.d.toNat, .int .u8 t.o.e.toNat, .int .u8 t.o.f.toNat, .int .u8 t.t.a.toNat, .int .u8 t.t.b.toNat, .int .u8 t.t.c.toNat, .int .u8 t.t.d.toNat, .int .u8 t.t.e.toNat, .int .u8 t.t.f.toNat] 35)).alloc (.cells #[.int .u8 0, .int .u8 0, .int .u8 0, .string ⟨#[]⟩, .slice none 0 0] 31)) w.heap.size 35 #[.int .u8 t.l.toNat, .int .u32 t.q.toNat, .int .u8 t.k.toNat, .int .u8 t.o.a.toNat, .int .u8 t.o.b.toNat, .int .u8 t.o.c.toNat, .int .u8 t.o.d.toNat, .int .u8 t.o.e.toNat, .int .u8 t.o.f.toNat, .int .u8 t.t.a.toNat, .int .u8 t.t.b.toNat, .int .u8 t.t.c.toNat, .int .u8 t.t.d.toNat, .int .u8 t.t.e.toNat, .int .u8 t.t.f.toNat]) := Lib.hid ((Blk.new _ _ _).alloc _)
  have HR0 : Hid (Blk ((w.alloc (.cells #[.int .u8 t.l.toNat, .int .u32 t.q.toNat, .int .u8 t.k.toNat, .int .u8 t.o.a.toNat, .int .u8 t.o.b.toNat, .int .u8 t.o.c.toNat, .int .u8 t.o.d.toNat, .int .u8 t.o.e.toNat, .int .u8 t.o.f.toNat, .int .u8 t.t.a.toNat, .int .u8 t.t.b.toNat, .int .u8 t.t.c.toNat, .int .u8 t.t.d.toNat, .int .u8 t.t.e.toNat, .int .u8 t.t.f.toNat] 35)).alloc (.cells #[.int .u8 0, .int .u8 0, .int .u8 0, .string ⟨#[]⟩, .slice none 0 0] 31)) (w.heap.size + 1) 31 #[.int .u8 0, .int .u8 0, .int .u8 0, .string ⟨#[]⟩, .slice none 0 0]) := Lib.hid (by
    have := Blk.new (w.alloc (.cells #[.int .u8 t.l.toNat, .int .u32 t.q.toNat, .int .u8 t.k.toNat, .int .u8 t.o.a.toNat, .int .u8 t.o.b.toNat, .int .u8 t.o.c.toNat, .int .u8 t.o.d.toNat, .int .u8 t.o.e.toNat, .int .u8 t.o.f.toNat, .int .u8 t.t.a.toNat, .int .u8 t.t.b.toNat, .int .u8 t.t.c.toNat, .int .u8 t.t.d.toNat, .int .u8 t.t.e.toNat, .int .u8 t.t.f.toNat] 35)) 31 #[.int .u8 0, .int .u8 0, .int .u8 0, .string ⟨#[]⟩, .slice none 0 0]
    simpa using this)
  show Calls _ _ #[.agg #[.int .u8 t.l.toNat, .int .u32 t.q.toNat, .int .u8 t.k.toNat, .int .u8 t.o.a.toNat, .int .u8 t.o.b.toNat, .int .u8 t.o.c.toNat, .int .u8 t.o.d.toNat, .int .u8 t.o.e.toNat, .int .u8 t.o.f.toNat, .int .u8 t.t.a.toNat, .int .u8 t.t.b.toNat, .int .u8 t.t.c.toNat, .int .u8 t.t.d.toNat, .int .u8 t.t.e.toNat, .int .u8 t.t.f.toNat]] _ _
  by_cases h7 : 7 < t.l.toNat
  · have HP : Hid (tcP t = pd0 ∧ tcE t = 2) := Lib.hid (by
      have e : tcE t = 2 := by unfold tcE; rw [if_pos h7]
      exact ⟨by unfold tcP; rw [if_neg (by omega)], e⟩)
    have p7 : (7 : Int) < (t.l.toNat : Int) := by omega
    clear h7
    have k0 := HK0.out.cell 0
    simp only [List.getElem?_toArray, List.getElem?_cons_succ, List.getElem?_cons_zero] at k0
    go_enter Try.func5, Try.ntmps5
    go_wp2_with (refine wpList_store_row rfl 31 (.tmp 2) (.tmp 9) rfl (w.heap.size + 1) rfl _ rfl 31 _ HR0.out (by kernel_rfl) rfl (by kernel_rfl) ?_)
    refine bodyPost_ret (v := .tuple #[.agg #[.int .u8 0, .int .u8 0, .int .u8 0, .string ⟨#[]⟩, .slice none 0 0], .int .i64 2]) (results_cell_slot (p := 2) (q := 3) (by kernel_rfl) _ _ (w.heap.size + 1) 31 _ _ rfl (Blk.row HR0.out _) Try.underlying31 rfl (by kernel_rfl) _ rfl) rfl ?_
    exact ⟨none, 0, by rw [HP.out.1, HP.out.2]; rfl, fun _ => rfl, below_row HB0.out (by omega) _⟩
  · have p7 : ¬ (7 : Int) < (t.l.toNat : Int) := by omega
    have hE : tcE t = 0 := by unfold tcE; rw [if_neg h7]
    obtain ⟨D, hD⟩ : ∃ X, dig 4 t.q.toNat = X := ⟨_, rfl⟩
    obtain ⟨D1, hD1⟩ : ∃ X, D ++ [t.k] = X := ⟨_, rfl⟩
    have l0 : D.length = 4 := by rw [← hD, dig_len]
    have l1 : D1.length = 5 := by rw [← hD1]; simp [l0]
    have hX : D1 ++ (t.o.l ++ t.t.l) = tcS t := by rw [← hD1, ← hD]; unfold tcS; simp
    have K1 := Lib.hid (fun w => put32n15 t.q w)
    rw [hD] at K1
    have K2 := Lib.hid (fun A k w => put8s15 A k 4 D t.k w l0 (by omega))
    rw [hD1] at K2
    obtain ⟨X, hX2⟩ : ∃ X, tcS t = X := ⟨_, rfl⟩
    have HP : Hid (tcP t = ⟨t.l, 5, 128, X, []⟩ ∧ tcE t = 0) := Lib.hid ⟨by rw [tcP_ok hE, hX2], hE⟩
    rw [hX2] at hX
    have HX := Lib.hid (And.intro l1 hX)
    clear h7 hE hD hD1 l0 l1 hX hX2
    have k0 := HK0.out.cell 0
    have k1 := HK0.out.cell 1
    have k2 := HK0.out.cell 2
    simp only [List.getElem?_toArray, List.getElem?_cons_succ, List.getElem?_cons_zero] at k0 k1 k2
    go_enter Try.func5, Try.ntmps5
    go_upto_region 3 with (fail)
    go_cut [4] (fun a wx => ∃ A k, a = .slice A 5 k ∧ Hid (A = none → k = 0) ∧ Hid (Byt wx A D1) ∧ Hid (Below w.heap.size w wx) ∧ Hid (Blk wx w.heap.size 35 #[.int .u8 t.l.toNat, .int .u32 t.q.toNat, .int .u8 t.k.toNat, .int .u8 t.o.a.toNat, .int .u8 t.o.b.toNat, .int .u8 t.o.c.toNat, .int .u8 t.o.d.toNat, .int .u8 t.o.e.toNat, .int .u8 t.o.f.toNat, .int .u8 t.t.a.toNat, .int .u8 t.t.b.toNat, .int .u8 t.t.c.toNat, .int .u8 t.t.d.toNat, .int .u8 t.t.e.toNat, .int .u8 t.t.f.toNat]) ∧ Hid (Blk wx (w.heap.size + 1) 31 #[.int .u8 0, .int .u8 0, .int .u8 0, .string ⟨#[]⟩, .slice none 0 0]))
    case first =>
      go_region_with (first
        | (go_at_call 19; refine (K1.out _).mono ?_; rintro r w1 ⟨A1, k1, rfl, hz1, hy1, hb1⟩; have HY1 := Lib.hid hy1; have HZ1 := Lib.hid hz1; have HB1 := Lib.hid (HB0.out.drew.trans (hb1.mono HB0.out.drew.size)); have HK1 := Lib.hid (Blk.below (Blk.drew HK0.out) hb1 HK0.out.lt); have HR1 := Lib.hid (Blk.below (Blk.drew HR0.out) hb1 HR0.out.lt); have k2' := Blk.cell HK1.out 2; simp only [List.getElem?_toArray, List.getElem?_cons_succ, List.getElem?_cons_zero] at k2'; clear hy1 hz1 hb1)
        | (go_at_call 18; refine (K2.out _ _ _ HZ1.out HY1.out).mono ?_; rintro r w2 ⟨A2, k2_, rfl, hz2, hy2, hs2, _, hb2⟩; have HY2 := Lib.hid hy2; have HZ2 := Lib.hid hz2; have HB2 := Lib.hid (HB1.out.trans (hb2.mono HB1.out.size)); have HK2 := Lib.hid (Blk.below HK1.out hb2 HK1.out.lt); have HR2 := Lib.hid (Blk.below HR1.out hb2 HR1.out.lt); clear hy2 hz2 hs2 hb2)
        | fail "no")
      all_goals (
        go_wp2_with fail
        go_meet
        exact ⟨_, _, rfl, HZ2, HY2, HB2, HK2, HR2⟩)
    obtain ⟨A2, k2_, rfl, HZ2, HY2, HB2, HK2, HR2⟩ := hcut
    clear HB0 HK0 HR0 K1 K2 k0 k1 k2
    obtain ⟨w2, rfl⟩ : ∃ w2, w2 = wc := ⟨_, rfl⟩
    go_upto_region 4 with (fail)
    go_still_tail 5, (by kernel_rfl)
    change wpList _ _ _ _ _ w2.drew
    have HKd : Hid (Blk w2.drew w.heap.size 35 #[.int .u8 t.l.toNat, .int .u32 t.q.toNat, .int .u8 t.k.toNat, .int .u8 t.o.a.toNat, .int .u8 t.o.b.toNat, .int .u8 t.o.c.toNat, .int .u8 t.o.d.toNat, .int .u8 t.o.e.toNat, .int .u8 t.o.f.toNat, .int .u8 t.t.a.toNat, .int .u8 t.t.b.toNat, .int .u8 t.t.c.toNat, .int .u8 t.t.d.toNat, .int .u8 t.t.e.toNat, .int .u8 t.t.f.toNat]) := Lib.hid HK2.out.drew
    have HRd : Hid (Blk w2.drew (w.heap.size + 1) 31 #[.int .u8 0, .int .u8 0, .int .u8 0, .string ⟨#[]⟩, .slice none 0 0]) := Lib.hid HR2.out.drew
    have HBd : Hid (Below w.heap.size w w2.drew) := Lib.hid HB2.out.drew
    have HYd : Hid (Byt w2.drew A2 D1) := Lib.hid HY2.out
    generalize w2.drew = w3 at *
    clear HK2 HR2 HB2 HY2
    go_wp2_with fail
    have HKa := Lib.hid (HKd.out.alloc (.cells #[.slice A2 5 k2_, .slice (some ⟨w.heap.size, 3, none⟩) 6 6, .slice (some ⟨w.heap.size, 9, none⟩) 6 6] 58))
    have HRa := Lib.hid (HRd.out.alloc (.cells #[.slice A2 5 k2_, .slice (some ⟨w.heap.size, 3, none⟩) 6 6, .slice (some ⟨w.heap.size, 9, none⟩) 6 6] 58))
    have hcc : ∀ k (h : k < [D1, t.o.l, t.t.l].length), ∃ v, (w3.alloc (.cells #[.slice A2 5 k2_, .slice (some ⟨w.heap.size, 3, none⟩) 6 6, .slice (some ⟨w.heap.size, 9, none⟩) 6 6] 58)).cell? ⟨w3.heap.size, k, none⟩ = some v ∧ Str (w3.alloc (.cells #[.slice A2 5 k2_, .slice (some ⟨w.heap.size, 3, none⟩) 6 6, .slice (some ⟨w.heap.size, 9, none⟩) 6 6] 58)) v [D1, t.o.l, t.t.l][k] := by
      intro k h
      match k, h with
      | 0, _ => exact ⟨.slice A2 5 k2_, (Blk.new w3 _ _).cell 0, (show Str _ (.slice A2 5 k2_) D1 from ⟨A2, k2_, by rw [HX.out.1], HZ2.out, HYd.out.below ((Below.refl _ _).alloc (Nat.le_refl _) _)⟩)⟩
      | 1, _ => exact ⟨_, (Blk.new w3 _ _).cell 1, (tc_str HKa.out).1⟩
      | 2, _ => exact ⟨_, (Blk.new w3 _ _).cell 2, (tc_str HKa.out).2⟩
    refine (concat_any w3.heap.size 3 [D1, t.o.l, t.t.l] hcc (by simp [A6.l, HX.out.1]) (by simp)).mono ?_
    rw [show [D1, t.o.l, t.t.l].flatten = X by simp [HX.out.2]]
    rintro r w4 ⟨v4, rfl, ho4, hb4⟩
    have hcv := ho4.str.conv
    have HB4 : Hid (Below w.heap.size w w4) := Lib.hid ((HBd.out.alloc HBd.out.size _).trans (hb4.mono (by have := HBd.out.size; simp only [World.size_alloc]; omega)))
    have HK4 := Lib.hid (HKa.out.below hb4 HKa.out.lt)
    have HR4 := Lib.hid (HRa.out.below hb4 HRa.out.lt)
    clear ho4 hb4 hcc HKa HRa HKd HRd HBd HYd HZ2 HX
    have k0 := HK4.out.cell 0
    simp only [List.getElem?_toArray, List.getElem?_cons_succ, List.getElem?_cons_zero] at k0
    go_wp2_with (refine wpList_store_row rfl 31 (.tmp 2) (.tmp 27) rfl (w.heap.size + 1) rfl _ rfl 31 _ HR4.out (by kernel_rfl) rfl (by kernel_rfl) ?_)
    refine bodyPost_ret (v := .tuple #[.agg #[.int .u8 t.l.toNat, .int .u8 5, .int .u8 128, .string ⟨X.toArray⟩, .slice none 0 0], .int .i64 0]) (results_cell_slot (p := 2) (q := 3) (by kernel_rfl) _ _ (w.heap.size + 1) 31 _ _ rfl (Blk.row HR4.out _) Try.underlying31 rfl (by kernel_rfl) _ rfl) rfl ?_
    exact ⟨none, 0, by rw [HP.out.1, HP.out.2]; rfl, fun _ => rfl, below_row HB4.out (by omega) _⟩
set_option maxHeartbeats 8000000 in
theorem ltputr_impl : LtPutRC := by
  intro r w
  have HB0 : Hid (Below w.heap.size w ((w.alloc (.cells #[.int .u8 r.l.toNat, .int .u32 r.q.toNat, .int .u8 r.k.toNat, .bool r.s, .bool r.e, .int .u8 r.i.a.toNat, .int .u8 r.i.b.toNat, .int .u8 r.i.c.toNat, .int .u8 r.i.d.toNat, .int .u8 r.i.e.toNat, .int .u8 r.i.f.toNat, .int .u8 r.u.a.toNat, .int .u8 r.u.b.toNat, .int .u8 r.u.c.toNat, .int .u8 r.u.d.toNat, .int .u8 r.u.e.toNat, .int .u8 r.u.f.toNat] 43)).alloc (.cells #[.int .u8 0, .int .u8 0, .int .u8 0, .string ⟨#[]⟩, .slice none 0 0] 31))) := Lib.hid (((Below.refl _ _).alloc (Nat.le_refl _) _).alloc (by simp) _)
  have HK0 : Hid (Blk ((w.alloc (.cells #[.int .u8 r.l.toNat, .int .u32 r.q.toNat, .int .u8 r.k.toNat, .bool r.s, .bool r.e, .int .u8 r.i.a.toNat, .int .u8 r.i.b.toNat, .int .u8 r.i.c.toNat, .int .u8 r.i.d.toNat, .int .u8 r.i.e.toNat, .int .u8 r.i.f.toNat, .int .u8 r.u.a.toNat, .int .u8 r.u.b.toNat, .int .u8 r.u.c.toNat, .int .u8 r.u.d.toNat, .int .u8 r.u.e.toNat, .int .u8 r.u.f.toNat] 43)).alloc (.cells #[.int .u8 0, .int .u8 0, .int .u8 0, .string ⟨#[]⟩, .slice none 0 0] 31)) w.heap.size 43 #[.int .u8 r.l.toNat, .int .u32 r.q.toNat, .int .u8 r.k.toNat, .bool r.s, .bool r.e, .int .u8 r.i.a.toNat, .int .u8 r.i.b.toNat, .int .u8 r.i.c.toNat, .int .u8 r.i.d.toNat, .int .u8 r.i.e.toNat, .int .u8 r.i.f.toNat, .int .u8 r.u.a.toNat, .int .u8 r.u.b.toNat, .int .u8 r.u.c.toNat, .int .u8 r.u.d.toNat, .int .u8 r.u.e.toNat, .int .u8 r.u.f.toNat]) := Lib.hid ((Blk.new _ _ _).alloc _)
  have HR0 : Hid (Blk ((w.alloc (.cells #[.int .u8 r.l.toNat, .int .u32 r.q.toNat, .int .u8 r.k.toNat, .bool r.s, .bool r.e, .int .u8 r.i.a.toNat, .int .u8 r.i.b.toNat, .int .u8 r.i.c.toNat, .int .u8 r.i.d.toNat, .int .u8 r.i.e.toNat, .int .u8 r.i.f.toNat, .int .u8 r.u.a.toNat, .int .u8 r.u.b.toNat, .int .u8 r.u.c.toNat, .int .u8 r.u.d.toNat, .int .u8 r.u.e.toNat, .int .u8 r.u.f.toNat] 43)).alloc (.cells #[.int .u8 0, .int .u8 0, .int .u8 0, .string ⟨#[]⟩, .slice none 0 0] 31)) (w.heap.size + 1) 31 #[.int .u8 0, .int .u8 0, .int .u8 0, .string ⟨#[]⟩, .slice none 0 0]) := Lib.hid (by
    have := Blk.new (w.alloc (.cells #[.int .u8 r.l.toNat, .int .u32 r.q.toNat, .int .u8 r.k.toNat, .bool r.s, .bool r.e, .int .u8 r.i.a.toNat, .int .u8 r.i.b.toNat, .int .u8 r.i.c.toNat, .int .u8 r.i.d.toNat, .int .u8 r.i.e.toNat, .int .u8 r.i.f.toNat, .int .u8 r.u.a.toNat, .int .u8 r.u.b.toNat, .int .u8 r.u.c.toNat, .int .u8 r.u.d.toNat, .int .u8 r.u.e.toNat, .int .u8 r.u.f.toNat] 43)) 31 #[.int .u8 0, .int .u8 0, .int .u8 0, .string ⟨#[]⟩, .slice none 0 0]
    simpa using this)
  show Calls _ _ #[.agg #[.int .u8 r.l.toNat, .int .u32 r.q.toNat, .int .u8 r.k.toNat, .bool r.s, .bool r.e, .int .u8 r.i.a.toNat, .int .u8 r.i.b.toNat, .int .u8 r.i.c.toNat, .int .u8 r.i.d.toNat, .int .u8 r.i.e.toNat, .int .u8 r.i.f.toNat, .int .u8 r.u.a.toNat, .int .u8 r.u.b.toNat, .int .u8 r.u.c.toNat, .int .u8 r.u.d.toNat, .int .u8 r.u.e.toNat, .int .u8 r.u.f.toNat]] _ _
  by_cases h7 : 7 < r.l.toNat
  · have HP : Hid (ryP r = pd0 ∧ ryE r = 2) := Lib.hid (by
      have e : ryE r = 2 := by unfold ryE; rw [if_pos h7]
      exact ⟨by unfold ryP; rw [if_neg (by omega)], e⟩)
    have p7 : (7 : Int) < (r.l.toNat : Int) := by omega
    clear h7
    have k0 := HK0.out.cell 0
    simp only [List.getElem?_toArray, List.getElem?_cons_succ, List.getElem?_cons_zero] at k0
    go_enter Try.func8, Try.ntmps8
    go_wp2_with (refine wpList_store_row rfl 31 (.tmp 2) (.tmp 8) rfl (w.heap.size + 1) rfl _ rfl 31 _ HR0.out (by kernel_rfl) rfl (by kernel_rfl) ?_)
    refine bodyPost_ret (v := .tuple #[.agg #[.int .u8 0, .int .u8 0, .int .u8 0, .string ⟨#[]⟩, .slice none 0 0], .int .i64 2]) (results_cell_slot (p := 2) (q := 3) (by kernel_rfl) _ _ (w.heap.size + 1) 31 _ _ rfl (Blk.row HR0.out _) Try.underlying31 rfl (by kernel_rfl) _ rfl) rfl ?_
    exact ⟨none, 0, by rw [HP.out.1, HP.out.2]; rfl, by rw [HP.out.1]; exact els_nilL _ _, fun _ => rfl, fun h => absurd h (by rw [HP.out.1]; simp [pd0]), below_row HB0.out (by omega) _⟩
  · have p7 : ¬ (7 : Int) < (r.l.toNat : Int) := by omega
    have hE : ryE r = 0 := by unfold ryE; rw [if_neg h7]
    obtain ⟨D, hD⟩ : ∃ X, dig 4 r.q.toNat = X := ⟨_, rfl⟩
    obtain ⟨D1, hD1⟩ : ∃ X, D ++ [r.k] = X := ⟨_, rfl⟩
    have l0 : D.length = 4 := by rw [← hD, dig_len]
    have l1 : D1.length = 5 := by rw [← hD1]; simp [l0]
    have hX : D1 ++ [ryK r] = ryS r := by rw [← hD1, ← hD]; unfold ryS; simp
    have K1 := Lib.hid (fun w => put32n15 r.q w)
    rw [hD] at K1
    have K2 := Lib.hid (fun A k w => put8s15 A k 4 D r.k w l0 (by omega))
    rw [hD1] at K2
    obtain ⟨X, hX2⟩ : ∃ X, ryS r = X := ⟨_, rfl⟩
    have K3 := Lib.hid (fun w => lastbyte_any r.e w)
    have K4 := Lib.hid (fun A k w => put8s15 A k 5 D1 (ryK r) w l1 (by omega))
    rw [hX, hX2] at K4
    have hk : (if r.e = true then (1 : UInt8) else 2) = ryK r := rfl
    rw [hk] at K3
    obtain ⟨kk, hkk⟩ : ∃ x, ryK r = x := ⟨_, rfl⟩
    rw [hkk] at K3 K4
    have K5 := Lib.hid (fun w => putflags15_any r w)
    have K6 := Lib.hid (fun w => putports_any r w)
    obtain ⟨G, hG⟩ : ∃ x, ryG r = x := ⟨_, rfl⟩
    obtain ⟨T, hT⟩ : ∃ x, ryT r = x := ⟨_, rfl⟩
    obtain ⟨m, hm⟩ : ∃ m, T.length = m := ⟨_, rfl⟩
    have HP : Hid (ryP r = ⟨r.l, 4, G, X, T⟩ ∧ ryE r = 0 ∧ T.length = m) := Lib.hid ⟨by rw [ryP_ok hE, hX2, hG, hT], hE, hm⟩
    rw [hG] at K5
    rw [hT, hm] at K6
    clear h7 hE hD hD1 l0 l1 hX hX2 hk hkk hG hT hm
    have k0 := HK0.out.cell 0
    have k1 := HK0.out.cell 1
    have k2 := HK0.out.cell 2
    simp only [List.getElem?_toArray, List.getElem?_cons_succ, List.getElem?_cons_zero] at k0 k1 k2
    go_enter Try.func8, Try.ntmps8
    go_upto_region 3 with (fail)
    go_cut [4] (fun a wx => ∃ A k, a = .slice A 5 k ∧ Hid (A = none → k = 0) ∧ Hid (Byt wx A D1) ∧ Hid (Below w.heap.size w wx) ∧ Hid (Blk wx w.heap.size 43 #[.int .u8 r.l.toNat, .int .u32 r.q.toNat, .int .u8 r.k.toNat, .bool r.s, .bool r.e, .int .u8 r.i.a.toNat, .int .u8 r.i.b.toNat, .int .u8 r.i.c.toNat, .int .u8 r.i.d.toNat, .int .u8 r.i.e.toNat, .int .u8 r.i.f.toNat, .int .u8 r.u.a.toNat, .int .u8 r.u.b.toNat, .int .u8 r.u.c.toNat, .int .u8 r.u.d.toNat, .int .u8 r.u.e.toNat, .int .u8 r.u.f.toNat]) ∧ Hid (Blk wx (w.heap.size + 1) 31 #[.int .u8 0, .int .u8 0, .int .u8 0, .string ⟨#[]⟩, .slice none 0 0]))
    case first =>
      go_region_with (first
        | (go_at_call 19; refine (K1.out _).mono ?_; rintro r w1 ⟨A1, k1, rfl, hz1, hy1, hb1⟩; have HY1 := Lib.hid hy1; have HZ1 := Lib.hid hz1; have HB1 := Lib.hid (HB0.out.drew.trans (hb1.mono HB0.out.drew.size)); have HK1 := Lib.hid (Blk.below (Blk.drew HK0.out) hb1 HK0.out.lt); have HR1 := Lib.hid (Blk.below (Blk.drew HR0.out) hb1 HR0.out.lt); have k2' := Blk.cell HK1.out 2; simp only [List.getElem?_toArray, List.getElem?_cons_succ, List.getElem?_cons_zero] at k2'; clear hy1 hz1 hb1)
        | (go_at_call 18; refine (K2.out _ _ _ HZ1.out HY1.out).mono ?_; rintro r w2 ⟨A2, k2_, rfl, hz2, hy2, hs2, _, hb2⟩; have HY2 := Lib.hid hy2; have HZ2 := Lib.hid hz2; have HB2 := Lib.hid (HB1.out.trans (hb2.mono HB1.out.size)); have HK2 := Lib.hid (Blk.below HK1.out hb2 HK1.out.lt); have HR2 := Lib.hid (Blk.below HR1.out hb2 HR1.out.lt); clear hy2 hz2 hs2 hb2)
        | fail "no")
      all_goals (
        go_wp2_with fail
        go_meet
        exact ⟨_, _, rfl, HZ2, HY2, HB2, HK2, HR2⟩)
    obtain ⟨A2, k2_, rfl, HZ2, HY2, HB2, HK2, HR2⟩ := hcut
    clear HB0 HK0 HR0 K1 K2 k0 k1 k2
    obtain ⟨w2, rfl⟩ : ∃ w2, w2 = wc := ⟨_, rfl⟩
    have k4 := HK2.out.cell 4
    simp only [List.getElem?_toArray, List.getElem?_cons_succ, List.getElem?_cons_zero] at k4
    go_wp2_with fail
    refine (K3.out _).mono ?_
    rintro e _ ⟨rfl, rfl⟩
    go_wp2_with fail
    refine (K4.out _ _ _ HZ2.out HY2.out).mono ?_
    rintro e w3 ⟨A3, k3, rfl, hz3, hy3, hs3, ha3, hb3⟩
    have HA3 : Hid (∀ a, A3 = some a → a.block ≠ w.heap.size + 1) := Lib.hid (fun a ha => by have h1 := ha3 a ha; have h2 := HR2.out.lt; omega)
    have HSd : Hid (Str w3.drew (.slice A3 6 k3) X) := Lib.hid hs3
    have HB3 : Hid (Below w.heap.size w w3) := Lib.hid (HB2.out.trans (hb3.mono HB2.out.size))
    have HBd : Hid (Below w.heap.size w w3.drew) := Lib.hid HB3.out.drew
    have HKd : Hid (Blk w3.drew w.heap.size 43 #[.int .u8 r.l.toNat, .int .u32 r.q.toNat, .int .u8 r.k.toNat, .bool r.s, .bool r.e, .int .u8 r.i.a.toNat, .int .u8 r.i.b.toNat, .int .u8 r.i.c.toNat, .int .u8 r.i.d.toNat, .int .u8 r.i.e.toNat, .int .u8 r.i.f.toNat, .int .u8 r.u.a.toNat, .int .u8 r.u.b.toNat, .int .u8 r.u.c.toNat, .int .u8 r.u.d.toNat, .int .u8 r.u.e.toNat, .int .u8 r.u.f.toNat]) := Lib.hid (Blk.drew (HK2.out.below hb3 HK2.out.lt))
    have HRd : Hid (Blk w3.drew (w.heap.size + 1) 31 #[.int .u8 0, .int .u8 0, .int .u8 0, .string ⟨#[]⟩, .slice none 0 0]) := Lib.hid (Blk.drew (HR2.out.below hb3 HR2.out.lt))
    clear hz3 hy3 hs3 ha3 hb3 HB2 HK2 HR2 HZ2 HY2 k4 K3 K4
    have cv := HSd.out.conv
    have k0 := HKd.out.cell 0
    simp only [List.getElem?_toArray, List.getElem?_cons_succ, List.getElem?_cons_zero] at k0
    go_wp2_with fail
    refine wp_region_noPanic ?_
    refine wp_region_held_drew (S := fun w_ => Chg (only (w.heap.size + 1)) w3 w_) (by kernel_rfl) (Chg.refl _ w3).drew (fun hHeld => ?_)
    refine wpAnyH_take (i := 0) (v := ?v1) rfl (by kernel_rfl) (by kernel_rfl) (by kernel_rfl) (fun _ _ _ h => h) (Or.inl ⟨by rfl, ?hy1⟩) hHeld ?rest1
    case hy1 =>
      intro w_ hSw; go_simp
      all_goals (with_reducible rfl)
    try simp only [Act.put, List.getElem_toArray, List.getElem_cons_succ, List.getElem_cons_zero, List.setIfInBounds_toArray, List.set_cons_zero, List.set_cons_succ]
    refine wpAnyH_take (i := 1) (v := ?v2) rfl (by kernel_rfl) (by kernel_rfl) (by kernel_rfl) (fun _ _ _ h => h) (Or.inl ⟨by rfl, ?hy2⟩) hHeld ?rest2
    case hy2 =>
      intro w_ hSw; have hc := (hSw.cell (p := ⟨w.heap.size, 0, none⟩) HKd.out.lt (by unfold only; simp)).trans k0; go_simp
      all_goals (with_reducible rfl)
    try simp only [Act.put, List.getElem_toArray, List.getElem_cons_succ, List.getElem_cons_zero, List.setIfInBounds_toArray, List.set_cons_zero, List.set_cons_succ]
    refine wpAnyH_take (i := 2) (v := .agg #[.int .u8 r.l.toNat, .int .u32 r.q.toNat, .int .u8 r.k.toNat, .bool r.s, .bool r.e, .int .u8 r.i.a.toNat, .int .u8 r.i.b.toNat, .int .u8 r.i.c.toNat, .int .u8 r.i.d.toNat, .int .u8 r.i.e.toNat, .int .u8 r.i.f.toNat, .int .u8 r.u.a.toNat, .int .u8 r.u.b.toNat, .int .u8 r.u.c.toNat, .int .u8 r.u.d.toNat, .int .u8 r.u.e.toNat, .int .u8 r.u.f.toNat]) rfl (by kernel_rfl) (by kernel_rfl) (by kernel_rfl) (fun _ _ _ h => h) (yieldsIf_row15 43 1 rfl (by rfl) w.heap.size rfl 43 _ _ (fun w_ hw => (HKd.out.chg (w := w3) hw (by unfold only; omega))) Try.underlying43 rfl (by kernel_rfl)) hHeld ?_
    try simp only [Act.put, List.getElem_toArray, List.getElem_cons_succ, List.getElem_cons_zero, List.setIfInBounds_toArray, List.set_cons_zero, List.set_cons_succ]
    refine wpAnyH_take (i := 4) (v := ?v3) rfl (by kernel_rfl) (by kernel_rfl) (by kernel_rfl) (fun _ _ _ h => h) (Or.inl ⟨by rfl, ?hy3⟩) hHeld ?rest3
    case hy3 =>
      intro w_ hSw; go_simp
      all_goals (with_reducible rfl)
    try simp only [Act.put, List.getElem_toArray, List.getElem_cons_succ, List.getElem_cons_zero, List.setIfInBounds_toArray, List.set_cons_zero, List.set_cons_succ]
    refine wpAnyH_take (i := 5) (v := ?v4) rfl (by kernel_rfl) (by kernel_rfl) (by kernel_rfl) (fun _ _ _ h => h) (Or.inl ⟨by rfl, ?hy4⟩) hHeld ?rest4
    case hy4 =>
      intro w_ hSw; have cv := (str_chg15 (w := w3) HSd.out hSw HA3.out).conv; go_simp
      all_goals (with_reducible rfl)
    try simp only [Act.put, List.getElem_toArray, List.getElem_cons_succ, List.getElem_cons_zero, List.setIfInBounds_toArray, List.set_cons_zero, List.set_cons_succ]
    refine wpAnyH_take (i := 6) (v := .agg #[.int .u8 r.l.toNat, .int .u32 r.q.toNat, .int .u8 r.k.toNat, .bool r.s, .bool r.e, .int .u8 r.i.a.toNat, .int .u8 r.i.b.toNat, .int .u8 r.i.c.toNat, .int .u8 r.i.d.toNat, .int .u8 r.i.e.toNat, .int .u8 r.i.f.toNat, .int .u8 r.u.a.toNat, .int .u8 r.u.b.toNat, .int .u8 r.u.c.toNat, .int .u8 r.u.d.toNat, .int .u8 r.u.e.toNat, .int .u8 r.u.f.toNat]) rfl (by kernel_rfl) (by kernel_rfl) (by kernel_rfl) (fun _ _ _ h => h) (yieldsIf_row15 43 1 rfl (by rfl) w.heap.size rfl 43 _ _ (fun w_ hw => (HKd.out.chg (w := w3) hw (by unfold only; omega))) Try.underlying43 rfl (by kernel_rfl)) hHeld ?_
    try simp only [Act.put, List.getElem_toArray, List.getElem_cons_succ, List.getElem_cons_zero, List.setIfInBounds_toArray, List.set_cons_zero, List.set_cons_succ]
    refine wpAnyH_ready (rs := [3]) (by kernel_rfl) (by simp) ?_
    refine AllReadyH.cons rfl (fun K hK => ?_) AllReadyH.nil
    go_simp
    go_at_call 23
    refine (K5.out _).mono ?_
    rintro e w4 ⟨rfl, hb_⟩
    have HB4 : Hid (Below w.heap.size w w4) := Lib.hid (HBd.out.trans (hb_.mono HBd.out.size))
    have HR4 := Lib.hid (HRd.out.below hb_ HRd.out.lt)
    have hS := (Chg.of_below (S := only (w.heap.size + 1)) hb_)
    refine hK.out _ _ (hHeld.trans hS) (fun hHeld => ?_)
    clear hK K
    try simp only [Act.put, List.getElem_toArray, List.getElem_cons_succ, List.getElem_cons_zero, List.setIfInBounds_toArray, List.set_cons_zero, List.set_cons_succ]
    refine wpAnyH_ready (rs := [7]) (by kernel_rfl) (by simp) ?_
    refine AllReadyH.cons rfl (fun K hK => ?_) AllReadyH.nil
    go_simp
    go_at_call 24
    refine (K6.out _).mono ?_
    rintro e w5 ⟨A, kx, rfl, hE_, hz_, hf_, hb_⟩
    have HB5 : Hid (Below w.heap.size w w5) := Lib.hid (HB4.out.trans (hb_.mono HB4.out.size))
    have HE5 := Lib.hid (And.intro hE_ (And.intro hz_ (show ∀ a, A = some a → w.heap.size + 1 < a.block from fun a ha => Nat.lt_of_lt_of_le HR4.out.lt (hf_ a ha))))
    have HR5 := Lib.hid (HR4.out.below hb_ HR4.out.lt)
    have hS2 := (Chg.of_below (S := only (w.heap.size + 1)) hb_)
    clear hE_ hz_ hf_
    refine hK.out _ _ (hHeld.trans hS2) (fun hHeld => ?_)
    clear hK K
    try simp only [Act.put, List.getElem_toArray, List.getElem_cons_succ, List.getElem_cons_zero, List.setIfInBounds_toArray, List.set_cons_zero, List.set_cons_succ]
    refine wpAnyH_take (i := 8) (v := ?v5) rfl (by kernel_rfl) (by kernel_rfl) (by kernel_rfl) (fun _ _ _ h => h) (Or.inl ⟨by rfl, ?hy5⟩) hHeld ?rest5
    case hy5 =>
      intro w_ hSw; go_simp
      all_goals (with_reducible rfl)
    try simp only [Act.put, List.getElem_toArray, List.getElem_cons_succ, List.getElem_cons_zero, List.setIfInBounds_toArray, List.set_cons_zero, List.set_cons_succ]
    refine wpAnyH_ready (rs := [9]) (by kernel_rfl) (by simp) ?_
    refine AllReadyH.cons rfl (fun K hK => ?_) AllReadyH.nil
    refine step_store_row15 rfl 31 (.tmp 2) (.tmp 28) rfl (w.heap.size + 1) rfl #[.int .u8 r.l.toNat, .int .u8 4, .int .u8 G.toNat, .string ⟨X.toArray⟩, .slice A m kx] rfl 31 _ HR5.out (by kernel_rfl) rfl (by kernel_rfl) ?_
    have H9 := Lib.hid (And.intro (Blk.row HR5.out #[.int .u8 r.l.toNat, .int .u8 4, .int .u8 G.toNat, .string ⟨X.toArray⟩, .slice A m kx]) (And.intro (below_row HB5.out (show w.heap.size ≤ w.heap.size + 1 by omega) #[.int .u8 r.l.toNat, .int .u8 4, .int .u8 G.toNat, .string ⟨X.toArray⟩, .slice A m kx]) (els_row (t := 31) (cs' := #[.int .u8 r.l.toNat, .int .u8 4, .int .u8 G.toNat, .string ⟨X.toArray⟩, .slice A m kx]) HE5.out.1 HR5.out trivial (fun a ha => by have := HE5.out.2.2 a ha; omega))))
    refine hK.out _ _ (hHeld.setRow (.inr rfl) _) (fun hHeld => ?_)
    clear hK K
    try simp only [Act.put, List.getElem_toArray, List.getElem_cons_succ, List.getElem_cons_zero, List.setIfInBounds_toArray, List.set_cons_zero, List.set_cons_succ]
    refine wpAnyH_take (i := 10) (v := ?v6) rfl (by kernel_rfl) (by kernel_rfl) (by kernel_rfl) (fun _ _ _ h => h) (Or.inl ⟨by rfl, ?hy6⟩) hHeld ?rest6
    case hy6 =>
      intro w_ hSw; go_simp
      all_goals (with_reducible rfl)
    try simp only [Act.put, List.getElem_toArray, List.getElem_cons_succ, List.getElem_cons_zero, List.setIfInBounds_toArray, List.set_cons_zero, List.set_cons_succ]
    refine wpAnyH_done (by kernel_rfl) ?_ _
    refine NoPanic.normal ?_
    clear hHeld
    go_wp2_with fail
    refine bodyPost_ret (v := .tuple #[.agg #[.int .u8 r.l.toNat, .int .u8 4, .int .u8 G.toNat, .string ⟨X.toArray⟩, .slice A m kx], .int .i64 0]) (results_cell_slot (p := 2) (q := 3) (by kernel_rfl) _ _ (w.heap.size + 1) 31 _ _ rfl H9.out.1 Try.underlying31 rfl (by kernel_rfl) _ rfl) rfl ?_
    exact ⟨A, kx, by rw [HP.out.1, HP.out.2.1, ← HP.out.2.2]; rfl, by rw [HP.out.1]; exact H9.out.2.2, HE5.out.2.1, fun _ a ha => by have := HE5.out.2.2 a ha; omega, H9.out.2.1⟩
end Go.Proofs.Ytieopgmmjpmflaa
