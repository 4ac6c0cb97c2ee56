/- Layer 16: the contracts of package config as a bundle over a relation; the law's small calls. -/
import Derived.Test.YtfdiolfelecccaaZzAa16
namespace Go.Proofs.Ytfdiolfelecccaa
open Go.RowKit
set_option linter.unusedVariables false
set_option linter.unusedSimpArgs false
set_option maxRecDepth 100000

/-- a table of rows that are not long -/
def Sm (T : Tb) (n : Nat) : Prop := T.A.length ≤ n ∧ T.E.length ≤ n ∧ T.M.length ≤ n
/-- a call changed blocks of S, which are now S', alone -/
structure StepT (S S' : Nat → Prop) (w w' : World) : Prop where
  chg : Chg S w w'
  own : ∀ k, S' k → S k ∨ w.heap.size ≤ k
/-- an act -/
structure Ac where
  k : UInt8
  a : As
  e : Mp
  m : Mi
  deriving Inhabited
abbrev AcV (x : Ac) (B : Option Addr) (c : Nat) : Value := .agg #[.int .u8 x.k.toNat, .int .u8 x.a.l.toNat, .string ⟨x.a.d.toArray⟩, .string ⟨x.a.n.toArray⟩, .int .u16 x.a.v.toNat, .int .u8 x.a.i.toNat, .slice B x.a.m.length c, .int .i64 x.e.a, .int .u16 x.e.m.toNat, .int .u8 x.e.p.toNat, .bool x.e.u, .int .u8 x.m.p.toNat, .int .u16 x.m.v.toNat, .int .u8 x.m.l.toNat]
/-- what an act makes of a table, and its answers -/
def Tb.act (T : Tb) (x : Ac) : Tb × Nat × Nat :=
  if x.k = 0 then ((T.addE x.e).1, 0, (T.addE x.e).2)
  else if x.k = 1 then ((T.dropE x.e.a x.e.m).1, 0, (T.dropE x.e.a x.e.m).2)
  else if x.k = 2 then ((T.addM x.m).1, 0, (T.addM x.m).2)
  else if x.k = 3 then ((T.dropM x.m.p x.m.v).1, 0, (T.dropM x.m.p x.m.v).2)
  else T.addA x.a
/-- what package config is held to: R S w b T says that the block b is the table T, which owns the blocks S -/
structure CgI (R : (Nat → Prop) → World → Nat → Tb → Prop) : Prop where
  new : ∀ (n : Nat) (w : World), 1 ≤ n → n ≤ 8 → Calls Try.prog 8 #[.int .i64 (n : Int)] w fun e w' => ∃ S b, e = .returned (.tuple #[.pointer (some ⟨b, 0, none⟩), .int .i64 0]) ∧ R S w' b ⟨n, [], [], []⟩ ∧ (∀ k, S k → w.heap.size ≤ k) ∧ Below w.heap.size w w'
  bad : ∀ (n : Int) (w : World), ¬ (1 ≤ n ∧ n ≤ 8) → Calls Try.prog 8 #[.int .i64 n] w fun e w' => e = .returned (.tuple #[.pointer none, .int .i64 2]) ∧ Below w.heap.size w w'
  addA : ∀ (S : Nat → Prop) (w : World) (b : Nat) (T : Tb) (a : As) (B : Option Addr) (c : Nat), R S w b T → Sm T 1000 → Els 1 u16c w B a.m → (B = none → c = 0) → a.d.length ≤ 1000 → a.n.length ≤ 1000 → a.m.length ≤ 1000 → Calls Try.prog 17 #[.pointer (some ⟨b, 0, none⟩), AsV a B c] w fun e w' => ∃ S', e = .returned (.tuple #[.int .i64 ((T.addA a).2.1 : Nat), .int .i64 ((T.addA a).2.2 : Nat)]) ∧ R S' w' b (T.addA a).1 ∧ StepT S S' w w'
  addE : ∀ (S : Nat → Prop) (w : World) (b : Nat) (T : Tb) (m : Mp), R S w b T → Sm T 1000 → Calls Try.prog 18 #[.pointer (some ⟨b, 0, none⟩), .agg #[.int .i64 m.a, .int .u16 m.m.toNat, .int .u8 m.p.toNat, .bool m.u]] w fun e w' => ∃ S', e = .returned (.int .i64 ((T.addE m).2 : Nat)) ∧ R S' w' b (T.addE m).1 ∧ StepT S S' w w'
  dropE : ∀ (S : Nat → Prop) (w : World) (b : Nat) (T : Tb) (a : Int) (k : UInt16), R S w b T → Sm T 1000 → Calls Try.prog 20 #[.pointer (some ⟨b, 0, none⟩), .int .i64 a, .int .u16 k.toNat] w fun e w' => ∃ S', e = .returned (.int .i64 ((T.dropE a k).2 : Nat)) ∧ R S' w' b (T.dropE a k).1 ∧ StepT S S' w w'
  addM : ∀ (S : Nat → Prop) (w : World) (b : Nat) (T : Tb) (m : Mi), R S w b T → Sm T 1000 → Calls Try.prog 19 #[.pointer (some ⟨b, 0, none⟩), .agg #[.int .u8 m.p.toNat, .int .u16 m.v.toNat, .int .u8 m.l.toNat]] w fun e w' => ∃ S', e = .returned (.int .i64 ((T.addM m).2 : Nat)) ∧ R S' w' b (T.addM m).1 ∧ StepT S S' w w'
  dropM : ∀ (S : Nat → Prop) (w : World) (b : Nat) (T : Tb) (p : UInt8) (v : UInt16), R S w b T → Sm T 1000 → Calls Try.prog 22 #[.pointer (some ⟨b, 0, none⟩), .int .u8 p.toNat, .int .u16 v.toNat] w fun e w' => ∃ S', e = .returned (.int .i64 ((T.dropM p v).2 : Nat)) ∧ R S' w' b (T.dropM p v).1 ∧ StepT S S' w w'
  assoc : ∀ (S : Nat → Prop) (w : World) (b : Nat) (T : Tb) (i : Int), R S w b T → Sm T 1000 → 0 ≤ i → i < T.A.length → Calls Try.prog 12 #[.pointer (some ⟨b, 0, none⟩), .int .i64 i] w fun e w' => ∃ B c, e = .returned (.tuple #[AsV (T.A.getD i.toNat default) B c, .bool true]) ∧ Els 1 u16c w' B (T.A.getD i.toNat default).m ∧ R S w' b T ∧ Below w.heap.size w w'
  assocNo : ∀ (S : Nat → Prop) (w : World) (b : Nat) (T : Tb) (i : Int), R S w b T → Sm T 1000 → ¬ (0 ≤ i ∧ i < T.A.length) → Calls Try.prog 12 #[.pointer (some ⟨b, 0, none⟩), .int .i64 i] w fun e w' => e = .returned (.tuple #[.agg #[.int .u8 0, .string ⟨#[]⟩, .string ⟨#[]⟩, .int .u16 0, .int .u8 0, .slice none 0 0], .bool false]) ∧ R S w' b T ∧ Below w.heap.size w w'
  meps : ∀ (S : Nat → Prop) (w : World) (b : Nat) (T : Tb), R S w b T → Sm T 1000 → Calls Try.prog 13 #[.pointer (some ⟨b, 0, none⟩)] w fun e w' => ∃ B c, e = .returned (.slice B T.E.length c) ∧ Els 4 mpE w' B T.E ∧ (B = none → c = 0) ∧ R S w' b T ∧ Below w.heap.size w w' ∧ (∀ a, B = some a → ¬ S a.block)
  att : ∀ (S : Nat → Prop) (w : World) (b : Nat) (T : Tb) (p : UInt8) (v : UInt16), R S w b T → Sm T 1000 → Calls Try.prog 14 #[.pointer (some ⟨b, 0, none⟩), .int .u8 p.toNat, .int .u16 v.toNat] w fun e w' => e = .returned (.agg #[.int .u8 (T.set p v false).toNat, .int .u8 (T.set p v true).toNat, .int .i64 (T.mid p v)]) ∧ R S w' b T ∧ Below w.heap.size w w'
  addAN : ∀ (w : World) (a : As) (B : Option Addr) (c : Nat), Calls Try.prog 17 #[.pointer none, AsV a B c] w fun e w' => e = .returned (.tuple #[.int .i64 0, .int .i64 1]) ∧ Below w.heap.size w w'
  addEN : ∀ (w : World) (m : Mp), Calls Try.prog 18 #[.pointer none, .agg #[.int .i64 m.a, .int .u16 m.m.toNat, .int .u8 m.p.toNat, .bool m.u]] w fun e w' => e = .returned (.int .i64 1) ∧ Below w.heap.size w w'
  dropEN : ∀ (w : World) (a : Int) (k : UInt16), Calls Try.prog 20 #[.pointer none, .int .i64 a, .int .u16 k.toNat] w fun e w' => e = .returned (.int .i64 1) ∧ Below w.heap.size w w'
  addMN : ∀ (w : World) (m : Mi), Calls Try.prog 19 #[.pointer none, .agg #[.int .u8 m.p.toNat, .int .u16 m.v.toNat, .int .u8 m.l.toNat]] w fun e w' => e = .returned (.int .i64 1) ∧ Below w.heap.size w w'
  dropMN : ∀ (w : World) (p : UInt8) (v : UInt16), Calls Try.prog 22 #[.pointer none, .int .u8 p.toNat, .int .u16 v.toNat] w fun e w' => e = .returned (.int .i64 1) ∧ Below w.heap.size w w'
  assocN : ∀ (w : World) (i : Int), Calls Try.prog 12 #[.pointer none, .int .i64 i] w fun e w' => e = .returned (.tuple #[.agg #[.int .u8 0, .string ⟨#[]⟩, .string ⟨#[]⟩, .int .u16 0, .int .u8 0, .slice none 0 0], .bool false]) ∧ Below w.heap.size w w'
  mepsN : ∀ (w : World), Calls Try.prog 13 #[.pointer none] w fun e w' => ∃ B c, e = .returned (.slice B 0 c) ∧ Below w.heap.size w w'
  attN : ∀ (w : World) (p : UInt8) (v : UInt16), Calls Try.prog 14 #[.pointer none, .int .u8 p.toNat, .int .u16 v.toNat] w fun e w' => e = .returned (.agg #[.int .u8 0, .int .u8 0, .int .i64 (-1)]) ∧ Below w.heap.size w w'
  fr : ∀ (S X : Nat → Prop) (w w' : World) (b : Nat) (T : Tb), R S w b T → Chg X w w' → (∀ k, S k → ¬ X k) → R S w' b T
  lt : ∀ (S : Nat → Prop) (w : World) (b : Nat) (T : Tb), R S w b T → ∀ k, S k → k < w.heap.size
  inv : ∀ (S : Nat → Prop) (w : World) (b : Nat) (T : Tb), R S w b T → TbInv T
section
variable {R : (Nat → Prop) → World → Nat → Tb → Prop} {S S' : Nat → Prop} {w w' w'' : World} {b : Nat} {T : Tb}
theorem CgI.next (H : CgI R) (h : R S w b T) (hb : Below w.heap.size w w') : R S w' b T := H.fr S (fun _ => False) w w' b T h (Chg.of_below hb) (fun _ _ h => h)
theorem StepT.after (h : StepT S S' w' w'') (hb : Below w.heap.size w w') : StepT S S' w w'' := ⟨(Chg.of_below hb).trans h.chg, fun k hk => (h.own k hk).imp id (fun h' => Nat.le_trans hb.size h')⟩
theorem StepT.before (h : StepT S S' w w') (hb : Below w'.heap.size w' w'') : StepT S S' w w'' := ⟨h.chg.trans (Chg.of_below hb), h.own⟩
end
theorem addA_len (T : Tb) (a : As) : (T.addA a).1.A.length ≤ T.A.length + 1 ∧ (T.addA a).1.E = T.E ∧ (T.addA a).1.M = T.M := by
  unfold Tb.addA
  split
  · exact ⟨Nat.le_succ _, rfl, rfl⟩
  · split
    · exact ⟨Nat.le_succ _, rfl, rfl⟩
    · split
      · exact ⟨Nat.le_succ _, rfl, rfl⟩
      · exact ⟨by simp, rfl, rfl⟩
theorem addE_len (T : Tb) (m : Mp) : (T.addE m).1.E.length ≤ T.E.length + 1 ∧ (T.addE m).1.A = T.A ∧ (T.addE m).1.M = T.M := by
  unfold Tb.addE
  split
  · exact ⟨Nat.le_succ _, rfl, rfl⟩
  · split
    · exact ⟨Nat.le_succ _, rfl, rfl⟩
    · split
      · exact ⟨Nat.le_succ _, rfl, rfl⟩
      · exact ⟨by simp, rfl, rfl⟩
theorem dropE_len (T : Tb) (a : Int) (k : UInt16) : (T.dropE a k).1.E.length ≤ T.E.length ∧ (T.dropE a k).1.A = T.A ∧ (T.dropE a k).1.M = T.M := by
  unfold Tb.dropE
  split
  · exact ⟨Nat.le_refl _, rfl, rfl⟩
  · exact ⟨List.length_filter_le _ _, rfl, rfl⟩
theorem addM_len (T : Tb) (m : Mi) : (T.addM m).1.M.length ≤ T.M.length + 1 ∧ (T.addM m).1.A = T.A ∧ (T.addM m).1.E = T.E := by
  unfold Tb.addM
  split
  · exact ⟨Nat.le_succ _, rfl, rfl⟩
  · split
    · exact ⟨Nat.le_succ _, rfl, rfl⟩
    · split
      · exact ⟨Nat.le_succ _, rfl, rfl⟩
      · exact ⟨by simp, rfl, rfl⟩
theorem dropM_len (T : Tb) (p : UInt8) (v : UInt16) : (T.dropM p v).1.M.length ≤ T.M.length ∧ (T.dropM p v).1.A = T.A ∧ (T.dropM p v).1.E = T.E := by
  unfold Tb.dropM
  split
  · exact ⟨Nat.le_refl _, rfl, rfl⟩
  · exact ⟨List.length_filter_le _ _, rfl, rfl⟩
theorem act_len (T : Tb) (x : Ac) (n : Nat) (h : Sm T n) : Sm (T.act x).1 (n + 1) := by
  obtain ⟨h1, h2, h3⟩ := h
  unfold Tb.act
  split
  · have := addE_len T x.e
    exact ⟨by rw [this.2.1]; omega, by show (T.addE x.e).1.E.length ≤ n + 1; omega, by rw [this.2.2]; omega⟩
  · split
    · have := dropE_len T x.e.a x.e.m
      exact ⟨by rw [this.2.1]; omega, by show (T.dropE x.e.a x.e.m).1.E.length ≤ n + 1; omega, by rw [this.2.2]; omega⟩
    · split
      · have := addM_len T x.m
        exact ⟨by rw [this.2.1]; omega, by rw [this.2.2]; omega, by show (T.addM x.m).1.M.length ≤ n + 1; omega⟩
      · split
        · have := dropM_len T x.m.p x.m.v
          exact ⟨by rw [this.2.1]; omega, by rw [this.2.2]; omega, by show (T.dropM x.m.p x.m.v).1.M.length ≤ n + 1; omega⟩
        · have := addA_len T x.a
          exact ⟨by show (T.addA x.a).1.A.length ≤ n + 1; omega, by rw [this.2.1]; omega, by rw [this.2.2]; omega⟩
theorem act_inv {T : Tb} (h : TbInv T) (x : Ac) : TbInv (T.act x).1 := by
  unfold Tb.act
  split
  · exact inv_addE h x.e
  · split
    · exact inv_dropE h _ _
    · split
      · exact inv_addM h x.m
      · split
        · exact inv_dropM h _ _
        · exact inv_addA h x.a
set_option maxHeartbeats 2000000 in
theorem mep16_any (x : Mp) (w : World) :
    Calls Try.prog 15 #[.agg #[.int .i64 x.a, .int .u16 x.m.toNat, .int .u8 x.p.toNat, .bool x.u]] w fun e w' => e = .returned (.agg #[.int .i64 x.a, .int .u16 x.m.toNat, .int .u8 x.p.toNat, .bool x.u]) ∧ Below w.heap.size w w' := by
  have HB0 : Hid (Below w.heap.size w ((w.alloc (.cells #[.int .i64 x.a, .int .u16 x.m.toNat, .int .u8 x.p.toNat, .bool x.u] 39)).alloc (.cells #[.int .i64 0, .int .u16 0, .int .u8 0, .bool false] 59))) := Lib.hid (((Below.refl _ _).alloc (Nat.le_refl _) _).alloc (by simp) _)
  have HR0 : Hid (Blk ((w.alloc (.cells #[.int .i64 x.a, .int .u16 x.m.toNat, .int .u8 x.p.toNat, .bool x.u] 39)).alloc (.cells #[.int .i64 0, .int .u16 0, .int .u8 0, .bool false] 59)) (w.heap.size + 1) 59 #[.int .i64 0, .int .u16 0, .int .u8 0, .bool false]) := Lib.hid (by
    have := Blk.new (w.alloc (.cells #[.int .i64 x.a, .int .u16 x.m.toNat, .int .u8 x.p.toNat, .bool x.u] 39)) 59 #[.int .i64 0, .int .u16 0, .int .u8 0, .bool false]
    simpa using this)
  go_enter Try.func15, Try.ntmps15
  go_wp2_with (refine wpList_store_row rfl 59 (.tmp 2) (.tmp 11) rfl (w.heap.size + 1) rfl _ rfl 59 _ HR0.out (by kernel_rfl) rfl (by kernel_rfl) ?_)
  refine bodyPost_ret (v := .agg #[.int .i64 x.a, .int .u16 x.m.toNat, .int .u8 x.p.toNat, .bool x.u]) (results_cell_one16 (p := 2) (by kernel_rfl) _ _ (w.heap.size + 1) 59 _ _ rfl (Blk.row HR0.out _) Try.underlying59 rfl (by kernel_rfl)) rfl ?_
  exact ⟨rfl, below_row HB0.out (by omega) _⟩
set_option maxHeartbeats 2000000 in
theorem mip16_any (x : Mi) (w : World) :
    Calls Try.prog 21 #[.agg #[.int .u8 x.p.toNat, .int .u16 x.v.toNat, .int .u8 x.l.toNat]] w fun e w' => e = .returned (.agg #[.int .u8 x.p.toNat, .int .u16 x.v.toNat, .int .u8 x.l.toNat]) ∧ Below w.heap.size w w' := by
  have HB0 : Hid (Below w.heap.size w ((w.alloc (.cells #[.int .u8 x.p.toNat, .int .u16 x.v.toNat, .int .u8 x.l.toNat] 41)).alloc (.cells #[.int .u8 0, .int .u16 0, .int .u8 0] 65))) := Lib.hid (((Below.refl _ _).alloc (Nat.le_refl _) _).alloc (by simp) _)
  have HR0 : Hid (Blk ((w.alloc (.cells #[.int .u8 x.p.toNat, .int .u16 x.v.toNat, .int .u8 x.l.toNat] 41)).alloc (.cells #[.int .u8 0, .int .u16 0, .int .u8 0] 65)) (w.heap.size + 1) 65 #[.int .u8 0, .int .u16 0, .int .u8 0]) := Lib.hid (by
    have := Blk.new (w.alloc (.cells #[.int .u8 x.p.toNat, .int .u16 x.v.toNat, .int .u8 x.l.toNat] 41)) 65 #[.int .u8 0, .int .u16 0, .int .u8 0]
    simpa using this)
  go_enter Try.func21, Try.ntmps21
  go_wp2_with (refine wpList_store_row rfl 65 (.tmp 2) (.tmp 9) rfl (w.heap.size + 1) rfl _ rfl 65 _ HR0.out (by kernel_rfl) rfl (by kernel_rfl) ?_)
  refine bodyPost_ret (v := .agg #[.int .u8 x.p.toNat, .int .u16 x.v.toNat, .int .u8 x.l.toNat]) (results_cell_one16 (p := 2) (by kernel_rfl) _ _ (w.heap.size + 1) 65 _ _ rfl (Blk.row HR0.out _) Try.underlying65 rfl (by kernel_rfl)) rfl ?_
  exact ⟨rfl, below_row HB0.out (by omega) _⟩
set_option maxHeartbeats 2000000 in
theorem assoc16_any (x : As) (B : Option Addr) (c : Nat) (w : World) :
    Calls Try.prog 23 #[.agg #[.int .u8 x.l.toNat, .string ⟨x.d.toArray⟩, .string ⟨x.n.toArray⟩, .int .u16 x.v.toNat, .int .u8 x.i.toNat, .slice B x.m.length c]] w fun e w' => e = .returned (.agg #[.int .u8 x.l.toNat, .string ⟨x.d.toArray⟩, .string ⟨x.n.toArray⟩, .int .u16 x.v.toNat, .int .u8 x.i.toNat, .slice B x.m.length c]) ∧ Below w.heap.size w w' := by
  have HB0 : Hid (Below w.heap.size w ((w.alloc (.cells #[.int .u8 x.l.toNat, .string ⟨x.d.toArray⟩, .string ⟨x.n.toArray⟩, .int .u16 x.v.toNat, .int .u8 x.i.toNat, .slice B x.m.length c] 37)).alloc (.cells #[.int .u8 0, .string ⟨#[]⟩, .string ⟨#[]⟩, .int .u16 0, .int .u8 0, .slice none 0 0] 50))) := Lib.hid (((Below.refl _ _).alloc (Nat.le_refl _) _).alloc (by simp) _)
  have HR0 : Hid (Blk ((w.alloc (.cells #[.int .u8 x.l.toNat, .string ⟨x.d.toArray⟩, .string ⟨x.n.toArray⟩, .int .u16 x.v.toNat, .int .u8 x.i.toNat, .slice B x.m.length c] 37)).alloc (.cells #[.int .u8 0, .string ⟨#[]⟩, .string ⟨#[]⟩, .int .u16 0, .int .u8 0, .slice none 0 0] 50)) (w.heap.size + 1) 50 #[.int .u8 0, .string ⟨#[]⟩, .string ⟨#[]⟩, .int .u16 0, .int .u8 0, .slice none 0 0]) := Lib.hid (by
    have := Blk.new (w.alloc (.cells #[.int .u8 x.l.toNat, .string ⟨x.d.toArray⟩, .string ⟨x.n.toArray⟩, .int .u16 x.v.toNat, .int .u8 x.i.toNat, .slice B x.m.length c] 37)) 50 #[.int .u8 0, .string ⟨#[]⟩, .string ⟨#[]⟩, .int .u16 0, .int .u8 0, .slice none 0 0]
    simpa using this)
  go_enter Try.func23, Try.ntmps23
  go_wp2_with (refine wpList_store_row rfl 50 (.tmp 2) (.tmp 15) rfl (w.heap.size + 1) rfl _ rfl 50 _ HR0.out (by kernel_rfl) rfl (by kernel_rfl) ?_)
  refine bodyPost_ret (v := .agg #[.int .u8 x.l.toNat, .string ⟨x.d.toArray⟩, .string ⟨x.n.toArray⟩, .int .u16 x.v.toNat, .int .u8 x.i.toNat, .slice B x.m.length c]) (results_cell_one16 (p := 2) (by kernel_rfl) _ _ (w.heap.size + 1) 50 _ _ rfl (Blk.row HR0.out _) Try.underlying50 rfl (by kernel_rfl)) rfl ?_
  exact ⟨rfl, below_row HB0.out (by omega) _⟩
set_option maxHeartbeats 8000000 in
theorem does16_any {R : (Nat → Prop) → World → Nat → Tb → Prop} (HH : CgI R) (S : Nat → Prop) (w : World) (b : Nat) (T : Tb) (x : Ac) (B : Option Addr) (c : Nat) (hr : R S w b T) (hs : Sm T 1000) (hE : Els 1 u16c w B x.a.m) (hz : B = none → c = 0) (hd : x.a.d.length ≤ 1000) (hn : x.a.n.length ≤ 1000) (hm : x.a.m.length ≤ 1000) :
    Calls Try.prog 9 #[.pointer (some ⟨b, 0, none⟩), AcV x B c] w fun e w' => ∃ S', e = .returned (.tuple #[.int .i64 ((T.act x).2.1 : Nat), .int .i64 ((T.act x).2.2 : Nat)]) ∧ R S' w' b (T.act x).1 ∧ StepT S S' w w' := by
  have H := Lib.hid HH
  have HB0 : Hid (Below w.heap.size w (w.alloc (.cells #[.int .u8 x.k.toNat, .int .u8 x.a.l.toNat, .string ⟨x.a.d.toArray⟩, .string ⟨x.a.n.toArray⟩, .int .u16 x.a.v.toNat, .int .u8 x.a.i.toNat, .slice B x.a.m.length c, .int .i64 x.e.a, .int .u16 x.e.m.toNat, .int .u8 x.e.p.toNat, .bool x.e.u, .int .u8 x.m.p.toNat, .int .u16 x.m.v.toNat, .int .u8 x.m.l.toNat] 43))) := Lib.hid ((Below.refl _ _).alloc (Nat.le_refl _) _)
  have HR0 := Lib.hid (HH.next hr HB0.out)
  have HE0 : Hid (Els 1 u16c (w.alloc (.cells #[.int .u8 x.k.toNat, .int .u8 x.a.l.toNat, .string ⟨x.a.d.toArray⟩, .string ⟨x.a.n.toArray⟩, .int .u16 x.a.v.toNat, .int .u8 x.a.i.toNat, .slice B x.a.m.length c, .int .i64 x.e.a, .int .u16 x.e.m.toNat, .int .u8 x.e.p.toNat, .bool x.e.u, .int .u8 x.m.p.toNat, .int .u16 x.m.v.toNat, .int .u8 x.m.l.toNat] 43)) B x.a.m) := Lib.hid (hE.next HB0.out)
  have HK0 := Blk.new w 43 #[.int .u8 x.k.toNat, .int .u8 x.a.l.toNat, .string ⟨x.a.d.toArray⟩, .string ⟨x.a.n.toArray⟩, .int .u16 x.a.v.toNat, .int .u8 x.a.i.toNat, .slice B x.a.m.length c, .int .i64 x.e.a, .int .u16 x.e.m.toNat, .int .u8 x.e.p.toNat, .bool x.e.u, .int .u8 x.m.p.toNat, .int .u16 x.m.v.toNat, .int .u8 x.m.l.toNat]
  have HS := Lib.hid hs
  have HDN := Lib.hid (And.intro hz (And.intro hd (And.intro hn hm)))
  have a0 := HK0.cell 0
  have a1 := HK0.cell 1
  have a2 := HK0.cell 2
  have a3 := HK0.cell 3
  have a4 := HK0.cell 4
  have a5 := HK0.cell 5
  have a6 := HK0.cell 6
  have a7 := HK0.cell 7
  have a8 := HK0.cell 8
  have a9 := HK0.cell 9
  have a10 := HK0.cell 10
  have a11 := HK0.cell 11
  have a12 := HK0.cell 12
  have a13 := HK0.cell 13
  simp only [List.getElem?_toArray, List.getElem?_cons_succ, List.getElem?_cons_zero] at a0 a1 a2 a3 a4 a5 a6 a7 a8 a9 a10 a11 a12 a13
  clear HK0 HH hr hs hE hz hd hn hm
  show Calls _ _ #[_, .agg #[.int .u8 x.k.toNat, .int .u8 x.a.l.toNat, .string ⟨x.a.d.toArray⟩, .string ⟨x.a.n.toArray⟩, .int .u16 x.a.v.toNat, .int .u8 x.a.i.toNat, .slice B x.a.m.length c, .int .i64 x.e.a, .int .u16 x.e.m.toNat, .int .u8 x.e.p.toNat, .bool x.e.u, .int .u8 x.m.p.toNat, .int .u16 x.m.v.toNat, .int .u8 x.m.l.toNat]] _ _
  by_cases h0 : x.k = 0
  · have HX : Hid (T.act x = ((T.addE x.e).1, 0, (T.addE x.e).2)) := Lib.hid (by unfold Tb.act; rw [if_pos h0])
    have q0 : ((x.k.toNat : Int) == 0) = true := by rw [h0]; rfl
    clear h0
    go_enter Try.func9, Try.ntmps9
    go_wp2_with fail
    refine (mep16_any x.e _).mono ?_
    rintro r w1 ⟨rfl, hb1⟩
    have HB1 : Hid (Below w.heap.size w w1) := Lib.hid (HB0.out.trans (hb1.mono HB0.out.size))
    have HR1 := Lib.hid (H.out.next HR0.out hb1)
    clear hb1 HB0 HR0
    go_wp2_with fail
    refine (H.out.addE S _ b T x.e HR1.out HS.out).mono ?_
    rintro r w2 ⟨S', rfl, hr2, hs2⟩
    have H2 := Lib.hid (And.intro hr2 (hs2.after HB1.out))
    clear hr2 hs2
    go_wp2
    go_ret2
    exact ⟨S', by rw [HX.out]; rfl, by rw [HX.out]; exact H2.out.1, H2.out.2⟩
  by_cases h1 : x.k = 1
  · have HX : Hid (T.act x = ((T.dropE x.e.a x.e.m).1, 0, (T.dropE x.e.a x.e.m).2)) := Lib.hid (by unfold Tb.act; rw [if_neg h0, if_pos h1])
    have q0 : ((x.k.toNat : Int) == 0) = false := by rw [h1]; rfl
    have q1 : ((x.k.toNat : Int) == 1) = true := by rw [h1]; rfl
    clear h0 h1
    go_enter Try.func9, Try.ntmps9
    have HB1 := HB0
    have HR1 := HR0
    go_wp2_with fail
    refine (H.out.dropE S _ b T x.e.a x.e.m HR1.out HS.out).mono ?_
    rintro r w2 ⟨S', rfl, hr2, hs2⟩
    have H2 := Lib.hid (And.intro hr2 (hs2.after HB1.out))
    clear hr2 hs2
    go_wp2
    go_ret2
    exact ⟨S', by rw [HX.out]; rfl, by rw [HX.out]; exact H2.out.1, H2.out.2⟩
  by_cases h2 : x.k = 2
  · have HX : Hid (T.act x = ((T.addM x.m).1, 0, (T.addM x.m).2)) := Lib.hid (by unfold Tb.act; rw [if_neg h0, if_neg h1, if_pos h2])
    have q0 : ((x.k.toNat : Int) == 0) = false := by rw [h2]; rfl
    have q1 : ((x.k.toNat : Int) == 1) = false := by rw [h2]; rfl
    have q2 : ((x.k.toNat : Int) == 2) = true := by rw [h2]; rfl
    clear h0 h1 h2
    go_enter Try.func9, Try.ntmps9
    go_wp2_with fail
    refine (mip16_any x.m _).mono ?_
    rintro r w1 ⟨rfl, hb1⟩
    have HB1 : Hid (Below w.heap.size w w1) := Lib.hid (HB0.out.trans (hb1.mono HB0.out.size))
    have HR1 := Lib.hid (H.out.next HR0.out hb1)
    clear hb1 HB0 HR0
    go_wp2_with fail
    refine (H.out.addM S _ b T x.m HR1.out HS.out).mono ?_
    rintro r w2 ⟨S', rfl, hr2, hs2⟩
    have H2 := Lib.hid (And.intro hr2 (hs2.after HB1.out))
    clear hr2 hs2
    go_wp2
    go_ret2
    exact ⟨S', by rw [HX.out]; rfl, by rw [HX.out]; exact H2.out.1, H2.out.2⟩
  by_cases h3 : x.k = 3
  · have HX : Hid (T.act x = ((T.dropM x.m.p x.m.v).1, 0, (T.dropM x.m.p x.m.v).2)) := Lib.hid (by unfold Tb.act; rw [if_neg h0, if_neg h1, if_neg h2, if_pos h3])
    have q0 : ((x.k.toNat : Int) == 0) = false := by rw [h3]; rfl
    have q1 : ((x.k.toNat : Int) == 1) = false := by rw [h3]; rfl
    have q2 : ((x.k.toNat : Int) == 2) = false := by rw [h3]; rfl
    have q3 : ((x.k.toNat : Int) == 3) = true := by rw [h3]; rfl
    clear h0 h1 h2 h3
    go_enter Try.func9, Try.ntmps9
    have HB1 := HB0
    have HR1 := HR0
    go_wp2_with fail
    refine (H.out.dropM S _ b T x.m.p x.m.v HR1.out HS.out).mono ?_
    rintro r w2 ⟨S', rfl, hr2, hs2⟩
    have H2 := Lib.hid (And.intro hr2 (hs2.after HB1.out))
    clear hr2 hs2
    go_wp2
    go_ret2
    exact ⟨S', by rw [HX.out]; rfl, by rw [HX.out]; exact H2.out.1, H2.out.2⟩
  · have HX : Hid (T.act x = T.addA x.a) := Lib.hid (by unfold Tb.act; rw [if_neg h0, if_neg h1, if_neg h2, if_neg h3])
    have q0 : ((x.k.toNat : Int) == 0) = false := u8_ne (b := 0) h0
    have q1 : ((x.k.toNat : Int) == 1) = false := u8_ne (b := 1) h1
    have q2 : ((x.k.toNat : Int) == 2) = false := u8_ne (b := 2) h2
    have q3 : ((x.k.toNat : Int) == 3) = false := u8_ne (b := 3) h3
    clear h0 h1 h2 h3
    go_enter Try.func9, Try.ntmps9
    go_wp2_with fail
    refine (assoc16_any x.a B c _).mono ?_
    rintro r w1 ⟨rfl, hb1⟩
    have HB1 : Hid (Below w.heap.size w w1) := Lib.hid (HB0.out.trans (hb1.mono HB0.out.size))
    have HR1 := Lib.hid (H.out.next HR0.out hb1)
    have hb9 := Lib.hid hb1
    clear hb1 HB0 HR0
    go_wp2_with fail
    refine (H.out.addA S _ b T x.a B c HR1.out HS.out (HE0.out.next hb9.out) HDN.out.1 HDN.out.2.1 HDN.out.2.2.1 HDN.out.2.2.2).mono ?_
    rintro r w2 ⟨S', rfl, hr2, hs2⟩
    have H2 := Lib.hid (And.intro hr2 (hs2.after HB1.out))
    clear hr2 hs2
    go_wp2
    go_ret2
    exact ⟨S', by rw [HX.out]; rfl, by rw [HX.out]; exact H2.out.1, H2.out.2⟩
theorem els_off {α : Type} {k : Nat} {enc : α → List Value} {w : World} {A : Option Addr} {l : List α} {g : Nat} {t : TypeId} {cs cs' : Array Value} (j : Nat) (hj : ∀ x, ∃ u, (enc x)[j]? = some u ∧ ∀ i : Nat, cs[i]? ≠ some u) (h : Els k enc w A l) (hb : Blk w g t cs) : Els k enc (w.setRow g cs') A l := by
  intro h0
  obtain ⟨b, off, e, hlt, hc⟩ := h h0
  obtain ⟨u, hu, hno⟩ := hj l[0]
  have hg : b ≠ g := by
    rintro rfl
    have h1 := hc 0 h0 j u hu
    rw [hb.cell] at h1
    exact hno _ h1
  refine elsL_chg (X := only g) h ((Chg.refl (only g) w).setRow (.inr rfl) cs') (fun a ha hx => ?_) h0
  rw [e] at ha
  cases ha
  exact hg hx
theorem tbd_set {w : World} {T : Tb} {X : TbX} {g : Nat} {cs' : Array Value} (h : TbD w T X) (hb : Blk w g 34 #[.int .i64 0, .slice none 0 0, .slice none 0 0, .slice none 0 0]) : TbD (w.setRow g cs') T X := by
  have n8 : ∀ (u : Int) (i : Nat), (#[.int .i64 0, .slice none 0 0, .slice none 0 0, .slice none 0 0] : Array Value)[i]? ≠ some (.int .u8 u) := fun u i => by
    match i with
    | 0 => simp
    | 1 => simp
    | 2 => simp
    | 3 => simp
    | _ + 4 => simp
  have n16 : ∀ (u : Int) (i : Nat), (#[.int .i64 0, .slice none 0 0, .slice none 0 0, .slice none 0 0] : Array Value)[i]? ≠ some (.int .u16 u) := fun u i => by
    match i with
    | 0 => simp
    | 1 => simp
    | 2 => simp
    | 3 => simp
    | _ + 4 => simp
  exact ⟨h.la, els_off 0 (fun x => ⟨_, rfl, n8 _⟩) h.ea hb, fun x hx => els_off 0 (fun x => ⟨_, rfl, n16 _⟩) (h.em x hx) hb, els_off 1 (fun x => ⟨_, rfl, n16 _⟩) h.ee hb, els_off 0 (fun x => ⟨_, rfl, n8 _⟩) h.mm hb, h.za, h.ze, h.zm⟩
set_option maxHeartbeats 8000000 in
theorem says16_any (T : Tb) (X : TbX) (x : Ac) (B : Option Addr) (c : Nat) (w : World) (hT : TbD w T X) (hI : TbInv T) (hs : Sm T 1000) (hE : Els 1 u16c w B x.a.m) (hd : x.a.d.length ≤ 1000) (hn : x.a.n.length ≤ 1000) :
    Calls Try.prog 10 #[.agg (TbC T X), AcV x B c] w fun e w' => ∃ X', e = .returned (.tuple #[.agg (TbC (T.act x).1 X'), .int .i64 ((T.act x).2.1 : Nat), .int .i64 ((T.act x).2.2 : Nat)]) ∧ TbD w' (T.act x).1 X' ∧ Below w.heap.size w w' := by
  have HB0 : Hid (Below w.heap.size w (((w.alloc (.cells #[.int .i64 (T.n : Int), .slice X.A T.A.length X.ca, .slice X.E T.E.length X.ce, .slice X.M T.M.length X.cm] 34)).alloc (.cells #[.int .u8 x.k.toNat, .int .u8 x.a.l.toNat, .string ⟨x.a.d.toArray⟩, .string ⟨x.a.n.toArray⟩, .int .u16 x.a.v.toNat, .int .u8 x.a.i.toNat, .slice B x.a.m.length c, .int .i64 x.e.a, .int .u16 x.e.m.toNat, .int .u8 x.e.p.toNat, .bool x.e.u, .int .u8 x.m.p.toNat, .int .u16 x.m.v.toNat, .int .u8 x.m.l.toNat] 43)).alloc (.cells #[.int .i64 0, .slice none 0 0, .slice none 0 0, .slice none 0 0] 34))) := Lib.hid ((((Below.refl _ _).alloc (Nat.le_refl _) _).alloc (by simp) _).alloc (by simp; omega) _)
  have HK0 : Blk (((w.alloc (.cells #[.int .i64 (T.n : Int), .slice X.A T.A.length X.ca, .slice X.E T.E.length X.ce, .slice X.M T.M.length X.cm] 34)).alloc (.cells #[.int .u8 x.k.toNat, .int .u8 x.a.l.toNat, .string ⟨x.a.d.toArray⟩, .string ⟨x.a.n.toArray⟩, .int .u16 x.a.v.toNat, .int .u8 x.a.i.toNat, .slice B x.a.m.length c, .int .i64 x.e.a, .int .u16 x.e.m.toNat, .int .u8 x.e.p.toNat, .bool x.e.u, .int .u8 x.m.p.toNat, .int .u16 x.m.v.toNat, .int .u8 x.m.l.toNat] 43)).alloc (.cells #[.int .i64 0, .slice none 0 0, .slice none 0 0, .slice none 0 0] 34)) w.heap.size 34 #[.int .i64 (T.n : Int), .slice X.A T.A.length X.ca, .slice X.E T.E.length X.ce, .slice X.M T.M.length X.cm] := ((Blk.new _ _ _).alloc _).alloc _
  have HX0 : Blk (((w.alloc (.cells #[.int .i64 (T.n : Int), .slice X.A T.A.length X.ca, .slice X.E T.E.length X.ce, .slice X.M T.M.length X.cm] 34)).alloc (.cells #[.int .u8 x.k.toNat, .int .u8 x.a.l.toNat, .string ⟨x.a.d.toArray⟩, .string ⟨x.a.n.toArray⟩, .int .u16 x.a.v.toNat, .int .u8 x.a.i.toNat, .slice B x.a.m.length c, .int .i64 x.e.a, .int .u16 x.e.m.toNat, .int .u8 x.e.p.toNat, .bool x.e.u, .int .u8 x.m.p.toNat, .int .u16 x.m.v.toNat, .int .u8 x.m.l.toNat] 43)).alloc (.cells #[.int .i64 0, .slice none 0 0, .slice none 0 0, .slice none 0 0] 34)) (w.heap.size + 1) 43 #[.int .u8 x.k.toNat, .int .u8 x.a.l.toNat, .string ⟨x.a.d.toArray⟩, .string ⟨x.a.n.toArray⟩, .int .u16 x.a.v.toNat, .int .u8 x.a.i.toNat, .slice B x.a.m.length c, .int .i64 x.e.a, .int .u16 x.e.m.toNat, .int .u8 x.e.p.toNat, .bool x.e.u, .int .u8 x.m.p.toNat, .int .u16 x.m.v.toNat, .int .u8 x.m.l.toNat] := by
    have := (Blk.new (w.alloc (.cells #[.int .i64 (T.n : Int), .slice X.A T.A.length X.ca, .slice X.E T.E.length X.ce, .slice X.M T.M.length X.cm] 34)) 43 #[.int .u8 x.k.toNat, .int .u8 x.a.l.toNat, .string ⟨x.a.d.toArray⟩, .string ⟨x.a.n.toArray⟩, .int .u16 x.a.v.toNat, .int .u8 x.a.i.toNat, .slice B x.a.m.length c, .int .i64 x.e.a, .int .u16 x.e.m.toNat, .int .u8 x.e.p.toNat, .bool x.e.u, .int .u8 x.m.p.toNat, .int .u16 x.m.v.toNat, .int .u8 x.m.l.toNat]).alloc (.cells #[.int .i64 0, .slice none 0 0, .slice none 0 0, .slice none 0 0] 34)
    simpa using this
  have HR0 : Hid (Blk (((w.alloc (.cells #[.int .i64 (T.n : Int), .slice X.A T.A.length X.ca, .slice X.E T.E.length X.ce, .slice X.M T.M.length X.cm] 34)).alloc (.cells #[.int .u8 x.k.toNat, .int .u8 x.a.l.toNat, .string ⟨x.a.d.toArray⟩, .string ⟨x.a.n.toArray⟩, .int .u16 x.a.v.toNat, .int .u8 x.a.i.toNat, .slice B x.a.m.length c, .int .i64 x.e.a, .int .u16 x.e.m.toNat, .int .u8 x.e.p.toNat, .bool x.e.u, .int .u8 x.m.p.toNat, .int .u16 x.m.v.toNat, .int .u8 x.m.l.toNat] 43)).alloc (.cells #[.int .i64 0, .slice none 0 0, .slice none 0 0, .slice none 0 0] 34)) (w.heap.size + 2) 34 #[.int .i64 0, .slice none 0 0, .slice none 0 0, .slice none 0 0]) := Lib.hid (by
    have := Blk.new ((w.alloc (.cells #[.int .i64 (T.n : Int), .slice X.A T.A.length X.ca, .slice X.E T.E.length X.ce, .slice X.M T.M.length X.cm] 34)).alloc (.cells #[.int .u8 x.k.toNat, .int .u8 x.a.l.toNat, .string ⟨x.a.d.toArray⟩, .string ⟨x.a.n.toArray⟩, .int .u16 x.a.v.toNat, .int .u8 x.a.i.toNat, .slice B x.a.m.length c, .int .i64 x.e.a, .int .u16 x.e.m.toNat, .int .u8 x.e.p.toNat, .bool x.e.u, .int .u8 x.m.p.toNat, .int .u16 x.m.v.toNat, .int .u8 x.m.l.toNat] 43)) 34 #[.int .i64 0, .slice none 0 0, .slice none 0 0, .slice none 0 0]
    simpa using this)
  have HT0 := Lib.hid (hT.next HB0.out)
  have HI := Lib.hid hI
  have HS := Lib.hid hs
  have HE0 := Lib.hid (hE.next HB0.out)
  have HDN := Lib.hid (And.intro hd hn)
  have a0 := HX0.cell 0
  have a1 := HX0.cell 1
  have a2 := HX0.cell 2
  have a3 := HX0.cell 3
  have a4 := HX0.cell 4
  have a5 := HX0.cell 5
  have a6 := HX0.cell 6
  have a7 := HX0.cell 7
  have a8 := HX0.cell 8
  have a9 := HX0.cell 9
  have a10 := HX0.cell 10
  have a11 := HX0.cell 11
  have a12 := HX0.cell 12
  have a13 := HX0.cell 13
  simp only [List.getElem?_toArray, List.getElem?_cons_succ, List.getElem?_cons_zero] at a0 a1 a2 a3 a4 a5 a6 a7 a8 a9 a10 a11 a12 a13
  have t0 := HK0.cell 0
  have t1 := HK0.cell 1
  have t2 := HK0.cell 2
  have t3 := HK0.cell 3
  simp only [List.getElem?_toArray, List.getElem?_cons_succ, List.getElem?_cons_zero] at t0 t1 t2 t3
  clear HK0 HX0 hT hI hs hE hd hn
  show Calls _ _ #[.agg #[.int .i64 (T.n : Int), .slice X.A T.A.length X.ca, .slice X.E T.E.length X.ce, .slice X.M T.M.length X.cm], .agg #[.int .u8 x.k.toNat, .int .u8 x.a.l.toNat, .string ⟨x.a.d.toArray⟩, .string ⟨x.a.n.toArray⟩, .int .u16 x.a.v.toNat, .int .u8 x.a.i.toNat, .slice B x.a.m.length c, .int .i64 x.e.a, .int .u16 x.e.m.toNat, .int .u8 x.e.p.toNat, .bool x.e.u, .int .u8 x.m.p.toNat, .int .u16 x.m.v.toNat, .int .u8 x.m.l.toNat]] _ _
  by_cases h0 : x.k = 0
  · have HX : Hid (T.act x = ((T.addE x.e).1, 0, (T.addE x.e).2)) := Lib.hid (by unfold Tb.act; rw [if_pos h0])
    have q0 : ((x.k.toNat : Int) == 0) = true := by rw [h0]; rfl
    clear h0
    go_enter Try.func10, Try.ntmps10
    go_wp2_with fail
    refine (refadde16_any T X x.e _ HT0.out HI.out HS.out.1 HS.out.2.1 HS.out.2.2).mono ?_
    rintro r w1 ⟨X', rfl, hT1, hb1⟩
    have HB1 : Hid (Below w.heap.size w w1) := Lib.hid (HB0.out.trans (hb1.mono HB0.out.size))
    have HR1 := Lib.hid (HR0.out.below hb1 HR0.out.lt)
    have HT1 := Lib.hid hT1
    clear hb1 hT1 HB0 HR0 a0 a1 a2 a3 a4 a5 a6 a7 a8 a9 a10 a11 a12 a13 t0 t1 t2 t3
    obtain ⟨T1, hT1⟩ : ∃ T1, (T.addE x.e).1 = T1 := ⟨_, rfl⟩
    have HX1 : Hid (T.act x = (T1, 0, (T.addE x.e).2)) := Lib.hid (by rw [HX.out, hT1])
    rw [hT1] at HT1
    have HB2 : Hid (Below w.heap.size w (w1.alloc (.cells #[.int .i64 ((T1).n : Int), .slice X'.A (T1).A.length X'.ca, .slice X'.E (T1).E.length X'.ce, .slice X'.M (T1).M.length X'.cm] 34))) := Lib.hid (HB1.out.alloc HB1.out.size _)
    have HR2 : Hid (Blk (w1.alloc (.cells #[.int .i64 ((T1).n : Int), .slice X'.A (T1).A.length X'.ca, .slice X'.E (T1).E.length X'.ce, .slice X'.M (T1).M.length X'.cm] 34)) (w.heap.size + 2) 34 #[.int .i64 0, .slice none 0 0, .slice none 0 0, .slice none 0 0]) := Lib.hid (HR1.out.alloc _)
    have HT2 : Hid (TbD (w1.alloc (.cells #[.int .i64 ((T1).n : Int), .slice X'.A (T1).A.length X'.ca, .slice X'.E (T1).E.length X'.ce, .slice X'.M (T1).M.length X'.cm] 34)) T1 X') := Lib.hid (HT1.out.next ((Below.refl _ _).alloc (Nat.le_refl _) _))
    have HG2 := Blk.new w1 34 #[.int .i64 ((T1).n : Int), .slice X'.A (T1).A.length X'.ca, .slice X'.E (T1).E.length X'.ce, .slice X'.M (T1).M.length X'.cm]
    have g0 := HG2.cell 0
    have g1 := HG2.cell 1
    have g2 := HG2.cell 2
    have g3 := HG2.cell 3
    simp only [List.getElem?_toArray, List.getElem?_cons_succ, List.getElem?_cons_zero] at  g0 g1 g2 g3
    clear HG2 HB1 HR1 HT1
    simp only [TbC, hT1]
    clear hT1
    go_wp2_with (refine wpList_store_row rfl 34 (.tmp 4) (.tmp 26) rfl (w.heap.size + 2) rfl _ rfl 34 _ HR2.out (by kernel_rfl) rfl (by kernel_rfl) ?_)
    refine bodyPost_ret (v := .tuple #[.agg #[.int .i64 ((T1).n : Int), .slice X'.A (T1).A.length X'.ca, .slice X'.E (T1).E.length X'.ce, .slice X'.M (T1).M.length X'.cm], .int .i64 0, .int .i64 (((T.addE x.e).2 : Nat) : Int)]) (results_cell_two (p := 4) (q := 5) (r := 6) (by kernel_rfl) _ _ (w.heap.size + 2) 34 _ _ rfl (Blk.row HR2.out _) Try.underlying34 rfl (by kernel_rfl) _ rfl _ rfl) rfl ?_
    exact ⟨X', by rw [HX1.out]; try rfl, by rw [HX1.out]; exact tbd_set HT2.out HR2.out, below_row HB2.out (by omega) _⟩
  by_cases h1 : x.k = 1
  · have HX : Hid (T.act x = ((T.dropE x.e.a x.e.m).1, 0, (T.dropE x.e.a x.e.m).2)) := Lib.hid (by unfold Tb.act; rw [if_neg h0, if_pos h1])
    have q0 : ((x.k.toNat : Int) == 0) = false := by rw [h1]; rfl
    have q1 : ((x.k.toNat : Int) == 1) = true := by rw [h1]; rfl
    clear h0 h1
    go_enter Try.func10, Try.ntmps10
    go_wp2_with fail
    refine (refdrope16_any T X x.e.a x.e.m _ HT0.out HS.out.2.1).mono ?_
    rintro r w1 ⟨X', rfl, hT1, hb1⟩
    have HB1 : Hid (Below w.heap.size w w1) := Lib.hid (HB0.out.trans (hb1.mono HB0.out.size))
    have HR1 := Lib.hid (HR0.out.below hb1 HR0.out.lt)
    have HT1 := Lib.hid hT1
    clear hb1 hT1 HB0 HR0 a0 a1 a2 a3 a4 a5 a6 a7 a8 a9 a10 a11 a12 a13 t0 t1 t2 t3
    obtain ⟨T1, hT1⟩ : ∃ T1, (T.dropE x.e.a x.e.m).1 = T1 := ⟨_, rfl⟩
    have HX1 : Hid (T.act x = (T1, 0, (T.dropE x.e.a x.e.m).2)) := Lib.hid (by rw [HX.out, hT1])
    rw [hT1] at HT1
    have HB2 : Hid (Below w.heap.size w (w1.alloc (.cells #[.int .i64 ((T1).n : Int), .slice X'.A (T1).A.length X'.ca, .slice X'.E (T1).E.length X'.ce, .slice X'.M (T1).M.length X'.cm] 34))) := Lib.hid (HB1.out.alloc HB1.out.size _)
    have HR2 : Hid (Blk (w1.alloc (.cells #[.int .i64 ((T1).n : Int), .slice X'.A (T1).A.length X'.ca, .slice X'.E (T1).E.length X'.ce, .slice X'.M (T1).M.length X'.cm] 34)) (w.heap.size + 2) 34 #[.int .i64 0, .slice none 0 0, .slice none 0 0, .slice none 0 0]) := Lib.hid (HR1.out.alloc _)
    have HT2 : Hid (TbD (w1.alloc (.cells #[.int .i64 ((T1).n : Int), .slice X'.A (T1).A.length X'.ca, .slice X'.E (T1).E.length X'.ce, .slice X'.M (T1).M.length X'.cm] 34)) T1 X') := Lib.hid (HT1.out.next ((Below.refl _ _).alloc (Nat.le_refl _) _))
    have HG2 := Blk.new w1 34 #[.int .i64 ((T1).n : Int), .slice X'.A (T1).A.length X'.ca, .slice X'.E (T1).E.length X'.ce, .slice X'.M (T1).M.length X'.cm]
    have g0 := HG2.cell 0
    have g1 := HG2.cell 1
    have g2 := HG2.cell 2
    have g3 := HG2.cell 3
    simp only [List.getElem?_toArray, List.getElem?_cons_succ, List.getElem?_cons_zero] at  g0 g1 g2 g3
    clear HG2 HB1 HR1 HT1
    simp only [TbC, hT1]
    clear hT1
    go_wp2_with (refine wpList_store_row rfl 34 (.tmp 4) (.tmp 41) rfl (w.heap.size + 2) rfl _ rfl 34 _ HR2.out (by kernel_rfl) rfl (by kernel_rfl) ?_)
    refine bodyPost_ret (v := .tuple #[.agg #[.int .i64 ((T1).n : Int), .slice X'.A (T1).A.length X'.ca, .slice X'.E (T1).E.length X'.ce, .slice X'.M (T1).M.length X'.cm], .int .i64 0, .int .i64 (((T.dropE x.e.a x.e.m).2 : Nat) : Int)]) (results_cell_two (p := 4) (q := 5) (r := 6) (by kernel_rfl) _ _ (w.heap.size + 2) 34 _ _ rfl (Blk.row HR2.out _) Try.underlying34 rfl (by kernel_rfl) _ rfl _ rfl) rfl ?_
    exact ⟨X', by rw [HX1.out]; try rfl, by rw [HX1.out]; exact tbd_set HT2.out HR2.out, below_row HB2.out (by omega) _⟩
  by_cases h2 : x.k = 2
  · have HX : Hid (T.act x = ((T.addM x.m).1, 0, (T.addM x.m).2)) := Lib.hid (by unfold Tb.act; rw [if_neg h0, if_neg h1, if_pos h2])
    have q0 : ((x.k.toNat : Int) == 0) = false := by rw [h2]; rfl
    have q1 : ((x.k.toNat : Int) == 1) = false := by rw [h2]; rfl
    have q2 : ((x.k.toNat : Int) == 2) = true := by rw [h2]; rfl
    clear h0 h1 h2
    go_enter Try.func10, Try.ntmps10
    go_wp2_with fail
    refine (refaddm16_any T X x.m _ HT0.out HI.out HS.out.1 HS.out.2.1 HS.out.2.2).mono ?_
    rintro r w1 ⟨X', rfl, hT1, hb1⟩
    have HB1 : Hid (Below w.heap.size w w1) := Lib.hid (HB0.out.trans (hb1.mono HB0.out.size))
    have HR1 := Lib.hid (HR0.out.below hb1 HR0.out.lt)
    have HT1 := Lib.hid hT1
    clear hb1 hT1 HB0 HR0 a0 a1 a2 a3 a4 a5 a6 a7 a8 a9 a10 a11 a12 a13 t0 t1 t2 t3
    obtain ⟨T1, hT1⟩ : ∃ T1, (T.addM x.m).1 = T1 := ⟨_, rfl⟩
    have HX1 : Hid (T.act x = (T1, 0, (T.addM x.m).2)) := Lib.hid (by rw [HX.out, hT1])
    rw [hT1] at HT1
    have HB2 : Hid (Below w.heap.size w (w1.alloc (.cells #[.int .i64 ((T1).n : Int), .slice X'.A (T1).A.length X'.ca, .slice X'.E (T1).E.length X'.ce, .slice X'.M (T1).M.length X'.cm] 34))) := Lib.hid (HB1.out.alloc HB1.out.size _)
    have HR2 : Hid (Blk (w1.alloc (.cells #[.int .i64 ((T1).n : Int), .slice X'.A (T1).A.length X'.ca, .slice X'.E (T1).E.length X'.ce, .slice X'.M (T1).M.length X'.cm] 34)) (w.heap.size + 2) 34 #[.int .i64 0, .slice none 0 0, .slice none 0 0, .slice none 0 0]) := Lib.hid (HR1.out.alloc _)
    have HT2 : Hid (TbD (w1.alloc (.cells #[.int .i64 ((T1).n : Int), .slice X'.A (T1).A.length X'.ca, .slice X'.E (T1).E.length X'.ce, .slice X'.M (T1).M.length X'.cm] 34)) T1 X') := Lib.hid (HT1.out.next ((Below.refl _ _).alloc (Nat.le_refl _) _))
    have HG2 := Blk.new w1 34 #[.int .i64 ((T1).n : Int), .slice X'.A (T1).A.length X'.ca, .slice X'.E (T1).E.length X'.ce, .slice X'.M (T1).M.length X'.cm]
    have g0 := HG2.cell 0
    have g1 := HG2.cell 1
    have g2 := HG2.cell 2
    have g3 := HG2.cell 3
    simp only [List.getElem?_toArray, List.getElem?_cons_succ, List.getElem?_cons_zero] at  g0 g1 g2 g3
    clear HG2 HB1 HR1 HT1
    simp only [TbC, hT1]
    clear hT1
    go_wp2_with (refine wpList_store_row rfl 34 (.tmp 4) (.tmp 52) rfl (w.heap.size + 2) rfl _ rfl 34 _ HR2.out (by kernel_rfl) rfl (by kernel_rfl) ?_)
    refine bodyPost_ret (v := .tuple #[.agg #[.int .i64 ((T1).n : Int), .slice X'.A (T1).A.length X'.ca, .slice X'.E (T1).E.length X'.ce, .slice X'.M (T1).M.length X'.cm], .int .i64 0, .int .i64 (((T.addM x.m).2 : Nat) : Int)]) (results_cell_two (p := 4) (q := 5) (r := 6) (by kernel_rfl) _ _ (w.heap.size + 2) 34 _ _ rfl (Blk.row HR2.out _) Try.underlying34 rfl (by kernel_rfl) _ rfl _ rfl) rfl ?_
    exact ⟨X', by rw [HX1.out]; try rfl, by rw [HX1.out]; exact tbd_set HT2.out HR2.out, below_row HB2.out (by omega) _⟩
  by_cases h3 : x.k = 3
  · have HX : Hid (T.act x = ((T.dropM x.m.p x.m.v).1, 0, (T.dropM x.m.p x.m.v).2)) := Lib.hid (by unfold Tb.act; rw [if_neg h0, if_neg h1, if_neg h2, if_pos h3])
    have q0 : ((x.k.toNat : Int) == 0) = false := by rw [h3]; rfl
    have q1 : ((x.k.toNat : Int) == 1) = false := by rw [h3]; rfl
    have q2 : ((x.k.toNat : Int) == 2) = false := by rw [h3]; rfl
    have q3 : ((x.k.toNat : Int) == 3) = true := by rw [h3]; rfl
    clear h0 h1 h2 h3
    go_enter Try.func10, Try.ntmps10
    go_wp2_with fail
    refine (refdropm16_any T X x.m.p x.m.v _ HT0.out HS.out.2.2).mono ?_
    rintro r w1 ⟨X', rfl, hT1, hb1⟩
    have HB1 : Hid (Below w.heap.size w w1) := Lib.hid (HB0.out.trans (hb1.mono HB0.out.size))
    have HR1 := Lib.hid (HR0.out.below hb1 HR0.out.lt)
    have HT1 := Lib.hid hT1
    clear hb1 hT1 HB0 HR0 a0 a1 a2 a3 a4 a5 a6 a7 a8 a9 a10 a11 a12 a13 t0 t1 t2 t3
    obtain ⟨T1, hT1⟩ : ∃ T1, (T.dropM x.m.p x.m.v).1 = T1 := ⟨_, rfl⟩
    have HX1 : Hid (T.act x = (T1, 0, (T.dropM x.m.p x.m.v).2)) := Lib.hid (by rw [HX.out, hT1])
    rw [hT1] at HT1
    have HB2 : Hid (Below w.heap.size w (w1.alloc (.cells #[.int .i64 ((T1).n : Int), .slice X'.A (T1).A.length X'.ca, .slice X'.E (T1).E.length X'.ce, .slice X'.M (T1).M.length X'.cm] 34))) := Lib.hid (HB1.out.alloc HB1.out.size _)
    have HR2 : Hid (Blk (w1.alloc (.cells #[.int .i64 ((T1).n : Int), .slice X'.A (T1).A.length X'.ca, .slice X'.E (T1).E.length X'.ce, .slice X'.M (T1).M.length X'.cm] 34)) (w.heap.size + 2) 34 #[.int .i64 0, .slice none 0 0, .slice none 0 0, .slice none 0 0]) := Lib.hid (HR1.out.alloc _)
    have HT2 : Hid (TbD (w1.alloc (.cells #[.int .i64 ((T1).n : Int), .slice X'.A (T1).A.length X'.ca, .slice X'.E (T1).E.length X'.ce, .slice X'.M (T1).M.length X'.cm] 34)) T1 X') := Lib.hid (HT1.out.next ((Below.refl _ _).alloc (Nat.le_refl _) _))
    have HG2 := Blk.new w1 34 #[.int .i64 ((T1).n : Int), .slice X'.A (T1).A.length X'.ca, .slice X'.E (T1).E.length X'.ce, .slice X'.M (T1).M.length X'.cm]
    have g0 := HG2.cell 0
    have g1 := HG2.cell 1
    have g2 := HG2.cell 2
    have g3 := HG2.cell 3
    simp only [List.getElem?_toArray, List.getElem?_cons_succ, List.getElem?_cons_zero] at  g0 g1 g2 g3
    clear HG2 HB1 HR1 HT1
    simp only [TbC, hT1]
    clear hT1
    go_wp2_with (refine wpList_store_row rfl 34 (.tmp 4) (.tmp 67) rfl (w.heap.size + 2) rfl _ rfl 34 _ HR2.out (by kernel_rfl) rfl (by kernel_rfl) ?_)
    refine bodyPost_ret (v := .tuple #[.agg #[.int .i64 ((T1).n : Int), .slice X'.A (T1).A.length X'.ca, .slice X'.E (T1).E.length X'.ce, .slice X'.M (T1).M.length X'.cm], .int .i64 0, .int .i64 (((T.dropM x.m.p x.m.v).2 : Nat) : Int)]) (results_cell_two (p := 4) (q := 5) (r := 6) (by kernel_rfl) _ _ (w.heap.size + 2) 34 _ _ rfl (Blk.row HR2.out _) Try.underlying34 rfl (by kernel_rfl) _ rfl _ rfl) rfl ?_
    exact ⟨X', by rw [HX1.out]; try rfl, by rw [HX1.out]; exact tbd_set HT2.out HR2.out, below_row HB2.out (by omega) _⟩
  · have HX : Hid (T.act x = T.addA x.a) := Lib.hid (by unfold Tb.act; rw [if_neg h0, if_neg h1, if_neg h2, if_neg h3])
    have q0 : ((x.k.toNat : Int) == 0) = false := u8_ne (b := 0) h0
    have q1 : ((x.k.toNat : Int) == 1) = false := u8_ne (b := 1) h1
    have q2 : ((x.k.toNat : Int) == 2) = false := u8_ne (b := 2) h2
    have q3 : ((x.k.toNat : Int) == 3) = false := u8_ne (b := 3) h3
    clear h0 h1 h2 h3
    go_enter Try.func10, Try.ntmps10
    go_wp2_with fail
    refine (refadda16_any T X x.a B c _ HT0.out HI.out HS.out.1 HS.out.2.1 HS.out.2.2 HE0.out HDN.out.1 HDN.out.2).mono ?_
    rintro r w1 ⟨X', rfl, hT1, hb1⟩
    have HB1 : Hid (Below w.heap.size w w1) := Lib.hid (HB0.out.trans (hb1.mono HB0.out.size))
    have HR1 := Lib.hid (HR0.out.below hb1 HR0.out.lt)
    have HT1 := Lib.hid hT1
    clear hb1 hT1 HB0 HR0 a0 a1 a2 a3 a4 a5 a6 a7 a8 a9 a10 a11 a12 a13 t0 t1 t2 t3
    obtain ⟨T1, hT1⟩ : ∃ T1, (T.addA x.a).1 = T1 := ⟨_, rfl⟩
    obtain ⟨n1, hn1⟩ : ∃ n, (T.addA x.a).2.1 = n := ⟨_, rfl⟩
    obtain ⟨n2, hn2⟩ : ∃ n, (T.addA x.a).2.2 = n := ⟨_, rfl⟩
    have HX1 : Hid (T.act x = (T1, n1, n2)) := Lib.hid (by rw [HX.out, ← hT1, ← hn1, ← hn2])
    rw [hT1] at HT1
    simp only [TbC, hT1, hn1, hn2]
    clear hT1 hn1 hn2
    go_wp2_with (refine wpList_store_row rfl 34 (.tmp 4) (.tmp 73) rfl (w.heap.size + 2) rfl _ rfl 34 _ HR1.out (by kernel_rfl) rfl (by kernel_rfl) ?_)
    refine bodyPost_ret (v := .tuple #[.agg #[.int .i64 ((T1).n : Int), .slice X'.A (T1).A.length X'.ca, .slice X'.E (T1).E.length X'.ce, .slice X'.M (T1).M.length X'.cm], .int .i64 (n1 : Nat), .int .i64 (n2 : Nat)]) (results_cell_two (p := 4) (q := 5) (r := 6) (by kernel_rfl) _ _ (w.heap.size + 2) 34 _ _ rfl (Blk.row HR1.out _) Try.underlying34 rfl (by kernel_rfl) _ rfl _ rfl) rfl ?_
    exact ⟨X', by rw [HX1.out]; try rfl, by rw [HX1.out]; exact tbd_set HT1.out HR1.out, below_row HB1.out (by omega) _⟩
end Go.Proofs.Ytfdiolfelecccaa
