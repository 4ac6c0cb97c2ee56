/- Package frame: how an address is read. -/
import Derived.Test.YtlghibgljmpfoaaMacNum
import Derived.Test.YtlghibgljmpfoaaFrameImpl
namespace Go.Proofs.Ytlghibgljmpfoaa
open Go.RowKit
set_option linter.unusedVariables false
set_option linter.unusedSimpArgs false

theorem Rdr.lt {w : World} {b : Nat} {l : List UInt8} {er : Int} (h : Rdr w b l er) : b < w.heap.size := Blk.lt h
/-- what changed besides is new -/
theorem Chg.trans' {S : Nat → Prop} {w w' w'' : World} {g : Nat} (h : Chg S w w') (h' : Chg (only g) w' w'') (hg : w.heap.size ≤ g) : Chg S w w'' :=
  ⟨h'.os.trans h.os, h'.tape.trans h.tape, h'.output.trans h.output, Nat.le_trans h.size h'.size,
   fun k hk hn => (h'.block k (Nat.lt_of_lt_of_le hk h.size) (by unfold only; omega)).trans (h.block k hk hn)⟩
theorem put6_far {w : World} {g b : Nat} {l : List UInt8} {er : Int} (h : Rdr w b l er) (hg : b ≠ g) (v0 v1 v2 v3 v4 v5 : Value) :
    Rdr ((((((w.setCell ⟨g, 0, none⟩ v0).setCell ⟨g, 1, none⟩ v1).setCell ⟨g, 2, none⟩ v2).setCell ⟨g, 3, none⟩ v3).setCell ⟨g, 4, none⟩ v4).setCell ⟨g, 5, none⟩ v5) b l er :=
  Blk.far (Blk.far (Blk.far (Blk.far (Blk.far (Blk.far h hg _) hg _) hg _) hg _) hg _) hg _
theorem put6_chg {S : Nat → Prop} {w w' : World} {g : Nat} (h : Chg S w w') (hg : w.heap.size ≤ g) (v0 v1 v2 v3 v4 v5 : Value) :
    Chg S w ((((((w'.setCell ⟨g, 0, none⟩ v0).setCell ⟨g, 1, none⟩ v1).setCell ⟨g, 2, none⟩ v2).setCell ⟨g, 3, none⟩ v3).setCell ⟨g, 4, none⟩ v4).setCell ⟨g, 5, none⟩ v5) :=
  (((((h.setCell (.inl hg) _).setCell (.inl hg) _).setCell (.inl hg) _).setCell (.inl hg) _).setCell (.inl hg) _).setCell (.inl hg) _
/-- copying an empty text -/
theorem step_copy_none {ops : Array Oper} {o : Oper} {a : Act} {w : World} {K : Act → World → Prop} {Q : Exit → Act → World → Prop} {E : Prop}
    (hg : o.guard = none) (d x : Operand) (hop : o.op = Op.call { callee := Callee.builtin Builtin.copy, args := #[d, x], argTypes := #[36, 9] })
    (b : Nat) (hd : a.eval d = .slice (some ⟨b, 0, none⟩) 6 6) (hx : a.eval x = .string ⟨#[]⟩)
    (hK : K (a.put o.dst (goInt 0)) w) :
    if Region.wanted o (yielded ops a.tmps) = true then Oper.wp Try.prog o a w K Q else E := by
  refine step_copy_string hg d x 36 9 hop 5 Try.underlying36 Try.sizeOf5 b 0 6 6 hd ⟨#[]⟩ hx (Nat.zero_le 6) ?_ ?_ ?_
  · intro j hj
    exact absurd hj (Nat.not_lt_zero _)
  · intro j hj
    exact absurd hj (Nat.not_lt_zero _)
  · exact hK
set_option maxHeartbeats 1000000 in
theorem addr_of {w : World} {q c : Nat} {b : Nat} {l : List UInt8} {er : Int} (hp : w.cell? ⟨q, c, none⟩ = some (.pointer (some ⟨b, 0, none⟩))) (h : Rdr w b l er) (x0 x1 x2 x3 x4 x5 : UInt8) (hv : tkV 6 l er = [x0, x1, x2, x3, x4, x5]) :
    Calls Try.prog 22 #[.pointer (some ⟨q, c, none⟩)] w fun r w' => r = .returned (MA x0 x1 x2 x3 x4 x5) ∧ Rdr w' b (tkL 6 l er) (tkE 6 l er) ∧ Chg (only b) w w' := by
  have hbl : b < w.heap.size := h.lt
  have hql := World.block_lt_of_cell? w _ hp
  have hq0 : ((w.alloc (.cells #[.int .u8 0, .int .u8 0, .int .u8 0, .int .u8 0, .int .u8 0, .int .u8 0] 23)).alloc (.cells #[.int .u8 0, .int .u8 0, .int .u8 0, .int .u8 0, .int .u8 0, .int .u8 0] 23)).drew.cell? ⟨q, c, none⟩ = some (.pointer (some ⟨b, 0, none⟩)) := by
    rw [show ((w.alloc (.cells #[.int .u8 0, .int .u8 0, .int .u8 0, .int .u8 0, .int .u8 0, .int .u8 0] 23)).alloc (.cells #[.int .u8 0, .int .u8 0, .int .u8 0, .int .u8 0, .int .u8 0, .int .u8 0] 23)).drew.cell? ⟨q, c, none⟩ = w.cell? ⟨q, c, none⟩ from (((Below.refl w.heap.size w).alloc (Nat.le_refl _) _).alloc (by simp) _).drew.cell (p := ⟨q, c, none⟩) hql]
    exact hp
  have HRR : Hid (Rdr (((w.alloc (.cells #[.int .u8 0, .int .u8 0, .int .u8 0, .int .u8 0, .int .u8 0, .int .u8 0] 23)).alloc (.cells #[.int .u8 0, .int .u8 0, .int .u8 0, .int .u8 0, .int .u8 0, .int .u8 0] 23)).drew) b l er) := Lib.hid (Blk.drew (Blk.alloc (Blk.alloc h _) _))
  have HMM : Hid (Arr (((w.alloc (.cells #[.int .u8 0, .int .u8 0, .int .u8 0, .int .u8 0, .int .u8 0, .int .u8 0] 23)).alloc (.cells #[.int .u8 0, .int .u8 0, .int .u8 0, .int .u8 0, .int .u8 0, .int .u8 0] 23)).drew) (w.heap.size + 1) 0 0 0 0 0 0) := Lib.hid (by have := Arr.zero (w.alloc (.cells #[.int .u8 0, .int .u8 0, .int .u8 0, .int .u8 0, .int .u8 0, .int .u8 0] 23)); simp only [World.size_alloc] at this; exact this.drew)
  have HAA : Hid (Arr (((w.alloc (.cells #[.int .u8 0, .int .u8 0, .int .u8 0, .int .u8 0, .int .u8 0, .int .u8 0] 23)).alloc (.cells #[.int .u8 0, .int .u8 0, .int .u8 0, .int .u8 0, .int .u8 0, .int .u8 0] 23)).drew) w.heap.size 0 0 0 0 0 0) := Lib.hid (Arr.drew ((Arr.zero w).alloc _))
  have HCC : Hid (Chg (only b) w (((w.alloc (.cells #[.int .u8 0, .int .u8 0, .int .u8 0, .int .u8 0, .int .u8 0, .int .u8 0] 23)).alloc (.cells #[.int .u8 0, .int .u8 0, .int .u8 0, .int .u8 0, .int .u8 0, .int .u8 0] 23)).drew)) := Lib.hid (((Chg.refl (only b) w).alloc _).alloc _).drew
  have HV := Lib.hid hv
  clear h hv
  go_enter Try.func22, Try.ntmps22
  go_wp2_with fail
  go_region_law (first
    | (refine step_copy_mac rfl (.tmp 3) (.tmp 5) rfl (w.heap.size + 1) (by simp [Act.eval, Act.put]) x0 x1 x2 x3 x4 x5 (by simp [Act.eval, Act.put]) 0 0 0 0 0 0 HM5.out ?_; intro w6 hm6 hc6; have HM6 := Lib.hid hm6; have HA6 : Hid (Arr w6 w.heap.size 0 0 0 0 0 0) := Lib.hid (Blk.chg HA5.out hc6 (by unfold only; omega)); have HR6 : Hid (Rdr w6 b (tkL 6 l er) (tkE 6 l er)) := Lib.hid (Blk.chg HR5.out hc6 (by unfold only; omega)); have HC6 : Hid (Chg (only b) w w6) := Lib.hid (HC5.out.trans' hc6 (by omega)); clear hm6 hc6)
    | (go_simp; go_at_call 23; refine (text_any 6 HRR.out).mono ?_; rw [show (6 : Int).toNat = 6 from rfl, HV.out]; rintro r w5 ⟨rfl, hr5, hc5⟩; have HR5 := Lib.hid hr5; have HM5 : Hid (Arr w5 (w.heap.size + 1) 0 0 0 0 0 0) := Lib.hid (Blk.chg HMM.out hc5 (by unfold only; omega)); have HA5 : Hid (Arr w5 w.heap.size 0 0 0 0 0 0) := Lib.hid (Blk.chg HAA.out hc5 (by unfold only; omega)); have HC5 : Hid (Chg (only b) w w5) := Lib.hid (HCC.out.trans hc5); clear hr5 hc5))
  all_goals (
    have ha := HA6.out
    have hm := HM6.out
    obtain ⟨f0, f1, f2, f3, f4, f5⟩ := ha.frozens
    obtain ⟨c0, c1, c2, c3, c4, c5⟩ := ha.cells
    obtain ⟨d0, d1, d2, d3, d4, d5⟩ := hm.cells
    clear ha hm hp hq0
    go_wp2
    exact bodyPost_ret (v := MA x0 x1 x2 x3 x4 x5) (by simp [results, Try.results22, go_sem, c0, c1, c2, c3, c4, c5]) rfl ⟨rfl, put6_far HR6.out (by omega) _ _ _ _ _ _, put6_chg HC6.out (Nat.le_refl _) _ _ _ _ _ _⟩)

set_option maxHeartbeats 1000000 in
theorem addr_no {w : World} {q c : Nat} {b : Nat} {l : List UInt8} {er : Int} (hp : w.cell? ⟨q, c, none⟩ = some (.pointer (some ⟨b, 0, none⟩))) (h : Rdr w b l er) (hv : tkV 6 l er = []) :
    Calls Try.prog 22 #[.pointer (some ⟨q, c, none⟩)] w fun r w' => r = .returned (MA 0 0 0 0 0 0) ∧ Rdr w' b (tkL 6 l er) (tkE 6 l er) ∧ Chg (only b) w w' := by
  have hbl : b < w.heap.size := h.lt
  have hql := World.block_lt_of_cell? w _ hp
  have hq0 : ((w.alloc (.cells #[.int .u8 0, .int .u8 0, .int .u8 0, .int .u8 0, .int .u8 0, .int .u8 0] 23)).alloc (.cells #[.int .u8 0, .int .u8 0, .int .u8 0, .int .u8 0, .int .u8 0, .int .u8 0] 23)).drew.cell? ⟨q, c, none⟩ = some (.pointer (some ⟨b, 0, none⟩)) := by
    rw [show ((w.alloc (.cells #[.int .u8 0, .int .u8 0, .int .u8 0, .int .u8 0, .int .u8 0, .int .u8 0] 23)).alloc (.cells #[.int .u8 0, .int .u8 0, .int .u8 0, .int .u8 0, .int .u8 0, .int .u8 0] 23)).drew.cell? ⟨q, c, none⟩ = w.cell? ⟨q, c, none⟩ from (((Below.refl w.heap.size w).alloc (Nat.le_refl _) _).alloc (by simp) _).drew.cell (p := ⟨q, c, none⟩) hql]
    exact hp
  have HRR : Hid (Rdr (((w.alloc (.cells #[.int .u8 0, .int .u8 0, .int .u8 0, .int .u8 0, .int .u8 0, .int .u8 0] 23)).alloc (.cells #[.int .u8 0, .int .u8 0, .int .u8 0, .int .u8 0, .int .u8 0, .int .u8 0] 23)).drew) b l er) := Lib.hid (Blk.drew (Blk.alloc (Blk.alloc h _) _))
  have HMM : Hid (Arr (((w.alloc (.cells #[.int .u8 0, .int .u8 0, .int .u8 0, .int .u8 0, .int .u8 0, .int .u8 0] 23)).alloc (.cells #[.int .u8 0, .int .u8 0, .int .u8 0, .int .u8 0, .int .u8 0, .int .u8 0] 23)).drew) (w.heap.size + 1) 0 0 0 0 0 0) := Lib.hid (by have := Arr.zero (w.alloc (.cells #[.int .u8 0, .int .u8 0, .int .u8 0, .int .u8 0, .int .u8 0, .int .u8 0] 23)); simp only [World.size_alloc] at this; exact this.drew)
  have HAA : Hid (Arr (((w.alloc (.cells #[.int .u8 0, .int .u8 0, .int .u8 0, .int .u8 0, .int .u8 0, .int .u8 0] 23)).alloc (.cells #[.int .u8 0, .int .u8 0, .int .u8 0, .int .u8 0, .int .u8 0, .int .u8 0] 23)).drew) w.heap.size 0 0 0 0 0 0) := Lib.hid (Arr.drew ((Arr.zero w).alloc _))
  have HCC : Hid (Chg (only b) w (((w.alloc (.cells #[.int .u8 0, .int .u8 0, .int .u8 0, .int .u8 0, .int .u8 0, .int .u8 0] 23)).alloc (.cells #[.int .u8 0, .int .u8 0, .int .u8 0, .int .u8 0, .int .u8 0, .int .u8 0] 23)).drew)) := Lib.hid (((Chg.refl (only b) w).alloc _).alloc _).drew
  have HV := Lib.hid hv
  clear h hv
  go_enter Try.func22, Try.ntmps22
  go_wp2_with fail
  go_region_law (first
    | (refine step_copy_none rfl (.tmp 3) (.tmp 5) rfl (w.heap.size + 1) (by simp [Act.eval, Act.put]) (by simp [Act.eval, Act.put]) ?_; have HM6 := HM5; have HA6 := HA5; have HR6 := HR5; have HC6 := HC5)
    | (go_simp; go_at_call 23; refine (text_any 6 HRR.out).mono ?_; rw [show (6 : Int).toNat = 6 from rfl, HV.out]; rintro r w5 ⟨rfl, hr5, hc5⟩; have HR5 := Lib.hid hr5; have HM5 : Hid (Arr w5 (w.heap.size + 1) 0 0 0 0 0 0) := Lib.hid (Blk.chg HMM.out hc5 (by unfold only; omega)); have HA5 : Hid (Arr w5 w.heap.size 0 0 0 0 0 0) := Lib.hid (Blk.chg HAA.out hc5 (by unfold only; omega)); have HC5 : Hid (Chg (only b) w w5) := Lib.hid (HCC.out.trans hc5); clear hr5 hc5))
  all_goals (
    have ha := HA6.out
    have hm := HM6.out
    obtain ⟨f0, f1, f2, f3, f4, f5⟩ := ha.frozens
    obtain ⟨c0, c1, c2, c3, c4, c5⟩ := ha.cells
    obtain ⟨d0, d1, d2, d3, d4, d5⟩ := hm.cells
    clear ha hm hp hq0
    go_wp2
    exact bodyPost_ret (v := MA 0 0 0 0 0 0) (by simp [results, Try.results22, go_sem, c0, c1, c2, c3, c4, c5]) rfl ⟨rfl, put6_far HR6.out (by omega) _ _ _ _ _ _, put6_chg HC6.out (Nat.le_refl _) _ _ _ _ _ _⟩)

/-- byte k of an address that is read -/
def tk6 (l : List UInt8) (er : Int) (k : Nat) : UInt8 := (tkV 6 l er).getD k 0
theorem addr_any {w : World} {q c : Nat} {b : Nat} {l : List UInt8} {er : Int} (hp : w.cell? ⟨q, c, none⟩ = some (.pointer (some ⟨b, 0, none⟩))) (h : Rdr w b l er) :
    Calls Try.prog 22 #[.pointer (some ⟨q, c, none⟩)] w fun r w' => r = .returned (MA (tk6 l er 0) (tk6 l er 1) (tk6 l er 2) (tk6 l er 3) (tk6 l er 4) (tk6 l er 5)) ∧ Rdr w' b (tkL 6 l er) (tkE 6 l er) ∧ Chg (only b) w w' := by
  by_cases hv : er = 0 ∧ 6 ≤ l.length
  · obtain ⟨x0, l0, rfl, h0⟩ := cons_of 5 hv.2
    obtain ⟨x1, l1, rfl, h1⟩ := cons_of 4 h0
    obtain ⟨x2, l2, rfl, h2⟩ := cons_of 3 h1
    obtain ⟨x3, l3, rfl, h3⟩ := cons_of 2 h2
    obtain ⟨x4, l4, rfl, h4⟩ := cons_of 1 h3
    obtain ⟨x5, l5, rfl, h5⟩ := cons_of 0 h4
    have e : tkV 6 (x0 :: x1 :: x2 :: x3 :: x4 :: x5 :: l5) er = [x0, x1, x2, x3, x4, x5] := by unfold tkV; rw [if_pos hv]; rfl
    have := addr_of hp h x0 x1 x2 x3 x4 x5 e
    unfold tk6
    rw [e]
    exact this
  · have e : tkV 6 l er = [] := by unfold tkV; rw [if_neg hv]
    have := addr_no hp h e
    unfold tk6
    rw [e]
    exact this
end Go.Proofs.Ytlghibgljmpfoaa
