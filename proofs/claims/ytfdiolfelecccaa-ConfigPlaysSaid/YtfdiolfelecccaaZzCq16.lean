/- Layer 16: where a table's rows lie, behind a step of either side. -/
import Derived.Test.YtfdiolfelecccaaZzLs16
import Derived.Test.YtfdiolfelecccaaZzWk16
import Derived.Test.YtfdiolfelecccaaZzOpenAc
namespace Go.Proofs.Ytfdiolfelecccaa
open Go.RowKit
set_option linter.unusedVariables false
set_option linter.unusedSimpArgs false
set_option maxRecDepth 100000

theorem step_below {B : Nat} {S S' : Nat → Prop} {w0 w w' : World} (h : Below B w0 w) (hs : StepT S S' w w') (hB : B ≤ w0.heap.size) (hS : ∀ k, S k → B ≤ k) : Below B w0 w' :=
  h.trans (hs.chg.below (Nat.le_trans hB h.size) (fun k hk hk' => by have := hS k hk'; omega))
theorem grt_no {L : List AcX} (h : grt L = false) : L.length ≤ 60 ∧ ∀ y ∈ L, y.x.a.m.length ≤ 20 ∧ y.x.a.d.length ≤ 100 ∧ y.x.a.n.length ≤ 100 := by
  unfold grt at h
  rw [Bool.or_eq_false_iff] at h
  obtain ⟨h1, h2⟩ := h
  refine ⟨by simpa using h1, fun y hy => ?_⟩
  rw [List.any_eq_false] at h2
  have := h2 y hy
  unfold grA at this
  simp only [Bool.or_eq_true, decide_eq_true_eq, not_or] at this
  omega
/-- the document's rows lie below H, outside S; its lists of numbers below B -/
def SepX (H B : Nat) (S : Nat → Prop) (X : TbX) : Prop := (∀ a, X.A = some a → a.block < H ∧ ¬ S a.block) ∧ (∀ a, X.E = some a → a.block < H ∧ ¬ S a.block) ∧ (∀ a, X.M = some a → a.block < H ∧ ¬ S a.block) ∧ ∀ x ∈ X.LA, ∀ a, x.b = some a → a.block < B
theorem tbd_chg {w w' : World} {T : Tb} {X : TbX} {H B : Nat} {S : Nat → Prop} (h : TbD w T X) (hs : Chg S w w') (hx : SepX H B S X) (hS : ∀ k, S k → B ≤ k) : TbD w' T X :=
  ⟨h.la, elsL_chg h.ea hs (fun a ha => (hx.1 a ha).2), fun x hx' => elsL_chg (h.em x hx') hs (fun a ha k => by have := hx.2.2.2 x hx' a ha; have := hS _ k; omega), elsL_chg h.ee hs (fun a ha => (hx.2.1 a ha).2), elsL_chg h.mm hs (fun a ha => (hx.2.2.1 a ha).2), h.za, h.ze, h.zm⟩
theorem sep_mono {H H' B : Nat} {S S' : Nat → Prop} {X : TbX} (hx : SepX H B S X) (hH : H ≤ H') (hS : ∀ k, k < H → S' k → S k) : SepX H' B S' X :=
  ⟨fun a ha => ⟨Nat.lt_of_lt_of_le (hx.1 a ha).1 hH, fun h => (hx.1 a ha).2 (hS _ (hx.1 a ha).1 h)⟩, fun a ha => ⟨Nat.lt_of_lt_of_le (hx.2.1 a ha).1 hH, fun h => (hx.2.1 a ha).2 (hS _ (hx.2.1 a ha).1 h)⟩, fun a ha => ⟨Nat.lt_of_lt_of_le (hx.2.2.1 a ha).1 hH, fun h => (hx.2.2.1 a ha).2 (hS _ (hx.2.2.1 a ha).1 h)⟩, hx.2.2.2⟩
theorem sep_to {H H' B Bx : Nat} {S : Nat → Prop} {x0 : AsX} {X X' : TbX} (hx : SepX H B S X) (ht : XTo Bx H' x0 X X') (hH : H ≤ H') (hlt : ∀ k, S k → k < Bx) (h0 : x0 ∈ X'.LA → ∀ a, x0.b = some a → a.block < B) : SepX H' B S X' := by
  obtain ⟨h1, h2, h3, h4⟩ := ht
  have key : ∀ (A A' : Option Addr), (A' = A ∨ ∀ a, A' = some a → Bx ≤ a.block ∧ a.block < H') → (∀ a, A = some a → a.block < H ∧ ¬ S a.block) → ∀ a, A' = some a → a.block < H' ∧ ¬ S a.block := by
    rintro A A' (rfl | h) hA a ha
    · exact ⟨Nat.lt_of_lt_of_le (hA a ha).1 hH, (hA a ha).2⟩
    · exact ⟨(h a ha).2, fun hs => by have := hlt _ hs; have := (h a ha).1; omega⟩
  refine ⟨key _ _ h1 hx.1, key _ _ h2 hx.2.1, key _ _ h3 hx.2.2.1, fun x hm a ha => ?_⟩
  rcases h4 x hm with h | h
  · exact hx.2.2.2 x h a ha
  · subst h
    exact h0 hm a ha
/-- an association that was added has numbers: they lie where they came from -/
theorem new_at {w w' : World} {T : Tb} {X : TbX} {y : AcX} (hT : TbD w' T X) (hI : TbInv T) (hq : AcQ w y) (hm : AsX.mk y.x.a y.B y.c ∈ X.LA) : ∀ a, (AsX.mk y.x.a y.B y.c).b = some a → a.block < w.heap.size := by
  intro a ha
  have h1 : y.x.a ∈ T.A := by rw [← hT.la]; exact List.mem_map_of_mem (f := AsX.a) hm
  have h2 := (asM_head (hI.ass _ h1)).2.2.2.2.2.1
  obtain ⟨b, off, e, hlt, _⟩ := hq.1 h2
  have : y.B = some a := ha
  rw [e] at this
  cases this
  exact hlt
theorem els_offC {α : Type} {k : Nat} {enc : α → List Value} {w w' : World} {A : Option Addr} {l : List α} {g : Nat} {t : TypeId} {cs : Array Value} (j : Nat) (hj : ∀ x, ∃ u, (enc x)[j]? = some u ∧ ∀ i : Nat, cs[i]? ≠ some u) (h : Els k enc w A l) (hb : Blk w g t cs) (hc : Chg (fun q => q = g) w w') : Els k enc w' A l := by
  intro h0
  obtain ⟨b, off, e, hlt, hcell⟩ := h h0
  obtain ⟨u, hu, hno⟩ := hj l[0]
  have hg : b ≠ g := by
    rintro rfl
    have h1 := hcell 0 h0 j u hu
    rw [hb.cell] at h1
    exact hno _ h1
  refine elsL_chg (X := fun q => q = g) h hc (fun a ha hx => ?_) h0
  rw [e] at ha
  cases ha
  exact hg hx
theorem tbc_no8 (T : Tb) (X : TbX) (u : Int) (i : Nat) : (TbC T X)[i]? ≠ some (.int .u8 u) := by
  match i with
  | 0 => simp [TbC]
  | 1 => simp [TbC]
  | 2 => simp [TbC]
  | 3 => simp [TbC]
  | _ + 4 => simp [TbC]
theorem tbc_no16 (T : Tb) (X : TbX) (u : Int) (i : Nat) : (TbC T X)[i]? ≠ some (.int .u16 u) := by
  match i with
  | 0 => simp [TbC]
  | 1 => simp [TbC]
  | 2 => simp [TbC]
  | 3 => simp [TbC]
  | _ + 4 => simp [TbC]
/-- a table's own struct written over: another table's rows stay -/
theorem tbd_over {w w' : World} {T T0 : Tb} {X X0 : TbX} {g : Nat} (h : TbD w T X) (hb : Blk w g 34 (TbC T0 X0)) (hc : Chg (fun q => q = g) w w') : TbD w' T X :=
  ⟨h.la, els_offC 0 (fun x => ⟨_, rfl, tbc_no8 T0 X0 _⟩) h.ea hb hc, fun x hx => els_offC 0 (fun x => ⟨_, rfl, tbc_no16 T0 X0 _⟩) (h.em x hx) hb hc, els_offC 1 (fun x => ⟨_, rfl, tbc_no16 T0 X0 _⟩) h.ee hb hc, els_offC 0 (fun x => ⟨_, rfl, tbc_no8 T0 X0 _⟩) h.mm hb hc, h.za, h.ze, h.zm⟩
end Go.Proofs.Ytfdiolfelecccaa
