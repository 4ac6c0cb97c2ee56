/- Package queue: its contracts as one bundle. -/
import Derived.Test.YtofgdemkddbjeaaOwn
namespace Go.Proofs.Ytofgdemkddbjeaa
open Go.RowKit
set_option linter.unusedVariables false
set_option linter.unusedSimpArgs false
set_option maxRecDepth 100000

abbrev ptr (p : Nat) : Value := .pointer (some ⟨p, 0, none⟩)
/-- only block c may have changed -/
abbrev sole (c : Nat) : Nat → Prop := fun k => k = c
theorem drew_drewN (w : World) (m n : Nat) : (w.drewN m).drewN n = w.drewN (m + n) := by simp [World.drewN, Nat.add_assoc]
theorem drew_one (w : World) : w.drew = w.drewN 1 := rfl
theorem drew_zero (w : World) : w = w.drewN 0 := rfl
theorem Que.drewN {w : World} {p c cap : Nat} {t : TypeId} {L : List Value} (h : Que w p c t cap L) (n : Nat) : Que (w.drewN n) p c t cap L := ⟨h.blk, h.ch⟩

structure QueC (P : Program) (fNew fPush fPop fAll fLen fRoom : FuncId) (t : TypeId) (z : Value) (ok : Value → Prop) : Prop where
  newOk : ∀ w (n : Nat), 0 < n → n ≤ 1024 → Calls P fNew #[.int .i64 n] w fun e w' => ∃ p c, e = .returned (.tuple #[ptr p, .int .i64 0]) ∧ Que w' p c t n [] ∧ w.heap.size ≤ p ∧ w.heap.size ≤ c ∧ Below w.heap.size w w'
  newNo : ∀ w (n : Int), n < 1 ∨ 1024 < n → Calls P fNew #[.int .i64 n] w fun e w' => e = .returned (.tuple #[.pointer none, .int .i64 2]) ∧ Below w.heap.size w w'
  pushRoom : ∀ w p c cap L x, ok x → Que w p c t cap L → L.length < cap → Calls P fPush #[ptr p, x] w fun e w' => e = .returned (.int .i64 0) ∧ Que w' p c t cap (L ++ [x]) ∧ Chg (sole c) w w'
  pushFull : ∀ w p c cap L x, ok x → Que w p c t cap L → cap ≤ L.length → Calls P fPush #[ptr p, x] w fun e w' => e = .returned (.int .i64 6) ∧ Que w' p c t cap L ∧ Chg (sole c) w w'
  pushNil : ∀ w x, ok x → Calls P fPush #[.pointer none, x] w fun e w' => e = .returned (.int .i64 1) ∧ Below w.heap.size w w'
  popSome : ∀ w p c cap L x, Que w p c t cap (x :: L) → Calls P fPop #[ptr p] w fun e w' => e = .returned (.tuple #[x, .int .i64 0]) ∧ Que w' p c t cap L ∧ Chg (sole c) w w'
  popNone : ∀ w p c cap, Que w p c t cap [] → Calls P fPop #[ptr p] w fun e w' => e = .returned (.tuple #[z, .int .i64 7]) ∧ Que w' p c t cap [] ∧ Chg (sole c) w w'
  popNil : ∀ w, Calls P fPop #[.pointer none] w fun e w' => e = .returned (.tuple #[z, .int .i64 1]) ∧ Below w.heap.size w w'
  allAny : ∀ w p c cap L, Que w p c t cap L → L.length ≤ cap → cap ≤ 1024 → (∀ u ∈ L, ok u) → Calls P fAll #[ptr p] w fun e w' => ∃ A k, e = .returned (.slice A L.length k) ∧ Els 1 one w' A L ∧ Que w' p c t cap L ∧ Chg (sole c) w w'
  allNil : ∀ w, Calls P fAll #[.pointer none] w fun e w' => (∃ A k, e = .returned (.slice A 0 k)) ∧ Below w.heap.size w w'
  lenAny : ∀ w p c cap L, Que w p c t cap L → L.length ≤ cap → cap ≤ 1024 → Calls P fLen #[ptr p] w fun e w' => e = .returned (.int .i64 L.length) ∧ ∃ m, w' = w.drewN m
  lenNil : ∀ w, Calls P fLen #[.pointer none] w fun e w' => e = .returned (.int .i64 0) ∧ ∃ m, w' = w.drewN m
  roomAny : ∀ w p c cap L, Que w p c t cap L → L.length ≤ cap → cap ≤ 1024 → Calls P fRoom #[ptr p] w fun e w' => e = .returned (.int .i64 (cap - L.length : Nat)) ∧ ∃ m, w' = w.drewN m
  roomNil : ∀ w, Calls P fRoom #[.pointer none] w fun e w' => e = .returned (.int .i64 0) ∧ ∃ m, w' = w.drewN m

structure ClearC (P : Program) (fClear : FuncId) (t : TypeId) : Prop where
  clearAny : ∀ w p c cap L, Que w p c t cap L → L.length ≤ cap → cap ≤ 1024 → Calls P fClear #[ptr p] w fun e w' => e = .returned (.int .i64 L.length) ∧ Que w' p c t cap [] ∧ Chg (sole c) w w'
  clearNil : ∀ w, Calls P fClear #[.pointer none] w fun e w' => e = .returned (.int .i64 0) ∧ Below w.heap.size w w'

section
variable {P : Program} {f : FuncId} {args : Array Value} {w : World} {v : Value}
/-- what only draws, as a call that changes nothing -/
theorem drawn_same {p c cap : Nat} {t : TypeId} {L : List Value} (hq : Que w p c t cap L) (h : Calls P f args w fun e w' => e = .returned v ∧ ∃ m, w' = w.drewN m) :
    Calls P f args w fun e w' => e = .returned v ∧ Que w' p c t cap L ∧ Chg (sole c) w w' :=
  h.mono fun _ _ ⟨he, m, hm⟩ => ⟨he, by rw [hm]; exact hq.drewN m, by rw [hm]; exact (Chg.refl _ _).drewN m⟩
/-- what only draws, in a region that draws -/
theorem drawn_quiet {n : Nat} (h : Calls P f args (w.drewN n) fun e w' => e = .returned v ∧ ∃ m, w' = (w.drewN n).drewN m) :
    Calls P f args (w.drewN n) fun e w' => e = .returned v ∧ ∃ m, w' = w.drewN m :=
  h.mono fun _ _ ⟨he, m, hm⟩ => ⟨he, n + m, by rw [hm, drew_drewN]⟩
theorem drawn_below (h : Calls P f args w fun e w' => e = .returned v ∧ ∃ m, w' = w.drewN m) : Calls P f args w fun e w' => e = .returned v ∧ Below w.heap.size w w' :=
  h.mono fun _ _ ⟨he, m, hm⟩ => ⟨he, by rw [hm]; exact ⟨rfl, rfl, rfl, Nat.le_refl _, fun _ _ => rfl⟩⟩
end
def isI (u : Value) : Prop := ∃ m : Int, u = .int .i64 m
def isS (u : Value) : Prop := ∃ m : ByteArray, u = .string m
def ClearI : Prop := ClearC Try.prog 12 57
def QueI : Prop := QueC Try.prog 8 14 10 16 17 18 57 (.int .i64 0) isI
def QueS : Prop := QueC Try.prog 19 20 22 21 23 24 60 (.string ⟨#[]⟩) isS
end Go.Proofs.Ytofgdemkddbjeaa
