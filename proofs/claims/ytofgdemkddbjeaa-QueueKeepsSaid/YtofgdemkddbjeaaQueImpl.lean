/- Package queue: its contracts hold. -/
import Derived.Test.YtofgdemkddbjeaaQueAll
import Derived.Test.YtofgdemkddbjeaaQueC
namespace Go.Proofs.Ytofgdemkddbjeaa
open Go.RowKit
set_option linter.unusedVariables false
set_option linter.unusedSimpArgs false
set_option maxRecDepth 100000

theorem same_que {P : Program} {f : FuncId} {args : Array Value} {w : World} {v : Value} {p c cap : Nat} {t : TypeId} {L : List Value} (hq : Que w p c t cap L) (h : Calls P f args w fun e w' => e = .returned v ∧ w = w') :
    Calls P f args w fun e w' => e = .returned v ∧ Que w' p c t cap L ∧ Chg (sole c) w w' :=
  h.mono fun _ _ ⟨he, hm⟩ => ⟨he, by rw [← hm]; exact hq, by rw [← hm]; exact Chg.refl _ _⟩
theorem same_below {P : Program} {f : FuncId} {args : Array Value} {w : World} {v : Value} (h : Calls P f args w fun e w' => e = .returned v ∧ w = w') :
    Calls P f args w fun e w' => e = .returned v ∧ Below w.heap.size w w' :=
  h.mono fun _ _ ⟨he, hm⟩ => ⟨he, by rw [← hm]; exact Below.refl _ _⟩
theorem same_drawn {P : Program} {f : FuncId} {args : Array Value} {w : World} {v : Value} (h : Calls P f args w fun e w' => e = .returned v ∧ w = w') :
    Calls P f args w fun e w' => e = .returned v ∧ ∃ m, w' = w.drewN m :=
  h.mono fun _ _ ⟨he, hm⟩ => ⟨he, 0, by rw [← hm]; rfl⟩
theorem queI : QueI where
  newOk := fun w n h0 h1 => newI_ok n h0 h1
  newNo := fun w n h => same_below (newI_no n h)
  pushRoom := fun w p c cap L x _ h hr => pushI_room x h hr
  pushFull := fun w p c cap L x _ h hr => same_que h (pushI_full x h hr)
  pushNil := fun w x _ => same_below (pushI_nil x)
  popSome := fun w p c cap L x h => popI_some h
  popNone := fun w p c cap h => same_que h (popI_none h)
  popNil := fun w => same_below popI_nil
  allAny := fun w p c cap L h hl h1 ho => allI_any h hl h1 ho
  allNil := fun w => allI_nil
  lenAny := fun w p c cap L h _ _ => same_drawn (lenI_any h)
  lenNil := fun w => same_drawn lenI_nil
  roomAny := fun w p c cap L h hl h1 => (roomI_any h hl h1).mono fun _ _ ⟨he, hm⟩ => ⟨he, 1, by rw [← hm]; rfl⟩
  roomNil := fun w => same_drawn roomI_nil
theorem clearI : ClearI where
  clearAny := fun w p c cap L h hl h1 => clearI_any h (Nat.le_trans hl h1)
  clearNil := fun w => same_below clearI_nil
theorem queS : QueS where
  newOk := fun w n h0 h1 => newS_ok n h0 h1
  newNo := fun w n h => same_below (newS_no n h)
  pushRoom := fun w p c cap L x _ h hr => pushS_room x h hr
  pushFull := fun w p c cap L x _ h hr => same_que h (pushS_full x h hr)
  pushNil := fun w x _ => same_below (pushS_nil x)
  popSome := fun w p c cap L x h => popS_some h
  popNone := fun w p c cap h => same_que h (popS_none h)
  popNil := fun w => same_below popS_nil
  allAny := fun w p c cap L h hl h1 ho => allS_any h hl h1 ho
  allNil := fun w => allS_nil
  lenAny := fun w p c cap L h _ _ => same_drawn (lenS_any h)
  lenNil := fun w => same_drawn lenS_nil
  roomAny := fun w p c cap L h hl h1 => (roomS_any h hl h1).mono fun _ _ ⟨he, hm⟩ => ⟨he, 1, by rw [← hm]; rfl⟩
  roomNil := fun w => same_drawn roomS_nil
end Go.Proofs.Ytofgdemkddbjeaa
