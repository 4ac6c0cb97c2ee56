/- Steps of regions that draw; arguments opened. -/
import Derived.Test.YtjcgnclhickfgaaWakes
import Derived.OpenShut
import Derived.ShutString
import Derived.ChangeOld
import Derived.Deep.RegionLaw
namespace Go.Proofs.Ytjcgnclhickfgaa
open Go.ChangeShapes Go.WideShapes Go.ChangeAt Go.RowKit
open Go.ChangeMaps (open_string shut_string)
set_option linter.unusedVariables false
set_option linter.unusedSimpArgs false

theorem Byt.drew {w : World} {A : Option Addr} {l : List UInt8} (h : Byt w A l) : Byt w.drew A l := h
theorem OwnB.nil_ (w : World) (base : Nat) : OwnB w base (.slice none 0 0) [] := World.ownsRow_nil w base 5 1
theorem Str.convs {w : World} {v : Value} {l : List UInt8} (h : Str w v l) : ∀ W', Below w.heap.size w W' → (convert 22 9 v).run Try.prog W' = .ok (.string ⟨l.toArray⟩) W' := fun W' hb => (h.below hb).conv
theorem Str.drew {w : World} {v : Value} {l : List UInt8} (h : Str w v l) : Str w.drew v l := h
/- The operation append, as a step of a region that draws its order. -/
theorem step_append_bytes {w : World} {ops : Array Oper} {o : Oper} {a : Act} {K : Act → World → Prop} {Q : Exit → Act → World → Prop} {E : Prop} (hgd : o.guard = none) (s x : Operand)
    (ho : o.op = .call { callee := .builtin .append, args := #[s, x], argTypes := #[22, 22] })
    (base : Nat) (v : Value) (l : List UInt8) (hs : a.eval s = v) (hown : OwnB w base v l)
    (A : Option Addr) (m c : Nat) (r : List UInt8) (hx : a.eval x = .slice A m c) (hm : m = r.length) (hz : A = none → c = 0) (hr : Byt w A r)
    (hlen : l.length + r.length ≤ 140737488355328) (hbase : base ≤ w.heap.size)
    (h : ∀ v' w', OwnB w' base v' (l ++ r) → w.grownBy w' v.ownBlock → K (a.put o.dst v') w') :
    if Region.wanted o (yielded ops a.tmps) = true then Oper.wp Try.prog o a w K Q else E := by
  have hw : Region.wanted o (yielded ops a.tmps) = true := by simp [Region.wanted, hgd]
  rw [if_pos hw]
  obtain ⟨i, hi, hz0, hz1, hz2⟩ := info_parts u8_info
  subst hm
  have key : ∀ ad, A = some ad → (∀ j u, (bvals r)[j]? = some u → w.cell? (ad.add j) = some u) → Oper.wp Try.prog o a w K Q := by
    rintro ad rfl hc
    obtain ⟨v', w', hr, h2, h3, _, _⟩ := run_append_own_at (P := Try.prog) w base _ o.type 5 i _ 1 1 Try.underlying22 hi hz0 hz1 hz2 rfl (by omega) v l.length (bvals l) hown ad r.length c (bvals r) (by simp [bvals]) hc (bvals_one r)
      (by simp only [maxLen]; omega) (by omega) hbase
    unfold Oper.wp execOp
    simp only [ho, resolve, invoke, builtin, Sem.run_bind, Sem.run_pure, Result.andThen_ok, List.map_toArray, List.map_cons, List.map_nil, hs, hx, hr]
    exact h _ _ (by unfold OwnB; rw [List.length_append, bvals_app]; exact h2) h3
  rcases Nat.eq_zero_or_pos r.length with h0 | h0
  · have hr0 : r = [] := List.eq_nil_of_length_eq_zero h0
    subst hr0
    cases A with
    | none =>
      have hc := hz rfl
      subst hc
      have hrun := run_append_owned_none (P := Try.prog) (w := w) base 22 o.type 5 i 1 Try.underlying22 hi v l.length (bvals l) hown
      unfold Oper.wp
      simp [execOp, ho, resolve, invoke, builtin, hs, hx, hrun, Result.andThen]
      exact h v w (by simpa using hown) ⟨rfl, rfl, rfl, Nat.le_refl _, fun _ _ _ => rfl⟩
    | some ad => exact key ad rfl (by simp [bvals])
  · obtain ⟨ad, hA, hc⟩ := hr h0
    exact key ad hA hc

/-- the slice argument read as bytes -/
theorem open_bytes {H : Type} {enc : TypeId × Value → H} {W : World} {base : Nat} {v : Value} {d : DataW H} {p : List MemPlace} (o : Value.okWide Try.prog W .any base 22 v)
    (h : DataW.Trod enc Try.prog W 0 (fun _ => true) true 22 v d p) : ∃ A c l, v = .slice A l.length c ∧ (A = none → c = 0) ∧ Byt W A l ∧ l.length ≤ maxLen := by
  obtain ⟨a0, len0, cap0, rfl⟩ := okWide_slice Try.underlying22 o
  obtain ⟨fuel, hf⟩ := h
  rcases open_ints Try.underlying22 Try.underlying5 (by kernel_rfl) hf with ⟨hcs, _⟩ | ⟨x, l, c, zs, hcs, _, hl, hm, hz, _, hcell, hwz⟩
  · simp [Value.cells] at hcs
    obtain ⟨rfl, rfl, rfl⟩ := hcs
    exact ⟨none, 0, [], rfl, fun _ => rfl, Byt.nil_ _ _, by simp⟩
  · simp [Value.cells] at hcs
    obtain ⟨rfl, rfl, rfl⟩ := hcs
    simp at hz
    refine ⟨some x, cap0, (zs.take len0).map (fun n => UInt8.ofNat n.toNat), by simp [hz, hl], by simp, ?_, by simp; omega⟩
    intro _
    refine ⟨x, rfl, fun j u hu => ?_⟩
    have hj : j < len0 := by
      have := (List.getElem?_eq_some_iff.1 hu).1
      simp [bvals] at this
      omega
    have hjz : j < zs.length := by omega
    rw [hcell j hjz]
    have hw := hwz (zs[j]) (List.getElem_mem hjz)
    have hb : 0 ≤ zs[j] ∧ zs[j] ≤ 255 := by
      simp [Lit.wf, IntKind.min, IntKind.max, IntKind.signed, IntKind.bits] at hw
      omega
    simp [bvals, bval, hj, List.getElem?_take, hjz] at hu
    rw [← hu]
    simp [hjz]
    omega

end Go.Proofs.Ytjcgnclhickfgaa
