/- Layer 8: arguments: addresses, acts. -/
import Derived.Test.YtlofaahckdfeiaaDb
import Derived.OpenShut
import Derived.ShutString
import Derived.ChangeOld
namespace Go.Proofs.Ytlofaahckdfeiaa
open Go.ChangeShapes Go.WideShapes Go.ChangeAt Go.RowKit
set_option linter.unusedVariables false
set_option linter.unusedSimpArgs false
set_option maxRecDepth 100000

theorem trod_array6 {H : Type} {enc : TypeId × Value → H} {P : Program} {w : World} {base : Nat} {spare : Nat → Bool} {held : Bool} {t e : TypeId} {fuel : Nat} {c0 c1 c2 c3 c4 c5 : Value} {x : DataW H × List MemPlace} (ht : P.underlying t = some (.array 6 e)) (hce : P.cellsOf e = 1)
    (h : DataW.trod enc P w base spare held fuel t [c0, c1, c2, c3, c4, c5] = some x) :
    ∃ y0 y1 y2 y3 y4 y5 n, DataW.trod enc P w base spare held n e [c0] = some y0 ∧ DataW.trod enc P w base spare held n e [c1] = some y1 ∧ DataW.trod enc P w base spare held n e [c2] = some y2 ∧ DataW.trod enc P w base spare held n e [c3] = some y3 ∧ DataW.trod enc P w base spare held n e [c4] = some y4 ∧ DataW.trod enc P w base spare held n e [c5] = some y5 := by
  cases fuel with
  | zero => simp [DataW.trod] at h
  | succ n =>
    unfold DataW.trod at h
    rw [ht] at h
    have r6 : List.range 6 = [0, 1, 2, 3, 4, 5] := rfl
    simp [r6, hce] at h
    obtain ⟨_, h⟩ := h
    cases h0 : DataW.trod enc P w base spare held n e [c0] with
    | none => simp [h0] at h
    | some y0 =>
      cases h1 : DataW.trod enc P w base spare held n e [c1] with
      | none => simp [h0, h1] at h
      | some y1 =>
        cases h2 : DataW.trod enc P w base spare held n e [c2] with
        | none => simp [h0, h1, h2] at h
        | some y2 =>
          cases h3 : DataW.trod enc P w base spare held n e [c3] with
          | none => simp [h0, h1, h2, h3] at h
          | some y3 =>
            cases h4 : DataW.trod enc P w base spare held n e [c4] with
            | none => simp [h0, h1, h2, h3, h4] at h
            | some y4 =>
              cases h5 : DataW.trod enc P w base spare held n e [c5] with
              | none => simp [h0, h1, h2, h3, h4, h5] at h
              | some y5 => exact ⟨y0, y1, y2, y3, y4, y5, n, h0, h1, h2, h3, h4, h5⟩
theorem vlist6 {l : List Value} (h : l.length = 6) : ∃ a b c d e f, l = [a, b, c, d, e, f] := by
  match l, h with
  | [a, b, c, d, e, f], _ => exact ⟨a, b, c, d, e, f, rfl⟩
theorem trod_byte {H : Type} {enc : TypeId × Value → H} {w : World} {base : Nat} {spare : Nat → Bool} {held : Bool} {fuel : Nat} {c : Value} {x : DataW H × List MemPlace}
    (h : DataW.trod enc Try.prog w base spare held fuel 5 [c] = some x) : ∃ u : UInt8, c = .int .u8 u.toNat := by
  obtain ⟨n, e, _, wf⟩ := DataW.trod_int Try.underlying5 h
  simp at e
  subst e
  have hb : 0 ≤ n ∧ n ≤ 255 := by
    simp [Lit.wf, IntKind.min, IntKind.max, IntKind.signed, IntKind.bits] at wf
    omega
  refine ⟨UInt8.ofNat n.toNat, congrArg _ ?_⟩
  have : n.toNat % 256 = n.toNat := by omega
  simp [this]
  omega
/-- an address as an argument -/
theorem open_mc {H : Type} {enc : TypeId × Value → H} {W : World} {base : Nat} {v : Value} {d : DataW H} {p : List MemPlace} (o : Value.okWide Try.prog W .any base 25 v)
    (h : DataW.Trod enc Try.prog W 0 (fun _ => true) true 25 v d p) : ∃ m : Mc, v = mV m := by
  obtain ⟨cs, rfl, hsz, _⟩ : ∃ cs, v = .agg cs ∧ cs.size = Try.prog.cellsOf 25 ∧ Row.okWide Try.prog W .any base 25 cs := by
    simpa [Value.okWide, Try.underlying25] using o
  have hs6 : cs.size = 6 := hsz.trans (by kernel_rfl)
  obtain ⟨l⟩ := cs
  obtain ⟨c0, c1, c2, c3, c4, c5, rfl⟩ := vlist6 hs6
  obtain ⟨fuel, hf⟩ := h
  obtain ⟨y0, y1, y2, y3, y4, y5, m, hy0, hy1, hy2, hy3, hy4, hy5⟩ := trod_array6 Try.underlying25 (by kernel_rfl) hf
  obtain ⟨u0, rfl⟩ := trod_byte hy0
  obtain ⟨u1, rfl⟩ := trod_byte hy1
  obtain ⟨u2, rfl⟩ := trod_byte hy2
  obtain ⟨u3, rfl⟩ := trod_byte hy3
  obtain ⟨u4, rfl⟩ := trod_byte hy4
  obtain ⟨u5, rfl⟩ := trod_byte hy5
  exact ⟨⟨u0, u1, u2, u3, u4, u5⟩, rfl⟩
theorem u8_of {n : Int} (h : (Lit.int .u8 n).wf = true) : ∃ u : UInt8, n = (u.toNat : Int) := by
  have hb : 0 ≤ n ∧ n ≤ 255 := by
    simp [Lit.wf, IntKind.has, IntKind.min, IntKind.max, IntKind.signed, IntKind.bits] at h
    omega
  refine ⟨UInt8.ofNat n.toNat, ?_⟩
  have : n.toNat % 256 = n.toNat := by omega
  simp [this]
  omega
theorem u16_of {n : Int} (h : (Lit.int .u16 n).wf = true) : ∃ u : UInt16, n = (u.toNat : Int) := by
  have hb : 0 ≤ n ∧ n ≤ 65535 := by
    simp [Lit.wf, IntKind.has, IntKind.min, IntKind.max, IntKind.signed, IntKind.bits] at h
    omega
  refine ⟨UInt16.ofNat n.toNat, ?_⟩
  have : n.toNat % 65536 = n.toNat := by omega
  simp [this]
  omega
/-- an act -/
structure Ac where
  d : UInt8
  k : Pl
  p : UInt8
  s : UInt8
  deriving DecidableEq, Inhabited
def encA (a : Ac) : List Value := [.int .u8 a.d.toNat, .int .u16 a.k.v.toNat, .int .u8 a.k.m.a.toNat, .int .u8 a.k.m.b.toNat, .int .u8 a.k.m.c.toNat, .int .u8 a.k.m.d.toNat, .int .u8 a.k.m.e.toNat, .int .u8 a.k.m.f.toNat, .int .u8 a.p.toNat, .int .u8 a.s.toNat]
section
variable {H : Type} {enc : TypeId × Value → H} {w : World} {base : Nat} {spare : Nat → Bool} {held : Bool}
theorem ac_trod {t : TypeId} {f0 f1 f2 f3 f4 : Field} (hs : Try.prog.underlying t = some (.struct #[f0, f1, f2, f3, f4])) (ht : f0.type = 5 ∧ f1.type = 23 ∧ f2.type = 25 ∧ f3.type = 5 ∧ f4.type = 5) (ho : f0.offset = 0 ∧ f1.offset = 1 ∧ f2.offset = 2 ∧ f3.offset = 8 ∧ f4.offset = 9)
    {fuel : Nat} {cs : List Value} {x : DataW H × List MemPlace} (hl : cs.length = 10) (h : DataW.trod enc Try.prog w base spare held fuel t cs = some x) : ∃ v : Ac, True ∧ cs = encA v := by
  obtain ⟨t0, t1, t2, t3, t4⟩ := ht
  obtain ⟨o0, o1, o2, o3, o4⟩ := ho
  obtain ⟨n0, e0, w0⟩ := trod_fldInt hs h 0 f0 rfl (k := .u8) (by rw [t0]; exact Try.underlying5) (by rw [t0]; kernel_rfl)
  obtain ⟨n1, e1, w1⟩ := trod_fldInt hs h 1 f1 rfl (k := .u16) (by rw [t1]; exact Try.underlying23) (by rw [t1]; kernel_rfl)
  obtain ⟨fm, y, e2⟩ := trod_fld hs h 2 f2 rfl
  obtain ⟨n3, e3, w3⟩ := trod_fldInt hs h 3 f3 rfl (k := .u8) (by rw [t3]; exact Try.underlying5) (by rw [t3]; kernel_rfl)
  obtain ⟨n4, e4, w4⟩ := trod_fldInt hs h 4 f4 rfl (k := .u8) (by rw [t4]; exact Try.underlying5) (by rw [t4]; kernel_rfl)
  rw [o0] at e0
  rw [o1] at e1
  rw [o2, t2, show Try.prog.cellsOf 25 = 6 by kernel_rfl] at e2
  rw [o3] at e3
  rw [o4] at e4
  obtain ⟨v0, rfl⟩ := u8_of w0
  obtain ⟨v1, rfl⟩ := u16_of w1
  obtain ⟨v3, rfl⟩ := u8_of w3
  obtain ⟨v4, rfl⟩ := u8_of w4
  match cs, hl with
  | [c0, c1, c2, c3, c4, c5, c6, c7, c8, c9], _ =>
    simp only [List.getElem?_cons_zero, List.getElem?_cons_succ, Option.some.injEq] at e0 e1 e3 e4
    subst e0 e1 e3 e4
    obtain ⟨y0, y1, y2, y3, y4, y5, m, hy0, hy1, hy2, hy3, hy4, hy5⟩ := trod_array6 Try.underlying25 (by kernel_rfl) e2
    obtain ⟨u0, rfl⟩ := trod_byte hy0
    obtain ⟨u1, rfl⟩ := trod_byte hy1
    obtain ⟨u2, rfl⟩ := trod_byte hy2
    obtain ⟨u3, rfl⟩ := trod_byte hy3
    obtain ⟨u4, rfl⟩ := trod_byte hy4
    obtain ⟨u5, rfl⟩ := trod_byte hy5
    exact ⟨⟨v0, ⟨v1, ⟨u0, u1, u2, u3, u4, u5⟩⟩, v3, v4⟩, trivial, rfl⟩
end
end Go.Proofs.Ytlofaahckdfeiaa
