/- Layer 17: what stands at a port, as an argument. -/
import Derived.Test.YtpoeamamdiomkaaTl
import Derived.Test.YtpoeamamdiomkaaRow
namespace Go.Proofs.Ytpoeamamdiomkaa
open Go.ChangeShapes Go.WideShapes Go.ChangeAt Go.RowKit
set_option linter.unusedVariables false
set_option linter.unusedSimpArgs false
set_option maxRecDepth 100000

theorem open_at17 {H : Type} {enc : TypeId × Value → H} {W : World} {base : Nat} {v : Value} {d : DataW H} {pl : List MemPlace} (o : Value.okWide Try.prog W .any base 23 v) (h : DataW.Trod enc Try.prog W 0 (fun _ => true) true 23 v d pl) :
    ∃ (d u : UInt8) (m : Int), v = .agg #[.int .u8 d.toNat, .int .u8 u.toNat, .int .i64 m] := by
  have hs := Try.underlying23
  obtain ⟨l, fuel, x, rfl, hl, hx⟩ := open_struct hs o h
  obtain ⟨n0, e0, w0⟩ := trod_fldInt hs hx 0 _ rfl (k := .u8) Try.underlying5 (by kernel_rfl)
  obtain ⟨n1, e1, w1⟩ := trod_fldInt hs hx 1 _ rfl (k := .u8) Try.underlying5 (by kernel_rfl)
  obtain ⟨n2, e2, w2⟩ := trod_fldInt hs hx 2 _ rfl (k := .i64) Try.underlying3 (by kernel_rfl)
  replace e0 : l[0]? = some (.int .u8 n0) := e0
  replace e1 : l[1]? = some (.int .u8 n1) := e1
  replace e2 : l[2]? = some (.int .i64 n2) := e2
  have hl6 : l.length = 3 := hl.trans (by kernel_rfl)
  match l, hl6 with
  | [u0, u1, u2], _ =>
    simp at e0 e1 e2
    subst e0 e1 e2
    obtain ⟨v0, rfl⟩ := u8_ofL w0
    obtain ⟨v1, rfl⟩ := u8_ofL w1
    exact ⟨v0, v1, n2, rfl⟩
end Go.Proofs.Ytpoeamamdiomkaa
