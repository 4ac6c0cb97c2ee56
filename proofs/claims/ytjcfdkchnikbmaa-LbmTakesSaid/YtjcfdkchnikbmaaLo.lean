/- Layer 14: loopbacks as values, held against each other, as arguments. -/
import Derived.Test.YtjcfdkchnikbmaaLoSpec
import Derived.Test.YtjcfdkchnikbmaaNumW
import Derived.Test.YtjcfdkchnikbmaaCf
import Derived.Test.YtjcfdkchnikbmaaRow
namespace Go.Proofs.Ytjcfdkchnikbmaa
open Go.ChangeShapes Go.WideShapes Go.ChangeAt Go.RowKit
set_option linter.unusedVariables false
set_option linter.unusedSimpArgs false
set_option maxRecDepth 100000

/-- a loopback as a value -/
abbrev LoV (o : Lo) : Value := .agg #[.int .u8 o.l.toNat, .bool o.r, .int .u32 o.q.toNat, .string ⟨o.d.toArray⟩]
theorem lo_same (x y : Lo) : ((x.l == y.l) && ((x.r == y.r) && ((x.q == y.q) && ((x.d == y.d) && true)))) = decide (x = y) := by
  obtain ⟨a, b, c, d⟩ := x
  obtain ⟨a', b', c', d'⟩ := y
  rw [Bool.eq_iff_iff]
  simp
theorem run_eqLo (x y : Lo) (w : World) : (Op.equalIn 10000 32 (LoV x) (LoV y)).run Try.prog w = .ok (decide (x = y)) w := by
  have h0 := run_equalIn_int (P := Try.prog) w 9998 5 .u8 .u8 (x.l.toNat : Int) (y.l.toNat : Int) Try.underlying5
  have h1 := run_equalIn_bool' (P := Try.prog) w 9998 4 x.r y.r Try.underlying4
  have h3 := run_equalIn_int (P := Try.prog) w 9998 22 .u32 .u32 (x.q.toNat : Int) (y.q.toNat : Int) Try.underlying22
  have h5 := run_equalIn_string (P := Try.prog) w 9998 9 ⟨x.d.toArray⟩ ⟨y.d.toArray⟩ Try.underlying9
  rw [tl_eqI] at h0
  rw [ck_u32] at h3
  rw [tl_strbeq] at h5
  rw [run_equalIn_struct w 9999 32 _ _ (by rw [Program.fieldsOf, Try.underlying32]) (by kernel_rfl)]
  simp only [Program.fieldsOf, Try.underlying32]
  rw [← lo_same x y]
  refine eqs_step (by decide) (by kernel_rfl) (by kernel_rfl) h0 ?_
  refine eqs_step (by decide) (by kernel_rfl) (by kernel_rfl) h1 ?_
  refine eqs_step (by decide) (by kernel_rfl) (by kernel_rfl) h3 ?_
  refine eqs_step (by decide) (by kernel_rfl) (by kernel_rfl) h5 ?_
  exact eqs_nil
/-- a loopback as an argument -/
theorem open_loR {H : Type} {enc : TypeId × Value → H} {W : World} {base : Nat} {v : Value} {d : DataW H} {pl : List MemPlace} (o : Value.okWide Try.prog W .any base 24 v) (h : DataW.Trod enc Try.prog W 0 (fun _ => true) true 24 v d pl) :
    ∃ c : Lo, v = LoV c := by
  have hs := Try.underlying24
  obtain ⟨l, fuel, x, rfl, hl, hx⟩ := open_struct hs o h
  obtain ⟨n0, e0, w0⟩ := trod_fldInt hs hx 0 _ rfl (k := .u8) Try.underlying5 (by kernel_rfl)
  obtain ⟨r1, e1⟩ := trod_fldBool hs hx 1 _ rfl Try.underlying4 (by kernel_rfl)
  obtain ⟨n2, e2, w2⟩ := trod_fldInt hs hx 2 _ rfl (k := .u32) Try.underlying22 (by kernel_rfl)
  obtain ⟨f3, y3, h3'⟩ := trod_fld hs hx 3 _ rfl
  have h3 : DataW.trod enc Try.prog W 0 (fun _ => true) true f3 9 ((l.drop 3).take (Try.prog.cellsOf 9)) = some y3 := h3'
  replace e0 : l[0]? = some (.int .u8 n0) := e0
  replace e1 : l[1]? = some (.bool r1) := e1
  replace e2 : l[2]? = some (.int .u32 n2) := e2
  clear h3'
  have c3 : Try.prog.cellsOf 9 = 1 := by kernel_rfl
  have hl4 : l.length = 4 := hl.trans (by kernel_rfl)
  match l, hl4 with
  | [u0, u1, u2, u3], _ =>
    simp at e0 e1 e2
    subst e0 e1 e2
    obtain ⟨v0, rfl⟩ := u8_ofL w0
    obtain ⟨v2, rfl⟩ := u32_ofC w2
    simp only [c3, List.drop_succ_cons, List.drop_zero, List.take_succ_cons, List.take_zero] at h3
    obtain ⟨s, es, _, _⟩ := DataW.trod_string Try.underlying9 h3
    simp at es
    subst es
    obtain ⟨⟨X⟩⟩ := s
    exact ⟨⟨v0, r1, v2, X⟩, rfl⟩
/-- a loopback as an argument -/
theorem open_loP {H : Type} {enc : TypeId × Value → H} {W : World} {base : Nat} {v : Value} {d : DataW H} {pl : List MemPlace} (o : Value.okWide Try.prog W .any base 32 v) (h : DataW.Trod enc Try.prog W 0 (fun _ => true) true 32 v d pl) :
    ∃ c : Lo, v = LoV c := by
  have hs := Try.underlying32
  obtain ⟨l, fuel, x, rfl, hl, hx⟩ := open_struct hs o h
  obtain ⟨n0, e0, w0⟩ := trod_fldInt hs hx 0 _ rfl (k := .u8) Try.underlying5 (by kernel_rfl)
  obtain ⟨r1, e1⟩ := trod_fldBool hs hx 1 _ rfl Try.underlying4 (by kernel_rfl)
  obtain ⟨n2, e2, w2⟩ := trod_fldInt hs hx 2 _ rfl (k := .u32) Try.underlying22 (by kernel_rfl)
  obtain ⟨f3, y3, h3'⟩ := trod_fld hs hx 3 _ rfl
  have h3 : DataW.trod enc Try.prog W 0 (fun _ => true) true f3 9 ((l.drop 3).take (Try.prog.cellsOf 9)) = some y3 := h3'
  replace e0 : l[0]? = some (.int .u8 n0) := e0
  replace e1 : l[1]? = some (.bool r1) := e1
  replace e2 : l[2]? = some (.int .u32 n2) := e2
  clear h3'
  have c3 : Try.prog.cellsOf 9 = 1 := by kernel_rfl
  have hl4 : l.length = 4 := hl.trans (by kernel_rfl)
  match l, hl4 with
  | [u0, u1, u2, u3], _ =>
    simp at e0 e1 e2
    subst e0 e1 e2
    obtain ⟨v0, rfl⟩ := u8_ofL w0
    obtain ⟨v2, rfl⟩ := u32_ofC w2
    simp only [c3, List.drop_succ_cons, List.drop_zero, List.take_succ_cons, List.take_zero] at h3
    obtain ⟨s, es, _, _⟩ := DataW.trod_string Try.underlying9 h3
    simp at es
    subst es
    obtain ⟨⟨X⟩⟩ := s
    exact ⟨⟨v0, r1, v2, X⟩, rfl⟩
end Go.Proofs.Ytjcfdkchnikbmaa
