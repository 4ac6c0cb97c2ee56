/- Layer 13: checks as values, held against each other, as arguments. -/
import Derived.Test.YtmhhhcphdnnopaaCkSpec
import Derived.Test.YtmhhhcphdnnopaaNumW
import Derived.Test.YtmhhhcphdnnopaaCf
import Derived.Test.YtmhhhcphdnnopaaRow
namespace Go.Proofs.Ytmhhhcphdnnopaa
open Go.ChangeShapes Go.WideShapes Go.ChangeAt Go.RowKit
set_option linter.unusedVariables false
set_option linter.unusedSimpArgs false
set_option maxRecDepth 100000

/-- a check as a value -/
abbrev CkV (c : Ck) : Value := .agg #[.int .u8 c.l.toNat, .bool c.r, .int .u8 c.i.toNat, .int .u32 c.q.toNat, .int .u16 c.m.toNat, .string ⟨c.a.toArray⟩]
theorem ck_same (x y : Ck) : ((x.l == y.l) && ((x.r == y.r) && ((x.i == y.i) && ((x.q == y.q) && ((x.m == y.m) && ((x.a == y.a) && true)))))) = decide (x = y) := by
  obtain ⟨a, b, c, d, e, f⟩ := x
  obtain ⟨a', b', c', d', e', f'⟩ := y
  rw [Bool.eq_iff_iff]
  simp
theorem run_eqCk (x y : Ck) (w : World) : (Op.equalIn 10000 33 (CkV x) (CkV y)).run Try.prog w = .ok (decide (x = y)) w := by
  have h0 := run_equalIn_int (P := Try.prog) w 9998 5 .u8 .u8 (x.l.toNat : Int) (y.l.toNat : Int) Try.underlying5
  have h1 := run_equalIn_bool' (P := Try.prog) w 9998 4 x.r y.r Try.underlying4
  have h2 := run_equalIn_int (P := Try.prog) w 9998 5 .u8 .u8 (x.i.toNat : Int) (y.i.toNat : Int) Try.underlying5
  have h3 := run_equalIn_int (P := Try.prog) w 9998 22 .u32 .u32 (x.q.toNat : Int) (y.q.toNat : Int) Try.underlying22
  have h4 := run_equalIn_int (P := Try.prog) w 9998 23 .u16 .u16 (x.m.toNat : Int) (y.m.toNat : Int) Try.underlying23
  have h5 := run_equalIn_string (P := Try.prog) w 9998 9 ⟨x.a.toArray⟩ ⟨y.a.toArray⟩ Try.underlying9
  rw [tl_eqI] at h0 h2
  rw [ck_u32] at h3
  rw [ck_u16] at h4
  rw [tl_strbeq] at h5
  rw [run_equalIn_struct w 9999 33 _ _ (by rw [Program.fieldsOf, Try.underlying33]) (by kernel_rfl)]
  simp only [Program.fieldsOf, Try.underlying33]
  rw [← ck_same x y]
  refine eqs_step (by decide) (by kernel_rfl) (by kernel_rfl) h0 ?_
  refine eqs_step (by decide) (by kernel_rfl) (by kernel_rfl) h1 ?_
  refine eqs_step (by decide) (by kernel_rfl) (by kernel_rfl) h2 ?_
  refine eqs_step (by decide) (by kernel_rfl) (by kernel_rfl) h3 ?_
  refine eqs_step (by decide) (by kernel_rfl) (by kernel_rfl) h4 ?_
  refine eqs_step (by decide) (by kernel_rfl) (by kernel_rfl) h5 ?_
  exact eqs_nil
/-- a check as an argument -/
theorem open_ckR {H : Type} {enc : TypeId × Value → H} {W : World} {base : Nat} {v : Value} {d : DataW H} {pl : List MemPlace} (o : Value.okWide Try.prog W .any base 25 v) (h : DataW.Trod enc Try.prog W 0 (fun _ => true) true 25 v d pl) :
    ∃ c : Ck, v = CkV c := by
  have hs := Try.underlying25
  obtain ⟨l, fuel, x, rfl, hl, hx⟩ := open_struct hs o h
  obtain ⟨n0, e0, w0⟩ := trod_fldInt hs hx 0 _ rfl (k := .u8) Try.underlying5 (by kernel_rfl)
  obtain ⟨r1, e1⟩ := trod_fldBool hs hx 1 _ rfl Try.underlying4 (by kernel_rfl)
  obtain ⟨n2, e2, w2⟩ := trod_fldInt hs hx 2 _ rfl (k := .u8) Try.underlying5 (by kernel_rfl)
  obtain ⟨n3, e3, w3⟩ := trod_fldInt hs hx 3 _ rfl (k := .u32) Try.underlying22 (by kernel_rfl)
  obtain ⟨n4, e4, w4⟩ := trod_fldInt hs hx 4 _ rfl (k := .u16) Try.underlying23 (by kernel_rfl)
  obtain ⟨f5, y5, h5'⟩ := trod_fld hs hx 5 _ rfl
  have h5 : DataW.trod enc Try.prog W 0 (fun _ => true) true f5 9 ((l.drop 5).take (Try.prog.cellsOf 9)) = some y5 := h5'
  replace e0 : l[0]? = some (.int .u8 n0) := e0
  replace e1 : l[1]? = some (.bool r1) := e1
  replace e2 : l[2]? = some (.int .u8 n2) := e2
  replace e3 : l[3]? = some (.int .u32 n3) := e3
  replace e4 : l[4]? = some (.int .u16 n4) := e4
  clear h5'
  have c5 : Try.prog.cellsOf 9 = 1 := by kernel_rfl
  have hl6 : l.length = 6 := hl.trans (by kernel_rfl)
  match l, hl6 with
  | [u0, u1, u2, u3, u4, u5], _ =>
    simp at e0 e1 e2 e3 e4
    subst e0 e1 e2 e3 e4
    obtain ⟨v0, rfl⟩ := u8_ofL w0
    obtain ⟨v2, rfl⟩ := u8_ofL w2
    obtain ⟨v3, rfl⟩ := u32_ofC w3
    obtain ⟨v4, rfl⟩ := u16_ofC w4
    simp only [c5, List.drop_succ_cons, List.drop_zero, List.take_succ_cons, List.take_zero] at h5
    obtain ⟨s, es, _, _⟩ := DataW.trod_string Try.underlying9 h5
    simp at es
    subst es
    obtain ⟨⟨X⟩⟩ := s
    exact ⟨⟨v0, r1, v2, v3, v4, X⟩, rfl⟩
/-- a check as an argument -/
theorem open_ckP {H : Type} {enc : TypeId × Value → H} {W : World} {base : Nat} {v : Value} {d : DataW H} {pl : List MemPlace} (o : Value.okWide Try.prog W .any base 33 v) (h : DataW.Trod enc Try.prog W 0 (fun _ => true) true 33 v d pl) :
    ∃ c : Ck, v = CkV c := by
  have hs := Try.underlying33
  obtain ⟨l, fuel, x, rfl, hl, hx⟩ := open_struct hs o h
  obtain ⟨n0, e0, w0⟩ := trod_fldInt hs hx 0 _ rfl (k := .u8) Try.underlying5 (by kernel_rfl)
  obtain ⟨r1, e1⟩ := trod_fldBool hs hx 1 _ rfl Try.underlying4 (by kernel_rfl)
  obtain ⟨n2, e2, w2⟩ := trod_fldInt hs hx 2 _ rfl (k := .u8) Try.underlying5 (by kernel_rfl)
  obtain ⟨n3, e3, w3⟩ := trod_fldInt hs hx 3 _ rfl (k := .u32) Try.underlying22 (by kernel_rfl)
  obtain ⟨n4, e4, w4⟩ := trod_fldInt hs hx 4 _ rfl (k := .u16) Try.underlying23 (by kernel_rfl)
  obtain ⟨f5, y5, h5'⟩ := trod_fld hs hx 5 _ rfl
  have h5 : DataW.trod enc Try.prog W 0 (fun _ => true) true f5 9 ((l.drop 5).take (Try.prog.cellsOf 9)) = some y5 := h5'
  replace e0 : l[0]? = some (.int .u8 n0) := e0
  replace e1 : l[1]? = some (.bool r1) := e1
  replace e2 : l[2]? = some (.int .u8 n2) := e2
  replace e3 : l[3]? = some (.int .u32 n3) := e3
  replace e4 : l[4]? = some (.int .u16 n4) := e4
  clear h5'
  have c5 : Try.prog.cellsOf 9 = 1 := by kernel_rfl
  have hl6 : l.length = 6 := hl.trans (by kernel_rfl)
  match l, hl6 with
  | [u0, u1, u2, u3, u4, u5], _ =>
    simp at e0 e1 e2 e3 e4
    subst e0 e1 e2 e3 e4
    obtain ⟨v0, rfl⟩ := u8_ofL w0
    obtain ⟨v2, rfl⟩ := u8_ofL w2
    obtain ⟨v3, rfl⟩ := u32_ofC w3
    obtain ⟨v4, rfl⟩ := u16_ofC w4
    simp only [c5, List.drop_succ_cons, List.drop_zero, List.take_succ_cons, List.take_zero] at h5
    obtain ⟨s, es, _, _⟩ := DataW.trod_string Try.underlying9 h5
    simp at es
    subst es
    obtain ⟨⟨X⟩⟩ := s
    exact ⟨⟨v0, r1, v2, v3, v4, X⟩, rfl⟩
end Go.Proofs.Ytmhhhcphdnnopaa
