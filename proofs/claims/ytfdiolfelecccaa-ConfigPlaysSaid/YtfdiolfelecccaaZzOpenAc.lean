/- Layer 16: acts as arguments. -/
import Derived.Test.YtfdiolfelecccaaZzGr16
namespace Go.Proofs.Ytfdiolfelecccaa
open Go.ChangeShapes Go.WideShapes Go.ChangeAt Go.RowKit
open Go.ChangeMaps (open_string)
set_option linter.unusedVariables false
set_option linter.unusedSimpArgs false
set_option maxRecDepth 100000

theorem u8_of16 {n : Int} (h : (Lit.int .u8 n).wf = true) : ∃ u : UInt8, n = (u.toNat : Int) := by
  have hb : 0 ≤ n ∧ n ≤ 255 := by
    simp [Lit.wf, IntKind.has, IntKind.min, IntKind.max, IntKind.signed, IntKind.bits] at h
    omega
  refine ⟨UInt8.ofNat n.toNat, ?_⟩
  have : n.toNat % 256 = n.toNat := by omega
  simp [this]
  omega
theorem u16_of16 {n : Int} (h : (Lit.int .u16 n).wf = true) : ∃ u : UInt16, n = (u.toNat : Int) := by
  have hb : 0 ≤ n ∧ n ≤ 65535 := by
    simp [Lit.wf, IntKind.has, IntKind.min, IntKind.max, IntKind.signed, IntKind.bits] at h
    omega
  refine ⟨UInt16.ofNat n.toNat, ?_⟩
  have : n.toNat % 65536 = n.toNat := by omega
  simp [this]
  omega
/-- one cell that is a number -/
theorem trod_u16c {H : Type} {enc : TypeId × Value → H} {W : World} {cs : List Value} {fuel : Nat} {x : DataW H × List MemPlace} (h : DataW.trod enc Try.prog W 0 (fun _ => true) true fuel 23 cs = some x) : ∃ a : UInt16, cs = u16c a := by
  obtain ⟨n, e, _, hw⟩ := DataW.trod_int (k := .u16) Try.underlying23 h
  obtain ⟨u, rfl⟩ := u16_of16 hw
  exact ⟨u, e⟩
theorem trod_str16 {H : Type} {enc : TypeId × Value → H} {W : World} {c : Value} {fuel : Nat} {x : DataW H × List MemPlace} (h : DataW.trod enc Try.prog W 0 (fun _ => true) true fuel 9 [c] = some x) : ∃ s : List UInt8, c = .string ⟨s.toArray⟩ := by
  obtain ⟨s, es, _, _⟩ := DataW.trod_string Try.underlying9 h
  simp at es
  obtain ⟨⟨X⟩⟩ := s
  exact ⟨X, es⟩
/-- an association as cells -/
theorem trod_as16 {H : Type} {enc : TypeId × Value → H} {W : World} {u0 u1 u2 u3 u4 u5 : Value} {fuel : Nat} {x : DataW H × List MemPlace} (h : DataW.trod enc Try.prog W 0 (fun _ => true) true fuel 37 [u0, u1, u2, u3, u4, u5] = some x) :
    ∃ (a : As) (B : Option Addr) (c : Nat), [u0, u1, u2, u3, u4, u5] = asE ⟨a, B, c⟩ ∧ Els 1 u16c W B a.m ∧ a.m.length ≤ maxLen ∧ (B = none → c = 0) := by
  have hs := Try.underlying37
  obtain ⟨n0, e0, w0⟩ := trod_fldInt hs h 0 _ rfl (k := .u8) Try.underlying5 (by kernel_rfl)
  obtain ⟨f1, y1, h1'⟩ := trod_fld hs h 1 _ rfl
  obtain ⟨f2, y2, h2'⟩ := trod_fld hs h 2 _ rfl
  obtain ⟨n3, e3, w3⟩ := trod_fldInt hs h 3 _ rfl (k := .u16) Try.underlying23 (by kernel_rfl)
  obtain ⟨n4, e4, w4⟩ := trod_fldInt hs h 4 _ rfl (k := .u8) Try.underlying5 (by kernel_rfl)
  obtain ⟨f5, y5, h5'⟩ := trod_fld hs h 5 _ rfl
  have h1 : DataW.trod enc Try.prog W 0 (fun _ => true) true f1 9 (([u0, u1, u2, u3, u4, u5].drop 1).take (Try.prog.cellsOf 9)) = some y1 := h1'
  have h2 : DataW.trod enc Try.prog W 0 (fun _ => true) true f2 9 (([u0, u1, u2, u3, u4, u5].drop 2).take (Try.prog.cellsOf 9)) = some y2 := h2'
  have h5 : DataW.trod enc Try.prog W 0 (fun _ => true) true f5 35 (([u0, u1, u2, u3, u4, u5].drop 5).take (Try.prog.cellsOf 35)) = some y5 := h5'
  clear h1' h2' h5'
  have c1 : Try.prog.cellsOf 9 = 1 := by kernel_rfl
  have c5 : Try.prog.cellsOf 35 = 1 := by kernel_rfl
  replace e0 : [u0, u1, u2, u3, u4, u5][0]? = some (.int .u8 n0) := e0
  replace e3 : [u0, u1, u2, u3, u4, u5][3]? = some (.int .u16 n3) := e3
  replace e4 : [u0, u1, u2, u3, u4, u5][4]? = some (.int .u8 n4) := e4
  simp at e0 e3 e4
  subst e0 e3 e4
  obtain ⟨v0, rfl⟩ := u8_of16 w0
  obtain ⟨v3, rfl⟩ := u16_of16 w3
  obtain ⟨v4, rfl⟩ := u8_of16 w4
  simp only [c1, List.drop_succ_cons, List.drop_zero, List.take_succ_cons, List.take_zero] at h1 h2
  simp only [c5, List.drop_succ_cons, List.drop_zero, List.take_succ_cons, List.take_zero] at h5
  obtain ⟨s1, rfl⟩ := trod_str16 h1
  obtain ⟨s2, rfl⟩ := trod_str16 h2
  obtain ⟨A, c, L, rfl, hl, hz, hE⟩ := open_elsU 1 u16c Try.underlying35 (e := 23) (by kernel_rfl) (by omega) (fun cs fuel x hl h => trod_u16c h) h5
  exact ⟨⟨v0, s1, s2, v3, v4, L⟩, A, c, rfl, hE, hl, fun e => (hz e).2⟩
theorem trod_mp16 {H : Type} {enc : TypeId × Value → H} {W : World} {u0 u1 u2 u3 : Value} {fuel : Nat} {x : DataW H × List MemPlace} (h : DataW.trod enc Try.prog W 0 (fun _ => true) true fuel 39 [u0, u1, u2, u3] = some x) :
    ∃ a : Mp, [u0, u1, u2, u3] = mpE a := by
  have hs := Try.underlying39
  obtain ⟨n0, e0, w0⟩ := trod_fldInt hs h 0 _ rfl (k := .i64) Try.underlying3 (by kernel_rfl)
  obtain ⟨n1, e1, w1⟩ := trod_fldInt hs h 1 _ rfl (k := .u16) Try.underlying23 (by kernel_rfl)
  obtain ⟨n2, e2, w2⟩ := trod_fldInt hs h 2 _ rfl (k := .u8) Try.underlying5 (by kernel_rfl)
  obtain ⟨b3, e3⟩ := trod_fldBool hs h 3 _ rfl Try.underlying4 (by kernel_rfl)
  replace e0 : [u0, u1, u2, u3][0]? = some (.int .i64 n0) := e0
  replace e1 : [u0, u1, u2, u3][1]? = some (.int .u16 n1) := e1
  replace e2 : [u0, u1, u2, u3][2]? = some (.int .u8 n2) := e2
  replace e3 : [u0, u1, u2, u3][3]? = some (.bool b3) := e3
  simp at e0 e1 e2 e3
  subst e0 e1 e2 e3
  obtain ⟨v1, rfl⟩ := u16_of16 w1
  obtain ⟨v2, rfl⟩ := u8_of16 w2
  exact ⟨⟨n0, v1, v2, b3⟩, rfl⟩
theorem trod_mi16 {H : Type} {enc : TypeId × Value → H} {W : World} {u0 u1 u2 : Value} {fuel : Nat} {x : DataW H × List MemPlace} (h : DataW.trod enc Try.prog W 0 (fun _ => true) true fuel 41 [u0, u1, u2] = some x) :
    ∃ a : Mi, [u0, u1, u2] = miE a := by
  have hs := Try.underlying41
  obtain ⟨n0, e0, w0⟩ := trod_fldInt hs h 0 _ rfl (k := .u8) Try.underlying5 (by kernel_rfl)
  obtain ⟨n1, e1, w1⟩ := trod_fldInt hs h 1 _ rfl (k := .u16) Try.underlying23 (by kernel_rfl)
  obtain ⟨n2, e2, w2⟩ := trod_fldInt hs h 2 _ rfl (k := .u8) Try.underlying5 (by kernel_rfl)
  replace e0 : [u0, u1, u2][0]? = some (.int .u8 n0) := e0
  replace e1 : [u0, u1, u2][1]? = some (.int .u16 n1) := e1
  replace e2 : [u0, u1, u2][2]? = some (.int .u8 n2) := e2
  simp at e0 e1 e2
  subst e0 e1 e2
  obtain ⟨v0, rfl⟩ := u8_of16 w0
  obtain ⟨v1, rfl⟩ := u16_of16 w1
  obtain ⟨v2, rfl⟩ := u8_of16 w2
  exact ⟨⟨v0, v1, v2⟩, rfl⟩
/-- an act as cells -/
theorem trod_ac16 {H : Type} {enc : TypeId × Value → H} {W : World} {cs : List Value} {fuel : Nat} {x : DataW H × List MemPlace} (hl : cs.length = 14) (h : DataW.trod enc Try.prog W 0 (fun _ => true) true fuel 43 cs = some x) :
    ∃ y : AcX, AcQ W y ∧ cs = acE y := by
  have hs := Try.underlying43
  obtain ⟨n0, e0, w0⟩ := trod_fldInt hs h 0 _ rfl (k := .u8) Try.underlying5 (by kernel_rfl)
  obtain ⟨f1, y1, h1'⟩ := trod_fld hs h 1 _ rfl
  obtain ⟨f2, y2, h2'⟩ := trod_fld hs h 2 _ rfl
  obtain ⟨f3, y3, h3'⟩ := trod_fld hs h 3 _ rfl
  match cs, hl with
  | [u0, u1, u2, u3, u4, u5, u6, u7, u8, u9, u10, u11, u12, u13], _ =>
    have h1 : DataW.trod enc Try.prog W 0 (fun _ => true) true f1 37 [u1, u2, u3, u4, u5, u6] = some y1 := h1'
    have h2 : DataW.trod enc Try.prog W 0 (fun _ => true) true f2 39 [u7, u8, u9, u10] = some y2 := h2'
    have h3 : DataW.trod enc Try.prog W 0 (fun _ => true) true f3 41 [u11, u12, u13] = some y3 := h3'
    clear h1' h2' h3'
    replace e0 : [u0, u1, u2, u3, u4, u5, u6, u7, u8, u9, u10, u11, u12, u13][0]? = some (.int .u8 n0) := e0
    simp at e0
    subst e0
    obtain ⟨v0, rfl⟩ := u8_of16 w0
    obtain ⟨a, B, c, ea, hE, hm, hz⟩ := trod_as16 h1
    obtain ⟨e, ee⟩ := trod_mp16 h2
    obtain ⟨m, em⟩ := trod_mi16 h3
    refine ⟨⟨⟨v0, a, e, m⟩, B, c⟩, ⟨hE, hm, hz⟩, ?_⟩
    simp only [asE, mpE, miE, List.cons.injEq, and_true] at ea ee em
    obtain ⟨rfl, rfl, rfl, rfl, rfl, rfl⟩ := ea
    obtain ⟨rfl, rfl, rfl, rfl⟩ := ee
    obtain ⟨rfl, rfl, rfl⟩ := em
    rfl
/-- acts as an argument -/
theorem open_acs {H : Type} {enc : TypeId × Value → H} {W : World} {base : Nat} {v : Value} {d : DataW H} {p : List MemPlace} (o : Value.okWide Try.prog W .any base 22 v) (h : DataW.Trod enc Try.prog W 0 (fun _ => true) true 22 v d p) :
    ∃ (A : Option Addr) (c : Nat) (l : List AcX), v = .slice A l.length c ∧ l.length ≤ maxLen ∧ (A = none → l = [] ∧ c = 0) ∧ (∀ a ∈ l, AcQ W a) ∧ Els 14 acE W A l :=
  open_els 14 acE (AcQ W) Try.underlying22 (e := 43) (by kernel_rfl) (by omega) (fun cs fuel x hl h => trod_ac16 (hl.trans (by kernel_rfl)) h) o h
/-- one act as an argument -/
theorem open_ac {H : Type} {enc : TypeId × Value → H} {W : World} {base : Nat} {v : Value} {d : DataW H} {p : List MemPlace} (o : Value.okWide Try.prog W .any base 43 v) (h : DataW.Trod enc Try.prog W 0 (fun _ => true) true 43 v d p) :
    ∃ y : AcX, AcQ W y ∧ v = AcV y.x y.B y.c := by
  obtain ⟨l, fuel, x, rfl, hl, hx⟩ := open_struct Try.underlying43 o h
  obtain ⟨y, hq, rfl⟩ := trod_ac16 (hl.trans (by kernel_rfl)) hx
  exact ⟨y, hq, rfl⟩
end Go.Proofs.Ytfdiolfelecccaa
