/- Layer 18: arguments. -/
import Derived.Test.YtkmdgpfaaniibaaZzTh18
import Derived.Test.YtkmdgpfaaniibaaZz
namespace Go.Proofs.Ytkmdgpfaaniibaa
open Go.ChangeShapes Go.WideShapes Go.ChangeAt Go.RowKit
open Go.ChangeMaps (open_string)
set_option linter.unusedVariables false
set_option linter.unusedSimpArgs false
set_option maxRecDepth 100000

theorem u8_of18 {n : Int} (h : (Lit.int .u8 n).wf = true) : ∃ u : UInt8, n = (u.toNat : Int) := by
  have hb : 0 ≤ n ∧ n ≤ 255 := by
    simp [Lit.wf, IntKind.has, IntKind.min, IntKind.max, IntKind.signed, IntKind.bits] at h
    omega
  refine ⟨UInt8.ofNat n.toNat, ?_⟩
  have : n.toNat % 256 = n.toNat := by omega
  simp [this]
  omega
theorem u16_of18 {n : Int} (h : (Lit.int .u16 n).wf = true) : ∃ u : UInt16, n = (u.toNat : Int) := by
  have hb : 0 ≤ n ∧ n ≤ 65535 := by
    simp [Lit.wf, IntKind.has, IntKind.min, IntKind.max, IntKind.signed, IntKind.bits] at h
    omega
  refine ⟨UInt16.ofNat n.toNat, ?_⟩
  have : n.toNat % 65536 = n.toNat := by omega
  simp [this]
  omega
theorem u32_of18 {n : Int} (h : (Lit.int .u32 n).wf = true) : ∃ u : UInt32, n = (u.toNat : Int) := by
  have hb : 0 ≤ n ∧ n ≤ 4294967295 := by
    simp [Lit.wf, IntKind.has, IntKind.min, IntKind.max, IntKind.signed, IntKind.bits] at h
    omega
  refine ⟨UInt32.ofNat n.toNat, ?_⟩
  have : n.toNat % 4294967296 = n.toNat := by omega
  simp [this]
  omega
theorem trod_str18 {H : Type} {enc : TypeId × Value → H} {W : World} {c : Value} {fuel : Nat} {x : DataW H × List MemPlace} (h : DataW.trod enc Try.prog W 0 (fun _ => true) true fuel 9 [c] = some x) : ∃ s : List UInt8, c = .string ⟨s.toArray⟩ := by
  obtain ⟨s, es, _, _⟩ := DataW.trod_string Try.underlying9 h
  simp at es
  obtain ⟨⟨X⟩⟩ := s
  exact ⟨X, es⟩
/-- a check as cells -/
theorem trod_ck18 {H : Type} {enc : TypeId × Value → H} {W : World} {u0 u1 u2 u3 u4 u5 : Value} {fuel : Nat} {x : DataW H × List MemPlace} (h : DataW.trod enc Try.prog W 0 (fun _ => true) true fuel 40 [u0, u1, u2, u3, u4, u5] = some x) :
    ∃ c : Ck, [u0, u1, u2, u3, u4, u5] = [.int .u8 c.l.toNat, .bool c.r, .int .u8 c.i.toNat, .int .u32 c.q.toNat, .int .u16 c.m.toNat, .string ⟨c.a.toArray⟩] := by
  have hs := Try.underlying40
  obtain ⟨n0, e0, w0⟩ := trod_fldInt hs h 0 _ rfl (k := .u8) Try.underlying5 (by kernel_rfl)
  obtain ⟨r1, e1⟩ := trod_fldBool hs h 1 _ rfl Try.underlying4 (by kernel_rfl)
  obtain ⟨n2, e2, w2⟩ := trod_fldInt hs h 2 _ rfl (k := .u8) Try.underlying5 (by kernel_rfl)
  obtain ⟨n3, e3, w3⟩ := trod_fldInt hs h 3 _ rfl (k := .u32) Try.underlying38 (by kernel_rfl)
  obtain ⟨n4, e4, w4⟩ := trod_fldInt hs h 4 _ rfl (k := .u16) Try.underlying22 (by kernel_rfl)
  obtain ⟨f5, y5, h5'⟩ := trod_fld hs h 5 _ rfl
  have h5 : DataW.trod enc Try.prog W 0 (fun _ => true) true f5 9 (([u0, u1, u2, u3, u4, u5].drop 5).take (Try.prog.cellsOf 9)) = some y5 := h5'
  clear h5'
  have c5 : Try.prog.cellsOf 9 = 1 := by kernel_rfl
  replace e0 : [u0, u1, u2, u3, u4, u5][0]? = some (.int .u8 n0) := e0
  replace e1 : [u0, u1, u2, u3, u4, u5][1]? = some (.bool r1) := e1
  replace e2 : [u0, u1, u2, u3, u4, u5][2]? = some (.int .u8 n2) := e2
  replace e3 : [u0, u1, u2, u3, u4, u5][3]? = some (.int .u32 n3) := e3
  replace e4 : [u0, u1, u2, u3, u4, u5][4]? = some (.int .u16 n4) := e4
  simp at e0 e1 e2 e3 e4
  subst e0 e1 e2 e3 e4
  obtain ⟨v0, rfl⟩ := u8_of18 w0
  obtain ⟨v2, rfl⟩ := u8_of18 w2
  obtain ⟨v3, rfl⟩ := u32_of18 w3
  obtain ⟨v4, rfl⟩ := u16_of18 w4
  simp only [c5, List.drop_succ_cons, List.drop_zero, List.take_succ_cons, List.take_zero] at h5
  obtain ⟨s5, rfl⟩ := trod_str18 h5
  exact ⟨⟨v0, r1, v2, v3, v4, s5⟩, rfl⟩
theorem trod_ac18 {H : Type} {enc : TypeId × Value → H} {W : World} {u0 u1 u2 u3 u4 u5 u6 : Value} {fuel : Nat} {x : DataW H × List MemPlace} (h : DataW.trod enc Try.prog W 0 (fun _ => true) true fuel 42 [u0, u1, u2, u3, u4, u5, u6] = some x) :
    ∃ a : Ac, [u0, u1, u2, u3, u4, u5, u6] = acE a := by
  have hs := Try.underlying42
  obtain ⟨n0, e0, w0⟩ := trod_fldInt hs h 0 _ rfl (k := .u8) Try.underlying5 (by kernel_rfl)
  obtain ⟨f1, y1, h1'⟩ := trod_fld hs h 1 _ rfl
  have h1 : DataW.trod enc Try.prog W 0 (fun _ => true) true f1 40 (([u0, u1, u2, u3, u4, u5, u6].drop 1).take (Try.prog.cellsOf 40)) = some y1 := h1'
  clear h1'
  have c1 : Try.prog.cellsOf 40 = 6 := by kernel_rfl
  replace e0 : [u0, u1, u2, u3, u4, u5, u6][0]? = some (.int .u8 n0) := e0
  simp at e0
  subst e0
  obtain ⟨v0, rfl⟩ := u8_of18 w0
  simp only [c1, List.drop_succ_cons, List.drop_zero, List.take_succ_cons, List.take_zero] at h1
  obtain ⟨c, hc⟩ := trod_ck18 h1
  exact ⟨(v0, c), by rw [hc]; rfl⟩
theorem open_acs18 {H : Type} {enc : TypeId × Value → H} {W : World} {base : Nat} {v : Value} {d : DataW H} {pl : List MemPlace} (o : Value.okWide Try.prog W .any base 26 v) (h : DataW.Trod enc Try.prog W 0 (fun _ => true) true 26 v d pl) :
    ∃ A c l, v = .slice A l.length c ∧ Els 7 acE W A l := by
  obtain ⟨A, c, l, rfl, _, _, _, hE⟩ := open_els 7 acE (fun _ => True) Try.underlying26 (e := 42) (by kernel_rfl) (by omega)
    (fun cs fuel x hl h => by
      have hl7 : cs.length = 7 := hl.trans (by kernel_rfl)
      match cs, hl7 with
      | [u0, u1, u2, u3, u4, u5, u6], _ =>
        obtain ⟨a, ha⟩ := trod_ac18 h
        exact ⟨a, trivial, ha⟩) o h
  exact ⟨A, c, l, rfl, hE⟩
theorem open_u16s18 {H : Type} {enc : TypeId × Value → H} {W : World} {base : Nat} {v : Value} {d : DataW H} {pl : List MemPlace} (o : Value.okWide Try.prog W .any base 25 v) (h : DataW.Trod enc Try.prog W 0 (fun _ => true) true 25 v d pl) :
    ∃ A c l, v = .slice A l.length c ∧ Els 1 u16c W A l := by
  obtain ⟨A, c, l, rfl, _, _, _, hE⟩ := open_els 1 u16c (fun _ => True) Try.underlying25 (e := 22) (by kernel_rfl) (by omega)
    (fun cs fuel x hl h => by
      obtain ⟨n, e, _, hw⟩ := DataW.trod_int Try.underlying22 h
      obtain ⟨u, rfl⟩ := u16_of18 hw
      exact ⟨u, trivial, e⟩) o h
  exact ⟨A, c, l, rfl, hE⟩
theorem open_u8s18 {H : Type} {enc : TypeId × Value → H} {W : World} {base : Nat} {v : Value} {d : DataW H} {pl : List MemPlace} (o : Value.okWide Try.prog W .any base 53 v) (h : DataW.Trod enc Try.prog W 0 (fun _ => true) true 53 v d pl) :
    ∃ A c l, v = .slice A l.length c ∧ Els 1 u8c18 W A l := by
  obtain ⟨A, c, l, rfl, _, _, _, hE⟩ := open_els 1 u8c18 (fun _ => True) Try.underlying53 (e := 5) (by kernel_rfl) (by omega)
    (fun cs fuel x hl h => by
      obtain ⟨n, e, _, hw⟩ := DataW.trod_int Try.underlying5 h
      obtain ⟨u, rfl⟩ := u8_of18 hw
      exact ⟨u, trivial, e⟩) o h
  exact ⟨A, c, l, rfl, hE⟩
theorem open_ck18 {H : Type} {enc : TypeId × Value → H} {W : World} {base : Nat} {v : Value} {d : DataW H} {pl : List MemPlace} (o : Value.okWide Try.prog W .any base 40 v) (h : DataW.Trod enc Try.prog W 0 (fun _ => true) true 40 v d pl) :
    ∃ c : Ck, v = .agg #[.int .u8 c.l.toNat, .bool c.r, .int .u8 c.i.toNat, .int .u32 c.q.toNat, .int .u16 c.m.toNat, .string ⟨c.a.toArray⟩] := by
  obtain ⟨l, fuel, x, rfl, hl, hx⟩ := open_struct Try.underlying40 o h
  have hl6 : l.length = 6 := hl.trans (by kernel_rfl)
  match l, hl6 with
  | [u0, u1, u2, u3, u4, u5], _ =>
    obtain ⟨c, hc⟩ := trod_ck18 hx
    exact ⟨c, by rw [hc]⟩
theorem open_on18 {H : Type} {enc : TypeId × Value → H} {W : World} {base : Nat} {v : Value} {d : DataW H} {pl : List MemPlace} (o : Value.okWide Try.prog W .any base 24 v) (h : DataW.Trod enc Try.prog W 0 (fun _ => true) true 24 v d pl) :
    ∃ o : On, v = .agg #[.int .u8 o.lv.toNat, .int .u16 o.me.toNat, .int .u8 o.iv.toNat, .string ⟨o.ma.toArray⟩] := by
  have hs := Try.underlying24
  obtain ⟨l, fuel, x, rfl, hl, hx⟩ := open_struct hs o h
  obtain ⟨n0, e0, w0⟩ := trod_fldInt hs hx 0 _ rfl (k := .u8) Try.underlying5 (by kernel_rfl)
  obtain ⟨n1, e1, w1⟩ := trod_fldInt hs hx 1 _ rfl (k := .u16) Try.underlying22 (by kernel_rfl)
  obtain ⟨n2, e2, w2⟩ := trod_fldInt hs hx 2 _ rfl (k := .u8) Try.underlying5 (by kernel_rfl)
  obtain ⟨f3, y3, h3'⟩ := trod_fld hs hx 3 _ rfl
  have h3 : DataW.trod enc Try.prog W 0 (fun _ => true) true f3 9 ((l.drop 3).take (Try.prog.cellsOf 9)) = some y3 := h3'
  replace e0 : l[0]? = some (.int .u8 n0) := e0
  replace e1 : l[1]? = some (.int .u16 n1) := e1
  replace e2 : l[2]? = some (.int .u8 n2) := e2
  clear h3'
  have c5 : Try.prog.cellsOf 9 = 1 := by kernel_rfl
  have hl4 : l.length = 4 := hl.trans (by kernel_rfl)
  match l, hl4 with
  | [u0, u1, u2, u3], _ =>
    simp at e0 e1 e2
    subst e0 e1 e2
    obtain ⟨v0, rfl⟩ := u8_of18 w0
    obtain ⟨v1, rfl⟩ := u16_of18 w1
    obtain ⟨v2, rfl⟩ := u8_of18 w2
    simp only [c5, List.drop_succ_cons, List.drop_zero, List.take_succ_cons, List.take_zero] at h3
    obtain ⟨X, rfl⟩ := trod_str18 h3
    exact ⟨⟨v0, v1, v2, X⟩, rfl⟩
end Go.Proofs.Ytkmdgpfaaniibaa
