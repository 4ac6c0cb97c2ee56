/- api.Frame: a frame as a value, as a block, as an argument; two frames held against each other. -/
import Derived.Test.YtieopgmmjpmflaaDig
import Derived.Test.YtieopgmmjpmflaaOpen
import Derived.Stop.BytesEq
import Derived.Laws.Rows
import Derived.Deep.WholeRow
namespace Go.Proofs.Ytieopgmmjpmflaa
open Go.ChangeShapes Go.WideShapes Go.ChangeAt Go.RowKit
set_option linter.unusedVariables false
set_option linter.unusedSimpArgs false
set_option maxRecDepth 100000

/-- a frame -/
structure Fr where
  (d0 d1 d2 d3 d4 d5 s0 s1 s2 s3 s4 s5 : UInt8)
  tag : Bool
  pri : UInt8
  vid : UInt16
  ty : UInt16
  data : List UInt8
def Fr.dst (f : Fr) : List UInt8 := [f.d0, f.d1, f.d2, f.d3, f.d4, f.d5]
def Fr.src (f : Fr) : List UInt8 := [f.s0, f.s1, f.s2, f.s3, f.s4, f.s5]
def Fr.zero : Fr := ⟨0, 0, 0, 0, 0, 0, 0, 0, 0, 0, 0, 0, false, 0, 0, 0, []⟩
/-- a frame as a value -/
abbrev FV (f : Fr) : Value := .agg #[.int .u8 f.d0.toNat, .int .u8 f.d1.toNat, .int .u8 f.d2.toNat, .int .u8 f.d3.toNat, .int .u8 f.d4.toNat, .int .u8 f.d5.toNat, .int .u8 f.s0.toNat, .int .u8 f.s1.toNat, .int .u8 f.s2.toNat, .int .u8 f.s3.toNat, .int .u8 f.s4.toNat, .int .u8 f.s5.toNat, .bool f.tag, .int .u8 f.pri.toNat, .int .u16 f.vid.toNat, .int .u16 f.ty.toNat, .string ⟨f.data.toArray⟩]
def FZ : Array Value := #[.int .u8 0, .int .u8 0, .int .u8 0, .int .u8 0, .int .u8 0, .int .u8 0, .int .u8 0, .int .u8 0, .int .u8 0, .int .u8 0, .int .u8 0, .int .u8 0, .bool false, .int .u8 0, .int .u16 0, .int .u16 0, .string ⟨#[]⟩]
/-- the cells of a frame at g -/
structure FrC (w : World) (g : Nat) (f : Fr) : Prop where
  c0 : w.cell? ⟨g, 0, none⟩ = some (Value.int .u8 f.d0.toNat)
  c1 : w.cell? ⟨g, 1, none⟩ = some (Value.int .u8 f.d1.toNat)
  c2 : w.cell? ⟨g, 2, none⟩ = some (Value.int .u8 f.d2.toNat)
  c3 : w.cell? ⟨g, 3, none⟩ = some (Value.int .u8 f.d3.toNat)
  c4 : w.cell? ⟨g, 4, none⟩ = some (Value.int .u8 f.d4.toNat)
  c5 : w.cell? ⟨g, 5, none⟩ = some (Value.int .u8 f.d5.toNat)
  c6 : w.cell? ⟨g, 6, none⟩ = some (Value.int .u8 f.s0.toNat)
  c7 : w.cell? ⟨g, 7, none⟩ = some (Value.int .u8 f.s1.toNat)
  c8 : w.cell? ⟨g, 8, none⟩ = some (Value.int .u8 f.s2.toNat)
  c9 : w.cell? ⟨g, 9, none⟩ = some (Value.int .u8 f.s3.toNat)
  c10 : w.cell? ⟨g, 10, none⟩ = some (Value.int .u8 f.s4.toNat)
  c11 : w.cell? ⟨g, 11, none⟩ = some (Value.int .u8 f.s5.toNat)
  c12 : w.cell? ⟨g, 12, none⟩ = some (Value.bool f.tag)
  c13 : w.cell? ⟨g, 13, none⟩ = some (Value.int .u8 f.pri.toNat)
  c14 : w.cell? ⟨g, 14, none⟩ = some (Value.int .u16 f.vid.toNat)
  c15 : w.cell? ⟨g, 15, none⟩ = some (Value.int .u16 f.ty.toNat)
  c16 : w.cell? ⟨g, 16, none⟩ = some (Value.string ⟨f.data.toArray⟩)
theorem FrC.next {w w' : World} {g : Nat} {f : Fr} (h : FrC w g f) (hb : Below w.heap.size w w') : FrC w' g f := by
  have hg := World.block_lt_of_cell? w _ h.c0
  have hk : ∀ i, w'.cell? ⟨g, i, none⟩ = w.cell? ⟨g, i, none⟩ := fun i => hb.cell (p := ⟨g, i, none⟩) hg
  exact ⟨(hk 0).trans h.c0, (hk 1).trans h.c1, (hk 2).trans h.c2, (hk 3).trans h.c3, (hk 4).trans h.c4, (hk 5).trans h.c5, (hk 6).trans h.c6, (hk 7).trans h.c7, (hk 8).trans h.c8, (hk 9).trans h.c9, (hk 10).trans h.c10, (hk 11).trans h.c11, (hk 12).trans h.c12, (hk 13).trans h.c13, (hk 14).trans h.c14, (hk 15).trans h.c15, (hk 16).trans h.c16⟩

/-- are two frames the same? -/
def Fr.same (f g : Fr) : Bool := (f.dst == g.dst) && ((f.src == g.src) && ((f.tag == g.tag) && ((f.pri == g.pri) && ((f.vid == g.vid) && ((f.ty == g.ty) && (f.data == g.data))))))
theorem Fr.same_iff (f g : Fr) : f.same g = true ↔ f = g := by
  constructor
  · intro h
    obtain ⟨a0, a1, a2, a3, a4, a5, a6, a7, a8, a9, a10, a11, a12, a13, a14, a15, a16⟩ := f
    obtain ⟨b0, b1, b2, b3, b4, b5, b6, b7, b8, b9, b10, b11, b12, b13, b14, b15, b16⟩ := g
    simp only [Fr.same, Fr.dst, Fr.src, Bool.and_eq_true, beq_iff_eq, List.cons.injEq, and_true] at h
    obtain ⟨⟨h0, h1, h2, h3, h4, h5⟩, ⟨h6, h7, h8, h9, h10, h11⟩, h12, h13, h14, h15, h16⟩ := h
    subst h0 h1 h2 h3 h4 h5 h6 h7 h8 h9 h10 h11 h12 h13 h14 h15 h16
    rfl
  · rintro rfl
    simp [Fr.same]
theorem Fr.same_self (f : Fr) : f.same f = true := (Fr.same_iff f f).2 rfl
theorem u8_beq (a b : UInt8) : (((a.toNat : Nat) : Int) == ((b.toNat : Nat) : Int)) = (a == b) := by
  rw [Bool.eq_iff_iff]
  simp only [beq_iff_eq]
  exact ⟨fun e => UInt8.toNat_inj.1 (by omega), fun e => by rw [e]⟩
theorem u16_beq (a b : UInt16) : (((a.toNat : Nat) : Int) == ((b.toNat : Nat) : Int)) = (a == b) := by
  rw [Bool.eq_iff_iff]
  simp only [beq_iff_eq]
  exact ⟨fun e => UInt16.toNat_inj.1 (by omega), fun e => by rw [e]⟩
theorem str_beq (a b : List UInt8) : ((⟨a.toArray⟩ : ByteArray).toList == (⟨b.toArray⟩ : ByteArray).toList) = (a == b) := by
  rw [ByteArray.toList_eq, ByteArray.toList_eq]
theorem eqf_step {P : Program} {d : Nat} {xs ys : Array Value} {f : Field} {fs : List Field} {w : World} {a b : Value} {r s : Bool} (hn : f.name ≠ "_") (ha : (part f.type xs f.offset).run P w = .ok a w) (hb : (part f.type ys f.offset).run P w = .ok b w)
    (hr : (Op.equalIn d f.type a b).run P w = .ok r w) (hs : (Op.eqFields d xs ys fs).run P w = .ok s w) : (Op.eqFields d xs ys (f :: fs)).run P w = .ok (r && s) w := by
  simp only [Op.eqFields, hn, ne_eq, not_false_eq_true, if_true, Sem.run_bind, ha, hb, hr, Result.andThen_ok]
  cases r
  · simp
  · simp only [Bool.not_true, Bool.false_eq_true, if_false, Bool.true_and]
    exact hs
theorem eqf_nil {P : Program} {d : Nat} {xs ys : Array Value} {w : World} : (Op.eqFields d xs ys []).run P w = .ok true w := by simp [Op.eqFields]
/-- a row's cell i is of its type -/
theorem okRow_at {P : Program} {w : World} {r : Reach} {base : Nat} {t : TypeId} {l : List Value} {ts : List TypeId} (hts : P.cellTypes P.depth t = some ts) (h : Row.okWide P w r base t ⟨l⟩) (i : Nat) (v : Value) (u : TypeId) (hv : l[i]? = some v) (hu : ts[i]? = some u) : Cell.okWide P w r base u v := by
  obtain ⟨ts', h1, _, h2⟩ := h
  rw [hts] at h1
  cases h1
  obtain ⟨u', h3, h4⟩ := h2 i v (by simpa using hv)
  have hlt : i < ts.length := (List.getElem?_eq_some_iff.1 hu).1
  rw [Nat.mod_eq_of_lt hlt, hu] at h3
  cases h3
  exact h4
theorem cell_u8 {P : Program} {w : World} {r : Reach} {base : Nat} {t : TypeId} {v : Value} (ht : P.underlying t = some (.int .u8)) (h : Cell.okWide P w r base t v) : ∃ u : UInt8, v = .int .u8 u.toNat := by
  simp only [Cell.okWide, ht] at h
  cases v with
  | int k n =>
    simp only [Cell.ok, ht] at h
    obtain ⟨rfl, hn⟩ := h
    have hb : 0 ≤ n ∧ n ≤ 255 := by
      simp [IntKind.has, IntKind.min, IntKind.max, IntKind.signed, IntKind.bits] at hn
      omega
    refine ⟨UInt8.ofNat n.toNat, congrArg _ ?_⟩
    have : n.toNat % 256 = n.toNat := by omega
    simp [this]
    omega
  | _ => simp [Cell.ok, ht] at h
theorem cell_u16 {P : Program} {w : World} {r : Reach} {base : Nat} {t : TypeId} {v : Value} (ht : P.underlying t = some (.int .u16)) (h : Cell.okWide P w r base t v) : ∃ u : UInt16, v = .int .u16 u.toNat := by
  simp only [Cell.okWide, ht] at h
  cases v with
  | int k n =>
    simp only [Cell.ok, ht] at h
    obtain ⟨rfl, hn⟩ := h
    have hb : 0 ≤ n ∧ n ≤ 65535 := by
      simp [IntKind.has, IntKind.min, IntKind.max, IntKind.signed, IntKind.bits] at hn
      omega
    refine ⟨UInt16.ofNat n.toNat, congrArg _ ?_⟩
    have : n.toNat % 65536 = n.toNat := by omega
    simp [this]
    omega
  | _ => simp [Cell.ok, ht] at h
theorem cell_bool {P : Program} {w : World} {r : Reach} {base : Nat} {t : TypeId} {v : Value} (ht : P.underlying t = some .bool) (h : Cell.okWide P w r base t v) : ∃ b, v = .bool b := by
  simp only [Cell.okWide, ht] at h
  cases v <;> simp_all [Cell.ok]
theorem cell_str {P : Program} {w : World} {r : Reach} {base : Nat} {t : TypeId} {v : Value} (ht : P.underlying t = some .string) (h : Cell.okWide P w r base t v) : ∃ l : List UInt8, v = .string ⟨l.toArray⟩ := by
  simp only [Cell.okWide, ht] at h
  cases v <;> simp_all [Cell.ok]
  rename_i s
  exact ⟨s.data.toList, by simp⟩
theorem vlist17 {l : List Value} (h : l.length = 17) : ∃ v0 v1 v2 v3 v4 v5 v6 v7 v8 v9 v10 v11 v12 v13 v14 v15 v16, l = [v0, v1, v2, v3, v4, v5, v6, v7, v8, v9, v10, v11, v12, v13, v14, v15, v16] := by
  match l, h with
  | [v0, v1, v2, v3, v4, v5, v6, v7, v8, v9, v10, v11, v12, v13, v14, v15, v16], _ => exact ⟨v0, v1, v2, v3, v4, v5, v6, v7, v8, v9, v10, v11, v12, v13, v14, v15, v16, rfl⟩
end Go.Proofs.Ytieopgmmjpmflaa
