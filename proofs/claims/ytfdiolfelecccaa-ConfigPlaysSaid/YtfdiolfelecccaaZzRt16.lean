/- Layer 16: the document's table in memory; Middle. -/
import Derived.Test.YtfdiolfelecccaaZzR16
namespace Go.Proofs.Ytfdiolfelecccaa
open Go.RowKit
set_option linter.unusedVariables false
set_option linter.unusedSimpArgs false
set_option maxRecDepth 100000

/-- an association with the place of its numbers -/
structure AsX where
  a : As
  b : Option Addr
  c : Nat
def asE (x : AsX) : List Value := [.int .u8 x.a.l.toNat, .string ⟨x.a.d.toArray⟩, .string ⟨x.a.n.toArray⟩, .int .u16 x.a.v.toNat, .int .u8 x.a.i.toNat, .slice x.b x.a.m.length x.c]
def mpE (x : Mp) : List Value := [.int .i64 x.a, .int .u16 x.m.toNat, .int .u8 x.p.toNat, .bool x.u]
def miE (x : Mi) : List Value := [.int .u8 x.p.toNat, .int .u16 x.v.toNat, .int .u8 x.l.toNat]
/-- where a table's rows are -/
structure TbX where
  LA : List AsX
  A : Option Addr
  ca : Nat
  E : Option Addr
  ce : Nat
  M : Option Addr
  cm : Nat
abbrev TbC (T : Tb) (X : TbX) : Array Value := #[.int .i64 (T.n : Int), .slice X.A T.A.length X.ca, .slice X.E T.E.length X.ce, .slice X.M T.M.length X.cm]
/-- the document's table -/
structure TbD (w : World) (T : Tb) (X : TbX) : Prop where
  la : X.LA.map AsX.a = T.A
  ea : Els 6 asE w X.A X.LA
  em : ∀ x ∈ X.LA, Els 1 u16c w x.b x.a.m
  ee : Els 4 mpE w X.E T.E
  mm : Els 3 miE w X.M T.M
  za : X.A = none → X.ca = 0
  ze : X.E = none → X.ce = 0
  zm : X.M = none → X.cm = 0
theorem TbD.next {w w' : World} {T : Tb} {X : TbX} (h : TbD w T X) (hb : Below w.heap.size w w') : TbD w' T X :=
  ⟨h.la, h.ea.next hb, fun x hx => (h.em x hx).next hb, h.ee.next hb, h.mm.next hb, h.za, h.ze, h.zm⟩
theorem mi_at {w : World} {A : Option Addr} {l : List Mi} {i : Nat} {x : Mi} (h : Els 3 miE w A l) (hx : l[i]? = some x) : ∃ b off, A = some ⟨b, off, none⟩ ∧ b < w.heap.size ∧ w.cell? ⟨b, off + i * 3, none⟩ = some (.int .u8 x.p.toNat) ∧ w.cell? ⟨b, off + i * 3 + 1, none⟩ = some (.int .u16 x.v.toNat) ∧ w.cell? ⟨b, off + i * 3 + 2, none⟩ = some (.int .u8 x.l.toNat) := by
  obtain ⟨hi, rfl⟩ := List.getElem?_eq_some_iff.1 hx
  obtain ⟨b, off, e, hlt, hc⟩ := h (by omega)
  exact ⟨b, off, e, hlt, hc i hi 0 _ rfl, hc i hi 1 _ rfl, hc i hi 2 _ rfl⟩
theorem find_at {α : Type} {p : α → Bool} {l : List α} {k : Nat} {x : α} (h : ∀ y ∈ l.take k, p y = false) (hx : l[k]? = some x) (hp : p x = true) : l.find? p = some x := by
  obtain ⟨hk, he⟩ := List.getElem?_eq_some_iff.1 hx
  have e : l = l.take k ++ (x :: l.drop (k + 1)) := by rw [← he, ← List.drop_eq_getElem_cons hk, List.take_append_drop]
  rw [e, List.find?_append]
  have : (l.take k).find? p = none := by
    rw [List.find?_eq_none]
    intro y hy
    rw [h y hy]
    simp
  rw [this]
  simp [hp]
theorem find_no {α : Type} {p : α → Bool} {l : List α} (h : ∀ y ∈ l, p y = false) : l.find? p = none := by
  rw [List.find?_eq_none]
  intro y hy
  rw [h y hy]
  simp
set_option maxHeartbeats 4000000 in
theorem refmid16_any (T : Tb) (X : TbX) (p : UInt8) (v : UInt16) (w : World) (hT : TbD w T X) (hm : T.M.length ≤ 1000) :
    Calls Try.prog 31 #[.agg (TbC T X), .int .u8 p.toNat, .int .u16 v.toNat] w fun e w' => e = .returned (.int .i64 (T.mid p v)) ∧ Below w.heap.size w w' := by
  have HB0 : Hid (Below w.heap.size w (w.alloc (.cells (TbC T X) 34))) := Lib.hid ((Below.refl _ _).alloc (Nat.le_refl _) _)
  have HK0 : Hid (Blk (w.alloc (.cells (TbC T X) 34)) w.heap.size 34 (TbC T X)) := Lib.hid (Blk.new _ _ _)
  have HM0 : Hid (Els 3 miE (w.alloc (.cells (TbC T X) 34)) X.M T.M) := Lib.hid (hT.mm.next HB0.out)
  obtain ⟨n, hn⟩ : ∃ n, T.M.length = n := ⟨_, rfl⟩
  have HN := Lib.hid hn
  rw [hn] at hm
  have hnl : (n : Int) ≤ 1000 := by omega
  clear hm
  obtain ⟨w0, hw0⟩ : ∃ w0, w.alloc (.cells (TbC T X) 34) = w0 := ⟨_, rfl⟩
  rw [hw0] at HB0 HK0 HM0
  simp only [TbC, hn] at HK0
  have k3 := HK0.out.cell 3
  simp only [List.getElem?_toArray, List.getElem?_cons_succ, List.getElem?_cons_zero] at  k3
  clear hT
  show Calls _ _ #[.agg #[.int .i64 (T.n : Int), .slice X.A T.A.length X.ca, .slice X.E T.E.length X.ce, .slice X.M T.M.length X.cm], _, _] _ _
  have HW := Lib.hid hw0
  have hw1 : w.alloc (.cells #[.int .i64 (T.n : Int), .slice X.A T.A.length X.ca, .slice X.E T.E.length X.ce, .slice X.M n X.cm] 34) = w0 := by rw [← hn]; exact hw0
  rw [hn]
  clear hw0 hn
  go_enter Try.func31, Try.ntmps31
  go_wp2
  try rw [hw1]
  clear hw1 HW
  go_loopw [7] (fun i wr => ∃ k : Nat, k ≤ n ∧ i = .int .i64 k ∧ Hid (∀ y ∈ T.M.take k, (y.p == p && y.v == v) = false) ∧ wr = w0) (fun i _ => n - (intOf i).toNat)
  case atStart => exact ⟨0, Nat.zero_le _, rfl, Lib.hid (by simp), rfl⟩
  case round =>
    obtain ⟨k, hk, rfl, HZ, rfl⟩ := hrel
    by_cases hlt : k < n
    · obtain ⟨x, hx⟩ : ∃ x, T.M[k]? = some x := ⟨_, List.getElem?_eq_getElem (by rw [HN.out]; exact hlt)⟩
      have hki : (k : Int) < n := by omega
      obtain ⟨b, off, hA, hb, c0, c1, c2⟩ := mi_at HM0.out hx
      rw [hA] at k3
      have HX := Lib.hid hx
      have HLT := Lib.hid hlt
      clear hx hb hlt
      by_cases e1 : x.p = p
      · have q1 : ((x.p.toNat : Int) == (p.toNat : Int)) = true := by rw [e1]; simp
        by_cases e2 : x.v = v
        · have q2 : ((x.v.toNat : Int) == (v.toNat : Int)) = true := by rw [e2]; simp
          have HR : Hid (T.mid p v = (x.l.toNat : Int)) := Lib.hid (by
            unfold Tb.mid
            rw [find_at HZ.out HX.out (by simp [e1, e2])])
          have hwr : IntKind.i64.wrap (x.l.toNat : Int) = (x.l.toNat : Int) := by have := x.l.toNat_lt; simp [IntKind.wrap, IntKind.signed, IntKind.bits]; omega
          clear e1 e2 hA
          go_wp2
          go_ret
          exact ⟨by rw [HR.out]; rfl, HB0.out⟩
        · have q2 : ((x.v.toNat : Int) == (v.toNat : Int)) = false := by
            rw [beq_eq_false_iff_ne]
            intro h
            exact e2 (UInt16.toNat_inj.1 (by omega))
          have HZ1 : Hid (∀ y ∈ T.M.take (k + 1), (y.p == p && y.v == v) = false) := Lib.hid (by
            obtain ⟨hk', he⟩ := List.getElem?_eq_some_iff.1 HX.out
            rw [List.take_succ_eq_append_getElem hk', he]
            intro y hy
            rcases List.mem_append.1 hy with hy | hy
            · exact HZ.out y hy
            · rw [List.mem_singleton.1 hy]; simp [e2])
          clear e1 e2 hA
          go_wp2
          go_roundw
          case rel => exact ⟨k + 1, by have := HLT.out; omega, by go_num, HZ1, by first | exact rfl | trivial⟩
          case measure => have := HLT.out; simp [intOf]; omega
      · have q1 : ((x.p.toNat : Int) == (p.toNat : Int)) = false := by
          rw [beq_eq_false_iff_ne]
          intro h
          exact e1 (UInt8.toNat_inj.1 (by omega))
        have HZ1 : Hid (∀ y ∈ T.M.take (k + 1), (y.p == p && y.v == v) = false) := Lib.hid (by
          obtain ⟨hk', he⟩ := List.getElem?_eq_some_iff.1 HX.out
          rw [List.take_succ_eq_append_getElem hk', he]
          intro y hy
          rcases List.mem_append.1 hy with hy | hy
          · exact HZ.out y hy
          · rw [List.mem_singleton.1 hy]; simp [e1])
        clear e1 hA
        go_wp2
        go_roundw
        case rel => exact ⟨k + 1, by have := HLT.out; omega, by go_num, HZ1, by first | exact rfl | trivial⟩
        case measure => have := HLT.out; simp [intOf]; omega
    · obtain rfl : k = n := by omega
      have HR : Hid (T.mid p v = -1) := Lib.hid (by
        unfold Tb.mid
        rw [find_no (by
          have := HZ.out
          rwa [List.take_of_length_le (by rw [HN.out]; exact Nat.le_refl _)] at this)])
      go_wp2
      go_ret
      exact ⟨by rw [HR.out]; rfl, HB0.out⟩
end Go.Proofs.Ytfdiolfelecccaa
