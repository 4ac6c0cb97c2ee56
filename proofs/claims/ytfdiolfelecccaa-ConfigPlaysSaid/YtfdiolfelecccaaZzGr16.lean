/- Layer 16: acts as a row, as arguments; Great. -/
import Derived.Test.YtfdiolfelecccaaZzLaw16
import Derived.Test.YtfdiolfelecccaaZz
namespace Go.Proofs.Ytfdiolfelecccaa
open Go.ChangeShapes Go.WideShapes Go.ChangeAt Go.RowKit
open Go.ChangeMaps (open_string)
set_option linter.unusedVariables false
set_option linter.unusedSimpArgs false
set_option maxRecDepth 100000

/-- an act with the place of its numbers -/
structure AcX where
  x : Ac
  B : Option Addr
  c : Nat
def acE (y : AcX) : List Value := [.int .u8 y.x.k.toNat, .int .u8 y.x.a.l.toNat, .string ⟨y.x.a.d.toArray⟩, .string ⟨y.x.a.n.toArray⟩, .int .u16 y.x.a.v.toNat, .int .u8 y.x.a.i.toNat, .slice y.B y.x.a.m.length y.c, .int .i64 y.x.e.a, .int .u16 y.x.e.m.toNat, .int .u8 y.x.e.p.toNat, .bool y.x.e.u, .int .u8 y.x.m.p.toNat, .int .u16 y.x.m.v.toNat, .int .u8 y.x.m.l.toNat]
theorem acE_len (y : AcX) : (acE y).length = 14 := rfl
/-- its numbers read -/
def AcQ (w : World) (y : AcX) : Prop := Els 1 u16c w y.B y.x.a.m ∧ y.x.a.m.length ≤ maxLen ∧ (y.B = none → y.c = 0)
theorem AcQ.next {w w' : World} {y : AcX} (h : AcQ w y) (hb : Below w.heap.size w w') : AcQ w' y := ⟨h.1.next hb, h.2⟩
theorem ac_at {w : World} {A : Option Addr} {l : List AcX} {i : Nat} {y : AcX} (h : Els 14 acE w A l) (hx : l[i]? = some y) : ∃ b off, A = some ⟨b, off, none⟩ ∧ b < w.heap.size ∧ w.cell? ⟨b, off + i * 14, none⟩ = some (.int .u8 y.x.k.toNat) ∧ w.cell? ⟨b, off + i * 14 + 1, none⟩ = some (.int .u8 y.x.a.l.toNat) ∧ w.cell? ⟨b, off + i * 14 + 2, none⟩ = some (.string ⟨y.x.a.d.toArray⟩) ∧ w.cell? ⟨b, off + i * 14 + 3, none⟩ = some (.string ⟨y.x.a.n.toArray⟩) ∧ w.cell? ⟨b, off + i * 14 + 4, none⟩ = some (.int .u16 y.x.a.v.toNat) ∧ w.cell? ⟨b, off + i * 14 + 5, none⟩ = some (.int .u8 y.x.a.i.toNat) ∧ w.cell? ⟨b, off + i * 14 + 6, none⟩ = some (.slice y.B y.x.a.m.length y.c) ∧ w.cell? ⟨b, off + i * 14 + 7, none⟩ = some (.int .i64 y.x.e.a) ∧ w.cell? ⟨b, off + i * 14 + 8, none⟩ = some (.int .u16 y.x.e.m.toNat) ∧ w.cell? ⟨b, off + i * 14 + 9, none⟩ = some (.int .u8 y.x.e.p.toNat) ∧ w.cell? ⟨b, off + i * 14 + 10, none⟩ = some (.bool y.x.e.u) ∧ w.cell? ⟨b, off + i * 14 + 11, none⟩ = some (.int .u8 y.x.m.p.toNat) ∧ w.cell? ⟨b, off + i * 14 + 12, none⟩ = some (.int .u16 y.x.m.v.toNat) ∧ w.cell? ⟨b, off + i * 14 + 13, none⟩ = some (.int .u8 y.x.m.l.toNat) := by
  obtain ⟨hi, rfl⟩ := List.getElem?_eq_some_iff.1 hx
  obtain ⟨b, off, e, hlt, hc⟩ := h (by omega)
  exact ⟨b, off, e, hlt, hc i hi 0 _ rfl, hc i hi 1 _ rfl, hc i hi 2 _ rfl, hc i hi 3 _ rfl, hc i hi 4 _ rfl, hc i hi 5 _ rfl, hc i hi 6 _ rfl, hc i hi 7 _ rfl, hc i hi 8 _ rfl, hc i hi 9 _ rfl, hc i hi 10 _ rfl, hc i hi 11 _ rfl, hc i hi 12 _ rfl, hc i hi 13 _ rfl⟩
/-- is an act great? -/
def grA (y : AcX) : Bool := decide (20 < y.x.a.m.length) || (decide (100 < y.x.a.d.length) || decide (100 < y.x.a.n.length))
def grt (L : List AcX) : Bool := decide (60 < L.length) || L.any grA
set_option maxHeartbeats 4000000 in
theorem great16_any (A : Option Addr) (c : Nat) (L : List AcX) (w : World) (hE : Els 14 acE w A L) :
    Calls Try.prog 6 #[.slice A L.length c] w fun e w' => e = .returned (.bool (grt L)) ∧ Below w.heap.size w w' := by
  obtain ⟨n, hn⟩ : ∃ n, L.length = n := ⟨_, rfl⟩
  have HN := Lib.hid hn
  have HE := Lib.hid hE
  rw [hn]
  by_cases h60 : 60 < n
  · have p0 : (60 : Int) < (n : Int) := by omega
    have HG : Hid (grt L = true) := Lib.hid (by unfold grt; rw [HN.out, decide_eq_true h60]; rfl)
    clear h60 hn hE
    go_enter Try.func6, Try.ntmps6
    go_wp2
    go_ret
    exact ⟨by rw [HG.out]; rfl, Below.refl _ _⟩
  · have p0 : ¬ (60 : Int) < (n : Int) := by omega
    have HG : Hid (grt L = L.any grA) := Lib.hid (by unfold grt; rw [HN.out, decide_eq_false h60]; rfl)
    have HB0 := Lib.hid (Below.refl w.heap.size w)
    clear h60 hn hE
    go_enter Try.func6, Try.ntmps6
    go_wp2
    go_loopw [3] (fun i wr => ∃ k : Nat, k ≤ n ∧ i = .int .i64 k ∧ Hid (∀ y ∈ L.take k, grA y = false) ∧ Hid (Below w.heap.size w wr)) (fun i _ => n - (intOf i).toNat)
    case atStart => exact ⟨0, Nat.zero_le _, rfl, Lib.hid (by simp), HB0⟩
    case round =>
      obtain ⟨k, hk, rfl, HZ, HB⟩ := hrel
      by_cases hlt : k < n
      · obtain ⟨y, hy⟩ : ∃ y, L[k]? = some y := ⟨_, List.getElem?_eq_getElem (by rw [HN.out]; exact hlt)⟩
        obtain ⟨b, off, rfl, hb, a0, a1, a2, a3, a4, a5, a6, a7, a8, a9, a10, a11, a12, a13⟩ := ac_at (HE.out.next HB.out) hy
        have hki : (k : Int) < n := by omega
        have HB1 : Hid (Below w.heap.size w (wr.alloc (.cells #[.int .u8 y.x.a.l.toNat, .string ⟨y.x.a.d.toArray⟩, .string ⟨y.x.a.n.toArray⟩, .int .u16 y.x.a.v.toNat, .int .u8 y.x.a.i.toNat, .slice y.B y.x.a.m.length y.c] 37))) := Lib.hid (HB.out.alloc HB.out.size _)
        have HLT := Lib.hid hlt
        have HY := Lib.hid hy
        clear hlt hy a0 a7 a8 a9 a10 a11 a12 a13
        cases hc : grA y
        · have HZ1 := Lib.hid (all_snoc16 (p := grA) HZ.out HY.out hc)
          unfold grA at hc
          simp only [Bool.or_eq_false_iff, decide_eq_false_iff_not] at hc
          obtain ⟨h1, h2, h3⟩ := hc
          have p1 : ¬ (20 : Int) < (y.x.a.m.length : Int) := by omega
          have p2 : ¬ (100 : Int) < (y.x.a.d.length : Int) := by omega
          have p3 : ¬ (100 : Int) < (y.x.a.n.length : Int) := by omega
          clear h1 h2 h3
          go_wp2
          go_roundw
          case rel => exact ⟨k + 1, by have := HLT.out; omega, by go_num, HZ1, HB1⟩
          case measure => have := HLT.out; simp [intOf]; omega
        · have HT : Hid (grt L = true) := Lib.hid (by rw [HG.out]; exact List.any_eq_true.2 ⟨y, List.mem_of_getElem? HY.out, hc⟩)
          have hq : (20 : Int) < (y.x.a.m.length : Int) ∨ (¬ (20 : Int) < (y.x.a.m.length : Int) ∧ ((100 : Int) < (y.x.a.d.length : Int) ∨ (¬ (100 : Int) < (y.x.a.d.length : Int) ∧ (100 : Int) < (y.x.a.n.length : Int)))) := by
            unfold grA at hc
            simp only [Bool.or_eq_true, decide_eq_true_eq] at hc
            omega
          clear hc
          rcases hq with p1 | ⟨p1, p2 | ⟨p2, p3⟩⟩
          all_goals (
            go_wp2
            go_ret
            exact ⟨by rw [HT.out]; rfl, HB1.out⟩)
      · obtain rfl : n = k := by omega
        rw [List.take_of_length_le (by rw [HN.out]; exact Nat.le_refl _)] at HZ
        have HT : Hid (grt L = false) := Lib.hid (by rw [HG.out]; exact any_no16 HZ.out)
        go_wp2
        go_ret
        exact ⟨by rw [HT.out]; rfl, HB.out⟩
end Go.Proofs.Ytfdiolfelecccaa
