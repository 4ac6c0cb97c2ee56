/- Layer 11: the document's Take. -/
import Derived.Test.YtjcfdkchnikbmaaTl
import Derived.Test.YtjcfdkchnikbmaaTlTk
import Derived.Deep.RegionLaw
import Derived.Deep.DeepCutAuto
import Derived.BigQuiet
import Derived.Deep.QuietTactic
namespace Go.Proofs.Ytjcfdkchnikbmaa
open Go.RowKit
set_option linter.unusedVariables false
set_option linter.unusedSimpArgs false
set_option maxRecDepth 100000

theorem tks3 {x a b : UInt8} {r : List UInt8} (hx : x ≠ 0) : tks (x :: a :: b :: r) = if r.length < a.toNat * 256 + b.toNat then none else (tks (r.drop (a.toNat * 256 + b.toNat))).map (fun q => (⟨x, r.take (a.toNat * 256 + b.toNat)⟩ :: q.1, q.2)) := by
  have hn : num [a, b] = a.toNat * 256 + b.toNat := by simp [num]
  rw [tks_cons x _ hx, if_neg (by simp)]
  simp only [List.take_succ_cons, List.take_zero, List.drop_succ_cons, List.drop_zero, hn]
theorem tks2 {x : UInt8} {r : List UInt8} (hx : x ≠ 0) (h : r.length < 2) : tks (x :: r) = none := by
  rw [tks_cons x _ hx, if_pos h]
theorem tk_more {s : List UInt8} {x : Tl} {r : List UInt8} (h : tks s = (tks r).map (fun q => (x :: q.1, q.2))) : (tkErr s = tkErr r) ∧ (tkErr r = 0 → tkX s = x :: tkX r ∧ tkR s = tkR r) ∧ (tkErr r ≠ 0 → tkX s = [] ∧ tkR s = [] ∧ tkErr s = 3) := by
  unfold tkX tkR tkErr
  rw [h]
  cases tks r with
  | none => exact ⟨rfl, fun h => by simp at h, fun _ => ⟨rfl, rfl, rfl⟩⟩
  | some p => exact ⟨rfl, fun _ => ⟨rfl, rfl⟩, fun h => by simp at h⟩
theorem tkErr_or (s : List UInt8) : tkErr s = 0 ∨ tkErr s = 3 := by
  unfold tkErr
  split <;> simp
theorem byteL (l : List UInt8) (i : Nat) (h : i < (⟨l.toArray⟩ : ByteArray).size) : (⟨l.toArray⟩ : ByteArray)[i]'h = l.getD i 0 := by
  have h' : i < l.length := h
  show l.toArray[i] = _
  rw [List.getElem_toArray, List.getD_eq_getElem?_getD, List.getElem?_eq_getElem h']
  rfl
theorem cut_end (s d : List UInt8) (i : Nat) (hi : i ≤ s.length) (hd : s.drop i = d) (w : World) :
    (Instr.slice 9 (.string ⟨s.toArray⟩) (some (.int .i64 (i : Int))) none none).run Try.prog w = .ok (.string ⟨d.toArray⟩) w := by
  rw [run_slice_string_l (P := Try.prog) (w := w) (s := ⟨s.toArray⟩) (t := 9) Try.underlying9 .i64 (i : Int) (by omega) (by show (i : Int) ≤ (s.length : Int); omega)]
  have e : (⟨s.toArray⟩ : ByteArray).extract i (⟨s.toArray⟩ : ByteArray).size = ⟨d.toArray⟩ := by
    rw [← hd]
    exact extract_drop s i
  simp only [Int.toNat_natCast, e]
theorem cut_mid (s d : List UInt8) (i j : Nat) (hij : i ≤ j) (hj : j ≤ s.length) (hd : (s.take j).drop i = d) (w : World) :
    (Instr.slice 9 (.string ⟨s.toArray⟩) (some (.int .i64 (i : Int))) (some (.int .i64 (j : Int))) none).run Try.prog w = .ok (.string ⟨d.toArray⟩) w := by
  rw [run_slice_string (w := w) 9 ⟨s.toArray⟩ _ _ _ _ Try.underlying9 (by omega) (by omega) (by show (j : Int) ≤ (s.length : Int); omega)]
  have e : (⟨s.toArray⟩ : ByteArray).extract i j = ⟨d.toArray⟩ := by
    rw [← hd]
    apply ByteArray.ext
    simp [ByteArray.data_extract, List.drop_take]
  simp only [Int.toNat_natCast, e]
theorem infoRl : (Try.prog.info? 53).map (fun i => (i.zero, i.size, i.bytes)) = some (some (.agg #[.int .u8 0, .string ⟨#[]⟩]), 2, 24) := by kernel_rfl
/-- a slice just made, of one thing, is the call's own -/
theorem own_newL (w : World) (base : Nat) (hb : base ≤ w.heap.size) (t : TypeId) (x : Tl) : (w.alloc (.cells (tlV x).toArray t)).ownsRow base t 2 (.slice (some ⟨w.heap.size, 0, none⟩) 1 1) [x].length ([x].flatMap tlV) := by
  refine ⟨by simp [tlV], .inr ⟨w.heap.size, 1, (tlV x).toArray, rfl, hb, heap_alloc_new w _, by simp, by decide, by simp [tlV], by simp [tlV]⟩⟩
end Go.Proofs.Ytjcfdkchnikbmaa
