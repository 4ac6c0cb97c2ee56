/- Texts of several layers, laid together. -/
import Derived.Test.YtkmdgpfaaniibaaRows
import Derived.WalkKit
import Derived.ProofKit
import Derived.Below
import Derived.Lib.Hide
import Derived.Deep.Draws
import Derived.Shelf.Strconv.Itoa0
import Derived.Outline
import Derived.Laws.BitsAllLaws
import Derived.Maps.AppendAt
import Derived.Laws.AppendOwnNone
import Derived.OwnWalk
import Derived.OpenShut
import Derived.ShutString
import Derived.ChangeOld
import Derived.Deep.Slices
import Derived.Deep.Fields
import Derived.ChangeSame
import Derived.Deep.RegionLaw
import Derived.Conc.LoneCalls
import Derived.Conc.LoneSelectN
import Derived.Conc.LoneSelect
import Derived.Laws.Rows
import Derived.Laws.Tables
import Derived.Deep.WholeRow
import Derived.StillTailTactics
import Derived.Laws.StructEq
import Derived.Sort.Grow
import Derived.Laws.IdiomStrings
import Derived.Lib.BufferRead
import Derived.Laws.IdiomCopy
import Derived.Lib.AppendStr
import Derived.Deep.DeepCutAuto
import Derived.WalkMore
import Derived.Stop.BytesEq
import Derived.Deep.RegionHeld3
import Derived.BigQuiet
import Derived.Deep.QuietTactic
import Derived.Laws.Concat
import Derived.Laws.RangeAny
import Derived.LoopTactic
import Derived.RegionTactic
import Derived.Deep.RegionWith
import Derived.ChangeAlike
import Derived.Maps.OwnSet
import Derived.Maps.RangeWalk
import Derived.RangeFuncFrom
import Derived.RangeFuncNested
import Derived.RangeFuncBound
import Derived.RangeFuncCalls
import Derived.RangeFuncLeaves
import Derived.Shelf.Abstract
import Derived.Shelf.RegionOpen
import Derived.Sort.MapsRangeIn
import Derived.OwnWalkIn
import Derived.TacticsInMore
import Derived.RegionIn
import Derived.LoopNIn
import Derived.LoopIn
import Derived.Laws.IdiomRangeMap
import Derived.BigRegion
import Derived.IntWalk

/- Plain words on memory for this seat's proofs: a block known whole; a world that changed in some blocks alone. -/
namespace Go.Proofs.Ytkmdgpfaaniibaa
open Go.RowKit
set_option linter.unusedVariables false
set_option linter.unusedSimpArgs false
set_option maxRecDepth 100000

/-- block g is just these cells, of type t, none of them frozen -/
def Blk (w : World) (g : Nat) (t : TypeId) (cs : Array Value) : Prop := w.heap[g]? = some (.cells cs t (0, 0))

/-- of the blocks that were there, those outside S are as they were -/
structure Chg (S : Nat → Prop) (w w' : World) : Prop where
  os : w'.os = w.os
  tape : w'.tape = w.tape
  output : w'.output = w.output
  size : w.heap.size ≤ w'.heap.size
  block : ∀ k, k < w.heap.size → ¬ S k → w'.heap[k]? = w.heap[k]?

section
variable {S S' : Nat → Prop} {w w' w'' : World} {g : Nat} {t : TypeId} {cs : Array Value}

theorem Chg.refl (S : Nat → Prop) (w : World) : Chg S w w := ⟨rfl, rfl, rfl, Nat.le_refl _, fun _ _ _ => rfl⟩
theorem Chg.trans (h : Chg S w w') (h' : Chg S w' w'') : Chg S w w'' :=
  ⟨h'.os.trans h.os, h'.tape.trans h.tape, h'.output.trans h.output, Nat.le_trans h.size h'.size,
   fun k hk hs => (h'.block k (Nat.lt_of_lt_of_le hk h.size) hs).trans (h.block k hk hs)⟩
theorem Chg.mono (h : Chg S w w') (hs : ∀ k, k < w.heap.size → S k → S' k) : Chg S' w w' :=
  ⟨h.os, h.tape, h.output, h.size, fun k hk hn => h.block k hk (fun hk' => hn (hs k hk hk'))⟩
theorem Chg.drew (h : Chg S w w') : Chg S w w'.drew := ⟨h.os, h.tape, h.output, h.size, h.block⟩
theorem Chg.drewN (h : Chg S w w') (n : Nat) : Chg S w (w'.drewN n) := ⟨h.os, h.tape, h.output, h.size, h.block⟩
theorem Chg.alloc (h : Chg S w w') (o : Obj) : Chg S w (w'.alloc o) :=
  ⟨h.os, h.tape, h.output, Nat.le_trans h.size (by simp), fun k hk hn => (Below.heap_alloc w' o k (Nat.lt_of_lt_of_le hk h.size)).trans (h.block k hk hn)⟩
theorem Chg.setCell (h : Chg S w w') {p : Addr} (hp : w.heap.size ≤ p.block ∨ S p.block) (u : Value) : Chg S w (w'.setCell p u) :=
  ⟨h.os, h.tape, h.output, Nat.le_trans h.size (by simp [World.setCell]), fun k hk hn => by
    rw [Below.heap_setCell w' p u k (by rintro rfl; exact hp.elim (fun hp => by omega) (fun hp => hn hp))]
    exact h.block k hk hn⟩
theorem Chg.of_below (h : Below w.heap.size w w') : Chg S w w' := ⟨h.os, h.tape, h.output, h.size, fun k hk _ => h.block k hk⟩
theorem Chg.below {B : Nat} (h : Chg S w w') (hB : B ≤ w.heap.size) (hs : ∀ k, k < B → ¬ S k) : Below B w w' :=
  ⟨h.os, h.tape, h.output, h.size, fun k hk => h.block k (Nat.lt_of_lt_of_le hk hB) (hs k hk)⟩
theorem Chg.of_grown {row : Option Nat} (h : w.grownBy w' row) (hr : ∀ k, row = some k → w.heap.size ≤ k ∨ S k) : Chg S w w' :=
  ⟨h.os, h.tape, h.output, h.size, fun k hk hn => h.block k hk (fun e => (hr k e.symm).elim (fun hp => by omega) (fun hp => hn hp))⟩
theorem Chg.cell (h : Chg S w w') {p : Addr} (hp : p.block < w.heap.size) (hn : ¬ S p.block) : w'.cell? p = w.cell? p :=
  World.cell?_of_block (w := w) (h.block p.block hp hn)
theorem Chg.frozen (h : Chg S w w') {p : Addr} (hp : p.block < w.heap.size) (hn : ¬ S p.block) : w'.frozen? p = w.frozen? p :=
  World.frozen?_of_block (w := w) (h.block p.block hp hn)

theorem Blk.lt (h : Blk w g t cs) : g < w.heap.size := by
  rcases Nat.lt_or_ge g w.heap.size with hlt | hge
  · exact hlt
  · unfold Blk at h; rw [Array.getElem?_eq_none hge] at h; cases h
theorem Blk.cell (h : Blk w g t cs) (i : Nat) : w.cell? ⟨g, i, none⟩ = cs[i]? := cell_of_row w g i cs t (0, 0) h
theorem Blk.frozen (h : Blk w g t cs) (i : Nat) : w.frozen? ⟨g, i, none⟩ = false := by
  unfold Blk at h
  simp [World.frozen?, h]
theorem Blk.new (w : World) (t : TypeId) (cs : Array Value) : Blk (w.alloc (.cells cs t)) w.heap.size t cs := heap_alloc_new w _
theorem Blk.drew (h : Blk w g t cs) : Blk w.drew g t cs := h
theorem Blk.drewN (h : Blk w g t cs) (n : Nat) : Blk (w.drewN n) g t cs := h
theorem Blk.alloc (h : Blk w g t cs) (o : Obj) : Blk (w.alloc o) g t cs := (Below.heap_alloc w o g h.lt).trans h
theorem Blk.put (h : Blk w g t cs) (i : Nat) (u : Value) : Blk (w.setCell ⟨g, i, none⟩ u) g t (cs.setIfInBounds i u) := by
  unfold Blk at h ⊢
  simp [World.setCell, Array.getElem?_modify, h]
theorem Blk.far (h : Blk w g t cs) {p : Addr} (hp : g ≠ p.block) (u : Value) : Blk (w.setCell p u) g t cs := (Below.heap_setCell w p u g hp).trans h
theorem Blk.chg (h : Blk w g t cs) (hc : Chg S w w') (hn : ¬ S g) : Blk w' g t cs := (hc.block g h.lt hn).trans h
theorem Blk.below {B : Nat} (h : Blk w g t cs) (hb : Below B w w') (hg : g < B) : Blk w' g t cs := (hb.block g hg).trans h
end

/-- to hold a walk where it stands -/
def Stop (p : Prop) : Prop := p
theorem stop_ {p : Prop} (h : Stop p) : p := h
theorem Stop.go {p : Prop} (h : p) : Stop p := h
theorem ret_ {a b : Value} (h : a = b) : Ending.returned a = Ending.returned b := by rw [h]
theorem extract_drop (l : List UInt8) (n : Nat) : (⟨l.toArray⟩ : ByteArray).extract n l.length = ⟨(l.drop n).toArray⟩ := by
  apply ByteArray.ext
  simp [ByteArray.data_extract, List.take_of_length_le]
theorem extract_take (l : List UInt8) (n : Nat) : (⟨l.toArray⟩ : ByteArray).extract 0 n = ⟨(l.take n).toArray⟩ := by
  apply ByteArray.ext
  simp [ByteArray.data_extract]
end Go.Proofs.Ytkmdgpfaaniibaa


/- Leaves of layer wire: the widths of the four kinds of numbers. -/
namespace Go.Proofs.Ytkmdgpfaaniibaa
open Go.RowKit
set_option linter.unusedVariables false
set_option linter.unusedSimpArgs false
set_option maxRecDepth 100000

def len64_ren : Go.Shelf.Ren := ⟨fun | 129 => 77 | n => n, fun | 53 => 127 | 3 => 3 | 4 => 4 | 46 => 99 | 5 => 5 | 9 => 9 | n => n, fun | n => n⟩
theorem len64_lays : Go.Proofs.Lays.n129 Try.prog len64_ren := {
  mixed := by kernel_rfl
  f129 := Try.func77.trans (congrArg some (by kernel_rfl))
  t3 := Try.underlying3
  a3 := Try.isAgg3
  z3 := Try.sizeOf3
  v3 := Try.zeroValue3
  t4 := Try.underlying4
  a4 := Try.isAgg4
  z4 := Try.sizeOf4
  v4 := Try.zeroValue4
  t5 := Try.underlying5
  a5 := Try.isAgg5
  z5 := Try.sizeOf5
  v5 := Try.zeroValue5
  t9 := Try.underlying9
  a9 := Try.isAgg9
  z9 := Try.sizeOf9
  v9 := Try.zeroValue9
  t46 := Try.underlying99
  a46 := Try.isAgg99
  z46 := Try.sizeOf99
  v46 := Try.zeroValue99
  t53 := Try.underlying127
  a53 := Try.isAgg127
  z53 := Try.sizeOf127
  v53 := Try.zeroValue127 }
theorem len64_any (x : Int) (w : World) (h0 : 0 ≤ x) (h1 : x ≤ 18446744073709551615) :
    Calls Try.prog 77 #[.int .u64 x] w fun e w' => e = .returned (.int .i64 (Lib.bitLen x.toNat)) ∧ w' = w := Any.bits_Len64 len64_lays x w h0 h1


theorem width8 (w : World) : Calls Try.prog 103 #[] w fun e w' => e = .returned (.int .i64 1) ∧ w = w' := by
  have hk : IntKind.u64.wrap (bits BinOp.xor IntKind.u8 IntKind.u8.max 0) = 255 := by kernel_rfl
  have hl : Lib.bitLen 255 = 8 := by kernel_rfl
  have Hk := Lib.hid hk
  have Hl := Lib.hid hl
  clear hk hl
  go_enter Try.func103, Try.ntmps103
  go_wp2_with fail
  rw [Hk.out]
  refine (len64_any _ _ (by omega) (by omega)).mono ?_
  rintro e w' ⟨rfl, rfl⟩
  rw [show ((255 : Int)).toNat = 255 from rfl, Hl.out]
  go_wp2
  go_ret
  exact ⟨by simp, rfl⟩

theorem width16 (w : World) : Calls Try.prog 59 #[] w fun e w' => e = .returned (.int .i64 2) ∧ w = w' := by
  have hk : IntKind.u64.wrap (bits BinOp.xor IntKind.u16 IntKind.u16.max 0) = 65535 := by kernel_rfl
  have hl : Lib.bitLen 65535 = 16 := by kernel_rfl
  have Hk := Lib.hid hk
  have Hl := Lib.hid hl
  clear hk hl
  go_enter Try.func59, Try.ntmps59
  go_wp2_with fail
  rw [Hk.out]
  refine (len64_any _ _ (by omega) (by omega)).mono ?_
  rintro e w' ⟨rfl, rfl⟩
  rw [show ((65535 : Int)).toNat = 65535 from rfl, Hl.out]
  go_wp2
  go_ret
  exact ⟨by simp, rfl⟩

theorem width32 (w : World) : Calls Try.prog 60 #[] w fun e w' => e = .returned (.int .i64 4) ∧ w = w' := by
  have hk : IntKind.u64.wrap (bits BinOp.xor IntKind.u32 IntKind.u32.max 0) = 4294967295 := by kernel_rfl
  have hl : Lib.bitLen 4294967295 = 32 := by kernel_rfl
  have Hk := Lib.hid hk
  have Hl := Lib.hid hl
  clear hk hl
  go_enter Try.func60, Try.ntmps60
  go_wp2_with fail
  rw [Hk.out]
  refine (len64_any _ _ (by omega) (by omega)).mono ?_
  rintro e w' ⟨rfl, rfl⟩
  rw [show ((4294967295 : Int)).toNat = 4294967295 from rfl, Hl.out]
  go_wp2
  go_ret
  exact ⟨by simp, rfl⟩

end Go.Proofs.Ytkmdgpfaaniibaa


/- wire.Reader: contracts of its methods. -/
namespace Go.Proofs.Ytkmdgpfaaniibaa
open Go.RowKit
set_option linter.unusedVariables false
set_option linter.unusedSimpArgs false
set_option maxRecDepth 100000

/-- a reader at block b: what is left, and its error -/
def Rdr (w : World) (b : Nat) (l : List UInt8) (er : Int) : Prop := Blk w b 130 #[.string ⟨l.toArray⟩, .int .i64 er]
def only (b : Nat) : Nat → Prop := fun k => k = b

section
variable {w w' : World} {b : Nat} {l : List UInt8} {er : Int}
theorem Rdr.rest (h : Rdr w b l er) : w.cell? ⟨b, 0, none⟩ = some (.string ⟨l.toArray⟩) := h.cell 0
theorem Rdr.err (h : Rdr w b l er) : w.cell? ⟨b, 1, none⟩ = some (.int .i64 er) := h.cell 1
theorem Rdr.setRest (h : Rdr w b l er) (l' : List UInt8) : Rdr (w.setCell ⟨b, 0, none⟩ (.string ⟨l'.toArray⟩)) b l' er := by
  have := Blk.put h 0 (.string ⟨l'.toArray⟩)
  simpa [Rdr] using this
theorem Rdr.setErr (h : Rdr w b l er) (e : Int) : Rdr (w.setCell ⟨b, 1, none⟩ (.int .i64 e)) b l e := by
  have := Blk.put h 1 (.int .i64 e)
  simpa [Rdr] using this
end

theorem err_any {w : World} {b : Nat} {l : List UInt8} {er : Int} (h : Rdr w b l er) :
    Calls Try.prog 101 #[.pointer (some ⟨b, 0, none⟩)] w fun e w' => e = .returned (.int .i64 er) ∧ w = w' := by
  have h1 := h.err
  clear h
  go_enter Try.func101, Try.ntmps101
  go_wp2
  go_ret
  exact ⟨rfl, rfl⟩

theorem err_nil {w : World} :
    Calls Try.prog 101 #[.pointer none] w fun e w' => e = .returned (.int .i64 1) ∧ w = w' := by
  go_enter Try.func101, Try.ntmps101
  go_wp2
  go_ret
  exact ⟨rfl, rfl⟩

set_option maxHeartbeats 400000 in

set_option maxHeartbeats 400000 in


theorem fail_ok {w : World} {b : Nat} {l : List UInt8} (x : Int) (h : Rdr w b l 0) :
    Calls Try.prog 102 #[.pointer (some ⟨b, 0, none⟩), .int .i64 x] w fun e w' => e = .returned (.tuple #[]) ∧ Rdr w' b l x ∧ Chg (only b) w w' := by
  have h1 := h.err
  have h2 := Blk.frozen h 1
  go_enter Try.func102, Try.ntmps102
  go_wp2_with fail
  refine (err_any h).mono ?_
  rintro e w' ⟨rfl, rfl⟩
  go_wp2
  go_end0
  exact ⟨rfl, h.setErr x, (Chg.refl (only b) _).setCell (.inr (by exact rfl)) _⟩

theorem fail_bad {w : World} {b : Nat} {l : List UInt8} {er : Int} (x : Int) (h : Rdr w b l er) (he : er ≠ 0) :
    Calls Try.prog 102 #[.pointer (some ⟨b, 0, none⟩), .int .i64 x] w fun e w' => e = .returned (.tuple #[]) ∧ w = w' := by
  have h2 : (er == 0) = false := by simpa using he
  go_enter Try.func102, Try.ntmps102
  go_wp2_with fail
  refine (err_any h).mono ?_
  rintro e w' ⟨rfl, rfl⟩
  go_wp2
  go_end0
  exact ⟨rfl, rfl⟩

theorem fail_nil {w : World} (x : Int) :
    Calls Try.prog 102 #[.pointer none, .int .i64 x] w fun e w' => e = .returned (.tuple #[]) ∧ w = w' := by
  go_enter Try.func102, Try.ntmps102
  go_wp2_with fail
  refine err_nil.mono ?_
  rintro e w' ⟨rfl, rfl⟩
  go_wp2
  go_end0
  exact ⟨rfl, rfl⟩

theorem take_nil {w : World} (n : Int) :
    Calls Try.prog 95 #[.pointer none, .int .i64 n] w fun e w' => e = .returned (.string ⟨#[]⟩) ∧ w = w' := by
  go_enter Try.func95, Try.ntmps95
  go_wp2_with fail
  refine err_nil.mono ?_
  rintro e w' ⟨rfl, rfl⟩
  go_wp2
  go_ret
  exact ⟨rfl, rfl⟩

theorem take_bad {w : World} {b : Nat} {l : List UInt8} {er : Int} (n : Int) (h : Rdr w b l er) (he : er ≠ 0) :
    Calls Try.prog 95 #[.pointer (some ⟨b, 0, none⟩), .int .i64 n] w fun e w' => e = .returned (.string ⟨#[]⟩) ∧ w = w' := by
  have h3 : (er != 0) = true := by simpa using he
  go_enter Try.func95, Try.ntmps95
  go_wp2_with fail
  refine (err_any h).mono ?_
  rintro e w' ⟨rfl, rfl⟩
  go_wp2
  go_ret
  exact ⟨rfl, rfl⟩

theorem take_short {w : World} {b : Nat} {l : List UInt8} (n : Int) (h : Rdr w b l 0) (hn : (l.length : Int) < n) :
    Calls Try.prog 95 #[.pointer (some ⟨b, 0, none⟩), .int .i64 n] w fun e w' => e = .returned (.string ⟨#[]⟩) ∧ Rdr w' b l 3 ∧ Chg (only b) w w' := by
  have h1 := h.rest
  go_enter Try.func95, Try.ntmps95
  go_wp2_with fail
  refine (err_any h).mono ?_
  rintro e w' ⟨rfl, rfl⟩
  go_wp2_with fail
  refine (fail_ok 3 h).mono ?_
  rintro e w' ⟨rfl, h', hc⟩
  go_wp2
  go_ret
  exact ⟨rfl, h', hc⟩

theorem take_ok {w : World} {b : Nat} {l : List UInt8} (n : Nat) (h : Rdr w b l 0) (hn : n ≤ l.length) :
    Calls Try.prog 95 #[.pointer (some ⟨b, 0, none⟩), .int .i64 n] w fun e w' => e = .returned (.string ⟨(l.take n).toArray⟩) ∧ Rdr w' b (l.drop n) 0 ∧ Chg (only b) w w' := by
  have h1 := h.rest
  have h2 := Blk.frozen h 0
  go_enter Try.func95, Try.ntmps95
  go_wp2_with fail
  refine (err_any h).mono ?_
  rintro e w' ⟨rfl, rfl⟩
  go_wp2
  go_ret
  rw [extract_drop]
  exact ⟨ret_ (congrArg Value.string (extract_take l n)), h.setRest _, (Chg.refl (only b) _).setCell (.inr (by exact rfl)) _⟩

/-- what so many bytes are, what is left behind them, and the error -/
def tkV (n : Nat) (l : List UInt8) (er : Int) : List UInt8 := if er = 0 ∧ n ≤ l.length then l.take n else []
def tkL (n : Nat) (l : List UInt8) (er : Int) : List UInt8 := if er = 0 ∧ n ≤ l.length then l.drop n else l
def tkE (n : Nat) (l : List UInt8) (er : Int) : Int := if er = 0 ∧ l.length < n then 3 else er
theorem tkV_len (n : Nat) (l : List UInt8) (er : Int) : (tkV n l er).length ≤ n := by
  unfold tkV; split
  · exact List.length_take_le _ _
  · simp

theorem take_any {w : World} {b : Nat} {l : List UInt8} {er : Int} (n : Int) (h0 : 0 ≤ n) (h : Rdr w b l er) :
    Calls Try.prog 95 #[.pointer (some ⟨b, 0, none⟩), .int .i64 n] w fun e w' => e = .returned (.string ⟨(tkV n.toNat l er).toArray⟩) ∧ Rdr w' b (tkL n.toNat l er) (tkE n.toNat l er) ∧ Chg (only b) w w' := by
  obtain ⟨k, rfl⟩ := Int.eq_ofNat_of_zero_le h0
  rw [Int.toNat_natCast]
  by_cases he : er = 0
  · subst he
    by_cases hn : k ≤ l.length
    · refine (take_ok k h hn).mono ?_
      rintro e w' ⟨rfl, h1, h2⟩
      have a : tkV k l 0 = l.take k := by simp [tkV, hn]
      have b' : tkL k l 0 = l.drop k := by simp [tkL, hn]
      have c : tkE k l 0 = 0 := by simp [tkE]; omega
      rw [a, b', c]
      exact ⟨rfl, h1, h2⟩
    · refine (take_short k h (by omega)).mono ?_
      rintro e w' ⟨rfl, h1, h2⟩
      have a : tkV k l 0 = [] := by simp [tkV]; omega
      have b' : tkL k l 0 = l := by simp [tkL]; omega
      have c : tkE k l 0 = 3 := by simp [tkE]; omega
      rw [a, b', c]
      exact ⟨rfl, h1, h2⟩
  · refine (take_bad k h he).mono ?_
    rintro e w' ⟨rfl, rfl⟩
    have a : tkV k l er = [] := by simp [tkV, he]
    have b' : tkL k l er = l := by simp [tkL, he]
    have c : tkE k l er = er := by simp [tkE, he]
    rw [a, b', c]
    exact ⟨rfl, h, Chg.refl _ _⟩

theorem text_any {w : World} {b : Nat} {l : List UInt8} {er : Int} (n : Int) (h : Rdr w b l er) :
    Calls Try.prog 79 #[.pointer (some ⟨b, 0, none⟩), .int .i64 n] w fun e w' => e = .returned (.string ⟨(tkV n.toNat l er).toArray⟩) ∧ Rdr w' b (tkL n.toNat l er) (tkE n.toNat l er) ∧ Chg (only b) w w' := by
  go_enter Try.func79, Try.ntmps79
  go_wp2_with fail
  refine (take_any _ (by omega) h).mono ?_
  rw [show (max n 0).toNat = n.toNat by omega]
  rintro e w' ⟨rfl, h', hc⟩
  go_wp2
  go_ret
  exact ⟨rfl, h', hc⟩

theorem text_nil {w : World} (n : Int) :
    Calls Try.prog 79 #[.pointer none, .int .i64 n] w fun e w' => e = .returned (.string ⟨#[]⟩) ∧ w = w' := by
  go_enter Try.func79, Try.ntmps79
  go_wp2_with fail
  refine (take_nil _).mono ?_
  rintro e w' ⟨rfl, rfl⟩
  go_wp2
  go_ret
  exact ⟨rfl, rfl⟩

/-- what is left, as Left tells it -/
def lft (l : List UInt8) (er : Int) : Nat := if er = 0 then l.length else 0



def bdE (er : Int) : Int := if er = 0 then 4 else er


def ndE (l : List UInt8) (er : Int) : Int := if er = 0 ∧ 0 < l.length then 4 else er


theorem of_any {w : World} (l : List UInt8) :
    Calls Try.prog 57 #[.string ⟨l.toArray⟩] w fun e w' => e = .returned (.pointer (some ⟨w.heap.size, 0, none⟩)) ∧ Rdr w' w.heap.size l 0 ∧ Below w.heap.size w w' := by
  go_enter Try.func57, Try.ntmps57
  go_wp2
  go_ret
  exact ⟨rfl, Blk.new _ _ _, (Below.refl _ _).alloc (Nat.le_refl _) _⟩

end Go.Proofs.Ytkmdgpfaaniibaa


/- wire.next: a number of so many bytes. -/
namespace Go.Proofs.Ytkmdgpfaaniibaa
open Go.RowKit
set_option linter.unusedVariables false
set_option linter.unusedSimpArgs false
set_option maxRecDepth 100000

def num (l : List UInt8) : Nat := l.foldl (fun n b => n * 256 + b.toNat) 0
theorem num_nil : num [] = 0 := rfl
theorem num_snoc (l : List UInt8) (b : UInt8) : num (l ++ [b]) = num l * 256 + b.toNat := by simp [num]
theorem num_lt (l : List UInt8) : num l < 256 ^ l.length := by
  have h : ∀ (l : List UInt8) (a k : Nat), a < 256 ^ k → l.foldl (fun n b => n * 256 + b.toNat) a < 256 ^ (k + l.length) := by
    intro l
    induction l with
    | nil => intro a k h; simpa using h
    | cons b l ih =>
      intro a k h
      have := b.toNat_lt
      have := ih (a * 256 + b.toNat) (k + 1) (by rw [Nat.pow_succ]; omega)
      simpa [Nat.add_assoc, Nat.add_comm 1] using this
  simpa [num] using h l 0 0 (by simp)
theorem num_take_lt (l : List UInt8) (k : Nat) (hk : k < l.length) : num (l.take (k+1)) = num (l.take k) * 256 + (l[k]).toNat := by
  rw [List.take_succ_eq_append_getElem hk, num_snoc]


theorem or_byte (x : Nat) (y : UInt8) (hx : x < 72057594037927936) :
    bits BinOp.or IntKind.u64 (IntKind.u64.wrap ((x : Int) * 256)) (IntKind.u64.wrap (y.toNat : Int)) = ((x * 256 + y.toNat : Nat) : Int) := by
  have hy := y.toNat_lt
  rw [IntWalk.u64_in _ (by omega), IntWalk.u64_in _ (by omega)]
  have e : ((x : Int) * 256) = ((x * 256 : Nat) : Int) := by omega
  rw [e, u64_or_nat _ _ (by omega) (by omega)]
  congr 1
  have := Nat.two_pow_add_eq_or_of_lt (i := 8) (b := y.toNat) (by omega) x
  rw [show x * 256 = 2 ^ 8 * x by omega, ← this]

theorem add_byte (x : Nat) (y : UInt8) (hx : x < 72057594037927936) :
    IntKind.u64.wrap (IntKind.u64.wrap ((x : Int) * 256) + IntKind.u64.wrap (y.toNat : Int)) = ((x * 256 + y.toNat : Nat) : Int) := by
  have hy := y.toNat_lt
  rw [IntWalk.u64_in ((x : Int) * 256) (by omega), IntWalk.u64_in (y.toNat : Int) (by omega), IntWalk.u64_in _ (by omega)]
  omega
theorem num_small {m : List UInt8} (k : Nat) (hm : m.length ≤ 8) (hk : k < m.length) : num (m.take k) < 72057594037927936 := by
  have h1 := num_lt (m.take k)
  rw [List.length_take] at h1
  exact Nat.lt_of_lt_of_le h1 (Nat.le_trans (Nat.pow_le_pow_right (by omega) (show min k m.length ≤ 7 by omega)) (by decide))

set_option maxHeartbeats 400000 in
/-- whatever take hands over, next reads it as a number -/
theorem next8_of {w : World} {p : Option Addr} (m : List UInt8) (P : World → Prop) (hl : m.length ≤ 1)
    (ht : Calls Try.prog 95 #[.pointer p, .int .i64 1] w fun e w' => e = .returned (.string ⟨m.toArray⟩) ∧ P w') :
    Calls Try.prog 96 #[.pointer p] w fun e w' => e = .returned (.int .u8 (num m)) ∧ P w' := by
  have HT := Lib.hid ht
  clear ht
  go_enter Try.func96, Try.ntmps96
  go_wp2_with fail
  refine (width8 _).mono ?_
  rintro e w' ⟨rfl, rfl⟩
  go_wp2_with fail
  refine HT.out.mono ?_
  rintro e w' ⟨rfl, h'⟩
  go_wp2
  go_loop [3, 11] (fun n i => ∃ k : Nat, k ≤ m.length ∧ i = .int .i64 k ∧ n = .int .u64 (num (m.take k))) (fun _ i => m.length - (intOf i).toNat)
  case atStart => exact ⟨0, Nat.zero_le _, rfl, rfl⟩
  case round =>
    obtain ⟨k, hk, rfl, rfl⟩ := hrel
    by_cases hlt : k < m.length
    · go_wp2
      go_round
      case rel =>
        refine ⟨k + 1, by omega, by go_num, ?_⟩
        have h1 := num_lt (m.take k)
        have h2 : num (m.take k) < 72057594037927936 := by
          rw [List.length_take] at h1
          exact Nat.lt_of_lt_of_le h1 (Nat.le_trans (Nat.pow_le_pow_right (by omega) (show min k m.length ≤ 7 by omega)) (by decide))
        have h3 := or_byte (num (m.take k)) (m[k]) h2
        have h4 := num_take_lt m k hlt
        rw [h4]
        exact congrArg (Value.int IntKind.u64) h3
      case measure => simp [intOf]; omega
    · go_wp2
      go_ret
      have h1 := num_lt m
      have h2 : num m < 256 ^ 1 := Nat.lt_of_lt_of_le h1 (Nat.pow_le_pow_right (by omega) hl)
      have h3 : m.take k = m := List.take_of_length_le (by omega)
      exact ⟨ret_ (by rw [h3]; show Value.int _ _ = _; exact congrArg (Value.int _) (by omega)), h'⟩




theorem u8_any {w : World} {b : Nat} {l : List UInt8} {er : Int} (h : Rdr w b l er) :
    Calls Try.prog 80 #[.pointer (some ⟨b, 0, none⟩)] w fun e w' => e = .returned (.int .u8 (num (tkV 1 l er))) ∧ Rdr w' b (tkL 1 l er) (tkE 1 l er) ∧ Chg (only b) w w' := by
  go_enter Try.func80, Try.ntmps80
  go_wp2_with fail
  refine (next8_of (tkV 1 l er) (fun w' => Rdr w' b (tkL 1 l er) (tkE 1 l er) ∧ Chg (only b) w w') (tkV_len _ _ _) (take_any 1 (by omega) h)).mono ?_
  rintro e w' ⟨rfl, h', hc⟩
  go_wp2
  go_ret
  exact ⟨rfl, h', hc⟩
theorem u8_nil {w : World} :
    Calls Try.prog 80 #[.pointer none] w fun e w' => e = .returned (.int .u8 0) ∧ w = w' := by
  go_enter Try.func80, Try.ntmps80
  go_wp2_with fail
  refine (next8_of [] (fun w' => w = w') (by simp) (take_nil 1)).mono ?_
  rintro e w' ⟨rfl, rfl⟩
  go_wp2
  go_ret
  exact ⟨rfl, rfl⟩




end Go.Proofs.Ytkmdgpfaaniibaa


/- Slices of bytes: what they read as, those of a call's own, append of bytes; wire.Put. -/
namespace Go.Proofs.Ytkmdgpfaaniibaa
open Go.RowKit
set_option linter.unusedVariables false
set_option linter.unusedSimpArgs false
set_option maxRecDepth 100000

def bval (u : UInt8) : Value := .int .u8 u.toNat
def bvals (l : List UInt8) : List Value := l.map bval
theorem bvals_len (l : List UInt8) : (bvals l).length = l.length := by simp [bvals]
theorem bvals_app (l r : List UInt8) : bvals (l ++ r) = bvals l ++ bvals r := by simp [bvals]
theorem bvals_one (l : List UInt8) : ∀ u ∈ bvals l, u.oneCell' = true := by
  intro u hu
  obtain ⟨x, _, rfl⟩ := List.mem_map.1 hu
  rfl

/-- the slice at A reads as the bytes l -/
def Byt (w : World) (A : Option Addr) (l : List UInt8) : Prop :=
  0 < l.length → ∃ ad, A = some ad ∧ ∀ j u, (bvals l)[j]? = some u → w.cell? (ad.add j) = some u
theorem Byt.nil_ (w : World) (A : Option Addr) : Byt w A [] := fun h => absurd h (by simp)

/-- the slice v is the call's own, from block base on, and is the bytes l -/
def OwnB (w : World) (base : Nat) (v : Value) (l : List UInt8) : Prop := w.ownsRow base 5 1 v l.length (bvals l)

theorem u8_info : (Try.prog.info? 5).map (fun i => (i.zero, i.size, i.bytes)) = some (some (.int .u8 0), 1, 1) := by kernel_rfl

/-- append of bytes onto a slice of the call's own -/
theorem append_bytes {w : World} {ops : Array Oper} {rest : List Oper} {o : Oper} {a : Act} {Q : Exit → Act → World → Prop} (hgd : o.guard = none) (s x : Operand)
    (ho : o.op = .call { callee := .builtin .append, args := #[s, x], argTypes := #[53, 53] })
    (base : Nat) (v : Value) (l : List UInt8) (hs : a.eval s = v) (hown : OwnB w base v l)
    (A : Option Addr) (m c : Nat) (r : List UInt8) (hx : a.eval x = .slice A m c) (hm : m = r.length) (hz : A = none → c = 0) (hr : Byt w A r)
    (hlen : l.length + r.length ≤ 140737488355328) (hbase : base ≤ w.heap.size)
    (h : ∀ v' w', OwnB w' base v' (l ++ r) → w.grownBy w' v.ownBlock → wpList Try.prog ops Q rest (a.put o.dst v') w') : wpList Try.prog ops Q (o :: rest) a w := by
  obtain ⟨i, hi, hz0, hz1, hz2⟩ := info_parts u8_info
  subst hm
  have key : ∀ ad, A = some ad → (∀ j u, (bvals r)[j]? = some u → w.cell? (ad.add j) = some u) → wpList Try.prog ops Q (o :: rest) a w := by
    rintro ad rfl hc
    refine wpList_append_own_at w hgd s x _ ho base 5 i _ 1 1 Try.underlying53 hi hz0 hz1 hz2 rfl (by omega) v l.length (bvals l) hs hown ad r.length c (bvals r) hx (by simp [bvals]) hc (bvals_one r)
      (by simp only [maxLen]; omega) (by omega) hbase ?_
    intro v' w' h1 h2 _ _
    exact h v' w' (by unfold OwnB; rw [List.length_append, bvals_app]; exact h1) h2
  rcases Nat.eq_zero_or_pos r.length with h0 | h0
  · have hr0 : r = [] := List.eq_nil_of_length_eq_zero h0
    subst hr0
    cases A with
    | none =>
      have hc := hz rfl
      subst hc
      refine wpList_append_own_none hgd s x _ ho base 5 i 1 Try.underlying53 hi v l.length (bvals l) hs hown hx ?_
      exact h v w (by simpa using hown) ⟨rfl, rfl, rfl, Nat.le_refl _, fun _ _ _ => rfl⟩
    | some ad => exact key ad rfl (by simp [bvals])
  · obtain ⟨ad, hA, hc⟩ := hr h0
    exact key ad hA hc

/-- a number's bytes, the highest first -/
def dig : Nat → Nat → List UInt8
  | 0, _ => []
  | k + 1, n => dig k (n / 256) ++ [UInt8.ofNat (n % 256)]
theorem dig_len (k n : Nat) : (dig k n).length = k := by
  induction k generalizing n with
  | zero => rfl
  | succ k ih => simp [dig, ih]

theorem Byt.below {w w' : World} {A : Option Addr} {l : List UInt8} (h : Byt w A l) (hb : Below w.heap.size w w') : Byt w' A l := by
  intro hl
  obtain ⟨ad, hA, hc⟩ := h hl
  refine ⟨ad, hA, fun j u hu => ?_⟩
  rw [hb.cell (World.block_lt_of_cell? w _ (hc j u hu))]
  exact hc j u hu

theorem Byt.one (w : World) (t : TypeId) (v : Value) (u : UInt8) (h : v = bval u) : Byt (w.alloc (.cells #[v] t)) (some ⟨w.heap.size, 0, none⟩) [u] := by
  subst h
  intro _
  refine ⟨_, rfl, fun j y hy => ?_⟩
  match j, hy with
  | 0, hy =>
    have := (Blk.new w t #[bval u]).cell 0
    simp only [bvals, List.map_cons, List.map_nil, List.getElem?_cons_zero] at hy
    rw [← hy]
    exact this
theorem OwnB.alloc {w : World} {base : Nat} {v : Value} {l : List UInt8} (h : OwnB w base v l) (o : Obj) : OwnB (w.alloc o) base v l := World.ownsRow.alloc h o
theorem OwnB.drewN {w : World} {base : Nat} {v : Value} {l : List UInt8} (h : OwnB w base v l) (n : Nat) : OwnB (w.drewN n) base v l := h
theorem OwnB.ge {w : World} {base : Nat} {v : Value} {l : List UInt8} (h : OwnB w base v l) : ∀ k, v.ownBlock = some k → base ≤ k := fun k hk => (World.ownsRow.lt h k hk).1

theorem shr_byte (x : Int) (h : 0 ≤ x) (j : Nat) : x / 2 ^ (8 * j) % 256 = ((UInt8.ofNat (x.toNat / 256 ^ j % 256)).toNat : Int) := by
  obtain ⟨n, rfl⟩ := Int.eq_ofNat_of_zero_le h
  rw [Int.toNat_natCast]
  have e : ((UInt8.ofNat (n / 256 ^ j % 256)).toNat : Nat) = n / 256 ^ j % 256 := by
    simp
  rw [e]
  have : (2 : Int) ^ (8 * j) = ((256 ^ j : Nat) : Int) := by rw [Int.pow_mul]; simp
  rw [this]
  omega
theorem byte_zero (x : Int) (h : 0 ≤ x) (h1 : x ≤ 255) : Value.int .u8 x = bval (UInt8.ofNat (x.toNat / 256 ^ (0 - 0) % 256)) := by
  have := shr_byte x h 0
  unfold bval
  rw [← this]
  simp only [Nat.mul_zero, Int.pow_zero, Int.ediv_one]
  rw [Int.emod_eq_of_lt h (by omega)]
theorem dig_succ (w k n : Nat) (h : k < w) : dig (k + 1) (n / 256 ^ (w - (k + 1))) = dig k (n / 256 ^ (w - k)) ++ [UInt8.ofNat (n / 256 ^ (w - 1 - k) % 256)] := by
  have e : w - k = (w - (k + 1)) + 1 := by omega
  have e' : w - 1 - k = w - (k + 1) := by omega
  rw [e', e, Nat.pow_succ, ← Nat.div_div_eq_div_mul]
  rfl

set_option maxHeartbeats 400000 in
theorem put8_any {w : World} (A : Option Addr) (c : Nat) (l : List UInt8) (x : Int) (hA : Byt w A l) (hz : A = none → c = 0) (hl : l.length ≤ 70368744177664) (h0 : 0 ≤ x) (h1 : x ≤ 255) :
    Calls Try.prog 97 #[.slice A l.length c, .int .u8 x] w fun e w' => ∃ v, e = .returned v ∧ OwnB w' w.heap.size v (l ++ dig 1 x.toNat) ∧ Below w.heap.size w w' := by
  obtain ⟨i, hi, hz0, hz1, hz2⟩ := info_parts u8_info
  have HA := Lib.hid hA
  have HZ := Lib.hid hz
  clear hA hz
  go_enter Try.func97, Try.ntmps97
  go_wp2_with fail
  refine (width8 _).mono ?_
  rintro e w' ⟨rfl, rfl⟩
  go_wp2_with (at_make; refine wpList_make_own _ rfl _ _ 53 rfl w.heap.size 5 i _ 1 Try.underlying53 hi hz0 hz1 _ _ _ (l.length + 1) rfl rfl (by omega) (by rw [hz2]; omega) (by simp only [maxLen]; omega) (Nat.le_refl _) ?_)
  intro w1 hown1 hg1
  have hb1 : Below w.heap.size w w1 := (Below.refl _ _).grown hg1 (Nat.le_refl _) (fun k hk => by cases hk)
  have HO1 := Lib.hid hown1
  have HB1 := Lib.hid hb1
  clear hown1 hg1 hb1
  go_wp2_with (at_builtin; refine append_bytes rfl (.tmp 13) (.tmp 14) rfl w.heap.size _ [] rfl HO1.out A l.length c l rfl rfl HZ.out (HA.out.below HB1.out) (by simp; omega) HB1.out.size ?_)
  intro v2 w2 hown2 hg2
  have hb2 : Below w.heap.size w w2 := HB1.out.grown hg2 HB1.out.size (fun k hk => (HO1.out.lt k hk).1)
  have HO2 := Lib.hid hown2
  have HB2 := Lib.hid hb2
  clear hown2 hg2 hb2
  go_wp2
  go_loopw [6, 17] (fun v i wr => ∃ k : Nat, k ≤ 1 ∧ i = .int .i64 k ∧ OwnB wr w.heap.size v (l ++ dig k (x.toNat / 256 ^ (1 - k))) ∧ Below w.heap.size w wr) (fun _ i _ => 1 - (intOf i).toNat)
  case atStart => exact ⟨0, Nat.zero_le _, rfl, by simpa [dig] using HO2.out, HB2.out⟩
  case round =>
    obtain ⟨k, hk, rfl, hown, hb⟩ := hrel
    have HO := Lib.hid hown
    have HB := Lib.hid hb
    clear hown hb
    by_cases hlt : k < 1
    · obtain rfl : k = 0 := by omega
      go_wp2_with (at_builtin; refine append_bytes rfl (.tmp 20) (.tmp 28) rfl w.heap.size _ (l ++ dig 0 (x.toNat / 256 ^ (1 - 0))) rfl (HO.out.alloc _) (some ⟨wr.heap.size, 0, none⟩) 1 1 [UInt8.ofNat (x.toNat / 256 ^ (0 - 0) % 256)] rfl rfl (by simp) (Byt.one _ _ _ _ (byte_zero x h0 h1)) (by simp [dig_len]; omega) (by have := HB.out.size; simp; omega) ?_)
      intro v3 w3 hown3 hg3
      have hb3 : Below w.heap.size w w3 := (HB.out.alloc HB.out.size _).grown hg3 (by have := HB.out.size; simp; omega) HO.out.ge
      have hown4 : OwnB w3 w.heap.size v3 (l ++ dig 1 (x.toNat / 256 ^ (1 - 1))) := by simpa [dig] using hown3
      have HO3 := Lib.hid hown4
      have HB3 := Lib.hid hb3
      clear hown3 hown4 hg3 hb3
      go_wp2
      go_roundw
      case rel => exact ⟨1, by omega, by go_num, HO3.out, HB3.out⟩
      case measure => simp [intOf]
    · go_wp2
      go_ret
      obtain rfl : k = 1 := by omega
      exact ⟨_, rfl, by simpa using HO.out, HB.out⟩

set_option maxHeartbeats 400000 in
theorem put16_any {w : World} (A : Option Addr) (c : Nat) (l : List UInt8) (x : Int) (hA : Byt w A l) (hz : A = none → c = 0) (hl : l.length ≤ 70368744177664) (h0 : 0 ≤ x) (h1 : x ≤ 65535) :
    Calls Try.prog 50 #[.slice A l.length c, .int .u16 x] w fun e w' => ∃ v, e = .returned v ∧ OwnB w' w.heap.size v (l ++ dig 2 x.toNat) ∧ Below w.heap.size w w' := by
  obtain ⟨i, hi, hz0, hz1, hz2⟩ := info_parts u8_info
  have HA := Lib.hid hA
  have HZ := Lib.hid hz
  clear hA hz
  go_enter Try.func50, Try.ntmps50
  go_wp2_with fail
  refine (width16 _).mono ?_
  rintro e w' ⟨rfl, rfl⟩
  go_wp2_with (at_make; refine wpList_make_own _ rfl _ _ 53 rfl w.heap.size 5 i _ 1 Try.underlying53 hi hz0 hz1 _ _ _ (l.length + 2) rfl rfl (by omega) (by rw [hz2]; omega) (by simp only [maxLen]; omega) (Nat.le_refl _) ?_)
  intro w1 hown1 hg1
  have hb1 : Below w.heap.size w w1 := (Below.refl _ _).grown hg1 (Nat.le_refl _) (fun k hk => by cases hk)
  have HO1 := Lib.hid hown1
  have HB1 := Lib.hid hb1
  clear hown1 hg1 hb1
  go_wp2_with (at_builtin; refine append_bytes rfl (.tmp 13) (.tmp 14) rfl w.heap.size _ [] rfl HO1.out A l.length c l rfl rfl HZ.out (HA.out.below HB1.out) (by simp; omega) HB1.out.size ?_)
  intro v2 w2 hown2 hg2
  have hb2 : Below w.heap.size w w2 := HB1.out.grown hg2 HB1.out.size (fun k hk => (HO1.out.lt k hk).1)
  have HO2 := Lib.hid hown2
  have HB2 := Lib.hid hb2
  clear hown2 hg2 hb2
  go_wp2
  go_loopw [6, 17] (fun v i wr => ∃ k : Nat, k ≤ 2 ∧ i = .int .i64 k ∧ OwnB wr w.heap.size v (l ++ dig k (x.toNat / 256 ^ (2 - k))) ∧ Below w.heap.size w wr) (fun _ i _ => 2 - (intOf i).toNat)
  case atStart => exact ⟨0, Nat.zero_le _, rfl, by simpa [dig] using HO2.out, HB2.out⟩
  case round =>
    obtain ⟨k, hk, rfl, hown, hb⟩ := hrel
    have HO := Lib.hid hown
    have HB := Lib.hid hb
    clear hown hb
    by_cases hlt : k < 2
    · go_wp2_with (at_builtin; refine append_bytes rfl (.tmp 20) (.tmp 29) rfl w.heap.size _ (l ++ dig k (x.toNat / 256 ^ (2 - k))) rfl (HO.out.alloc _) (some ⟨wr.heap.size, 0, none⟩) 1 1 [UInt8.ofNat (x.toNat / 256 ^ (1 - k) % 256)] rfl rfl (by simp) (Byt.one _ _ _ _ (congrArg (Value.int IntKind.u8) (shr_byte x h0 (1 - k)))) (by simp [dig_len]; omega) (by have := HB.out.size; simp; omega) ?_)
      intro v3 w3 hown3 hg3
      have hb3 : Below w.heap.size w w3 := (HB.out.alloc HB.out.size _).grown hg3 (by have := HB.out.size; simp; omega) HO.out.ge
      rw [← dig_succ 2 k x.toNat hlt] at hown3
      have HO3 := Lib.hid hown3
      have HB3 := Lib.hid hb3
      clear hown3 hg3 hb3
      go_wp2
      go_roundw
      case rel => exact ⟨k + 1, by omega, by go_num, HO3.out, HB3.out⟩
      case measure => simp [intOf]; omega
    · go_wp2
      go_ret
      obtain rfl : k = 2 := by omega
      exact ⟨_, rfl, by simpa using HO.out, HB.out⟩

set_option maxHeartbeats 400000 in
theorem put32_any {w : World} (A : Option Addr) (c : Nat) (l : List UInt8) (x : Int) (hA : Byt w A l) (hz : A = none → c = 0) (hl : l.length ≤ 70368744177664) (h0 : 0 ≤ x) (h1 : x ≤ 4294967295) :
    Calls Try.prog 51 #[.slice A l.length c, .int .u32 x] w fun e w' => ∃ v, e = .returned v ∧ OwnB w' w.heap.size v (l ++ dig 4 x.toNat) ∧ Below w.heap.size w w' := by
  obtain ⟨i, hi, hz0, hz1, hz2⟩ := info_parts u8_info
  have HA := Lib.hid hA
  have HZ := Lib.hid hz
  clear hA hz
  go_enter Try.func51, Try.ntmps51
  go_wp2_with fail
  refine (width32 _).mono ?_
  rintro e w' ⟨rfl, rfl⟩
  go_wp2_with (at_make; refine wpList_make_own _ rfl _ _ 53 rfl w.heap.size 5 i _ 1 Try.underlying53 hi hz0 hz1 _ _ _ (l.length + 4) rfl rfl (by omega) (by rw [hz2]; omega) (by simp only [maxLen]; omega) (Nat.le_refl _) ?_)
  intro w1 hown1 hg1
  have hb1 : Below w.heap.size w w1 := (Below.refl _ _).grown hg1 (Nat.le_refl _) (fun k hk => by cases hk)
  have HO1 := Lib.hid hown1
  have HB1 := Lib.hid hb1
  clear hown1 hg1 hb1
  go_wp2_with (at_builtin; refine append_bytes rfl (.tmp 13) (.tmp 14) rfl w.heap.size _ [] rfl HO1.out A l.length c l rfl rfl HZ.out (HA.out.below HB1.out) (by simp; omega) HB1.out.size ?_)
  intro v2 w2 hown2 hg2
  have hb2 : Below w.heap.size w w2 := HB1.out.grown hg2 HB1.out.size (fun k hk => (HO1.out.lt k hk).1)
  have HO2 := Lib.hid hown2
  have HB2 := Lib.hid hb2
  clear hown2 hg2 hb2
  go_wp2
  go_loopw [6, 17] (fun v i wr => ∃ k : Nat, k ≤ 4 ∧ i = .int .i64 k ∧ OwnB wr w.heap.size v (l ++ dig k (x.toNat / 256 ^ (4 - k))) ∧ Below w.heap.size w wr) (fun _ i _ => 4 - (intOf i).toNat)
  case atStart => exact ⟨0, Nat.zero_le _, rfl, by simpa [dig] using HO2.out, HB2.out⟩
  case round =>
    obtain ⟨k, hk, rfl, hown, hb⟩ := hrel
    have HO := Lib.hid hown
    have HB := Lib.hid hb
    clear hown hb
    by_cases hlt : k < 4
    · go_wp2_with (at_builtin; refine append_bytes rfl (.tmp 20) (.tmp 29) rfl w.heap.size _ (l ++ dig k (x.toNat / 256 ^ (4 - k))) rfl (HO.out.alloc _) (some ⟨wr.heap.size, 0, none⟩) 1 1 [UInt8.ofNat (x.toNat / 256 ^ (3 - k) % 256)] rfl rfl (by simp) (Byt.one _ _ _ _ (congrArg (Value.int IntKind.u8) (shr_byte x h0 (3 - k)))) (by simp [dig_len]; omega) (by have := HB.out.size; simp; omega) ?_)
      intro v3 w3 hown3 hg3
      have hb3 : Below w.heap.size w w3 := (HB.out.alloc HB.out.size _).grown hg3 (by have := HB.out.size; simp; omega) HO.out.ge
      rw [← dig_succ 4 k x.toNat hlt] at hown3
      have HO3 := Lib.hid hown3
      have HB3 := Lib.hid hb3
      clear hown3 hg3 hb3
      go_wp2
      go_roundw
      case rel => exact ⟨k + 1, by omega, by go_num, HO3.out, HB3.out⟩
      case measure => simp [intOf]; omega
    · go_wp2
      go_ret
      obtain rfl : k = 4 := by omega
      exact ⟨_, rfl, by simpa using HO.out, HB.out⟩


end Go.Proofs.Ytkmdgpfaaniibaa


/- Numbers and their bytes (plain): there and back. -/
namespace Go.Proofs.Ytkmdgpfaaniibaa
open Go.RowKit
set_option linter.unusedVariables false
set_option linter.unusedSimpArgs false
set_option maxRecDepth 100000

theorem num64 (m : List UInt8) (h : m.length ≤ 8) : IntKind.u64.wrap (num m : Int) = num m := by
  have h1 := num_lt m
  have h2 : num m < 256 ^ 8 := Nat.lt_of_lt_of_le h1 (Nat.pow_le_pow_right (by omega) h)
  exact IntWalk.u64_in _ (by omega)
theorem wrap16_ (x : Int) : IntKind.u16.wrap x = x % 65536 := by simp [IntKind.wrap, IntKind.signed, IntKind.bits]
theorem dig_mod (k n : Nat) : dig k (n % 256 ^ k) = dig k n := by
  induction k generalizing n with
  | zero => rfl
  | succ k ih =>
    simp only [dig]
    have h1 : n % 256 ^ (k + 1) / 256 = (n / 256) % 256 ^ k := by rw [Nat.pow_succ, Nat.mul_comm, Nat.mod_mul_right_div_self]
    have h2 : n % 256 ^ (k + 1) % 256 = n % 256 := Nat.mod_mod_of_dvd _ ⟨256 ^ k, by rw [Nat.pow_succ, Nat.mul_comm]⟩
    rw [h1, h2, ih]
theorem num_dig (k n : Nat) : num (dig k n) = n % 256 ^ k := by
  induction k generalizing n with
  | zero => simp [dig, num_nil, Nat.mod_one]
  | succ k ih =>
    simp only [dig]
    rw [num_snoc, ih]
    have : (UInt8.ofNat (n % 256)).toNat = n % 256 := by simp
    rw [this, Nat.pow_succ, Nat.mul_comm (256 ^ k) 256, Nat.mod_mul]
    omega
theorem dig_num (l : List UInt8) : dig l.length (num l) = l := by
  have h : ∀ (r : List UInt8), dig r.length (num r.reverse) = r.reverse := by
    intro r
    induction r with
    | nil => rfl
    | cons b r ih =>
      simp only [List.length_cons, List.reverse_cons, num_snoc, dig]
      have hb := b.toNat_lt
      rw [show (num r.reverse * 256 + b.toNat) / 256 = num r.reverse by omega, show (num r.reverse * 256 + b.toNat) % 256 = b.toNat by omega, ih]
      simp
  have := h l.reverse
  simpa using this

theorem dig_add (j k n : Nat) : dig (j + k) n = dig j (n / 256 ^ k) ++ dig k n := by
  induction k generalizing n with
  | zero => simp [dig]
  | succ k ih =>
    show dig (j + k + 1) n = _
    simp only [dig]
    rw [ih (n / 256), Nat.div_div_eq_div_mul, show 256 * 256 ^ k = 256 ^ (k + 1) by rw [Nat.pow_succ, Nat.mul_comm]]
    simp
theorem list6 {l : List UInt8} (h : l.length = 6) : ∃ a b c d e f, l = [a, b, c, d, e, f] := by
  match l, h with
  | [a, b, c, d, e, f], _ => exact ⟨a, b, c, d, e, f, rfl⟩
end Go.Proofs.Ytkmdgpfaaniibaa


/- Layer 11: things with a type and a length, as lists: a row's bytes, what is wrong with it, what bytes are a row of. -/
namespace Go.Proofs.Ytkmdgpfaaniibaa
open Go.RowKit
set_option linter.unusedVariables false
set_option linter.unusedSimpArgs false
set_option maxRecDepth 100000

/-- a thing -/
structure Tl where
  k : UInt8
  v : List UInt8
  deriving DecidableEq, Inhabited
def tlV (x : Tl) : List Value := [.int .u8 x.k.toNat, .string ⟨x.v.toArray⟩]
theorem tlV_len (x : Tl) : (tlV x).length = 2 := rfl
theorem tlV_one (x : Tl) : ∀ u ∈ tlV x, u.oneCell' = true := by
  intro u hu
  simp only [tlV, List.mem_cons, List.mem_nil_iff, or_false] at hu
  rcases hu with rfl | rfl <;> rfl
/-- a thing's bytes; those of things -/
def tlB (x : Tl) : List UInt8 := x.k :: (dig 2 x.v.length ++ x.v)
def tlsB (l : List Tl) : List UInt8 := l.flatMap tlB
/-- the error of the first thing that is wrong -/
def tlE : List Tl → Nat
  | [] => 0
  | x :: l => if x.k = 0 then 2 else if 1480 < x.v.length then 5 else tlE l
/-- a row's bytes, or none -/
def tlP (l : List Tl) : List UInt8 := if tlE l = 0 then tlsB l ++ [0] else []
/-- the value of the first thing of a type -/
def tlF (l : List Tl) (k : UInt8) : Option (List UInt8) := (l.find? (fun x => x.k == k)).map Tl.v
theorem tlB_len (x : Tl) : (tlB x).length = 3 + x.v.length := by
  unfold tlB
  rw [List.length_cons, List.length_append, dig_len]
  omega
theorem tlE_app (a b : List Tl) : tlE (a ++ b) = if tlE a = 0 then tlE b else tlE a := by
  induction a with
  | nil => simp [tlE]
  | cons x a ih =>
    by_cases h1 : x.k = 0
    · simp [tlE, h1]
    · by_cases h2 : 1480 < x.v.length
      · simp [tlE, h1, h2]
      · simp only [List.cons_append, tlE, h1, h2, if_false]
        exact ih
theorem tlE_at {l : List Tl} {k : Nat} {x : Tl} (hx : l[k]? = some x) (h0 : tlE (l.take k) = 0) : tlE l = if x.k = 0 then 2 else if 1480 < x.v.length then 5 else tlE (l.drop (k + 1)) := by
  obtain ⟨hk, he⟩ := List.getElem?_eq_some_iff.1 hx
  have e : l = l.take k ++ (x :: l.drop (k + 1)) := by
    rw [← he, List.getElem_cons_drop, List.take_append_drop]
  have h1 := tlE_app (l.take k) (x :: l.drop (k + 1))
  rw [← e, if_pos h0] at h1
  exact h1
theorem tlE_step {l : List Tl} {k : Nat} {x : Tl} (hx : l[k]? = some x) (h0 : tlE (l.take k) = 0) (h1 : x.k ≠ 0) (h2 : ¬ 1480 < x.v.length) : tlE (l.take (k + 1)) = 0 ∧ tlsB (l.take (k + 1)) = tlsB (l.take k) ++ tlB x := by
  obtain ⟨hk, he⟩ := List.getElem?_eq_some_iff.1 hx
  have e : l.take (k + 1) = l.take k ++ [x] := by rw [List.take_succ_eq_append_getElem hk, he]
  constructor
  · rw [e, tlE_app, if_pos h0]
    simp [tlE, h1, h2]
  · rw [e]
    simp [tlsB]
theorem tlE_k {l : List Tl} (h : tlE l = 0) : ∀ x ∈ l, x.k ≠ 0 ∧ x.v.length ≤ 1480 := by
  induction l with
  | nil => intro x hx; cases hx
  | cons y l ih =>
    unfold tlE at h
    by_cases h1 : y.k = 0
    · simp [h1] at h
    · by_cases h2 : 1480 < y.v.length
      · simp [h1, h2] at h
      · rw [if_neg h1, if_neg h2] at h
        intro x hx
        rcases List.mem_cons.1 hx with rfl | hx
        · exact ⟨h1, by omega⟩
        · exact ih h x hx
theorem tlE_of {l : List Tl} (h : ∀ x ∈ l, x.k ≠ 0 ∧ x.v.length ≤ 1480) : tlE l = 0 := by
  induction l with
  | nil => rfl
  | cons y l ih =>
    unfold tlE
    have := h y (by simp)
    rw [if_neg this.1, if_neg (by omega)]
    exact ih (fun x hx => h x (by simp [hx]))
theorem tlsB_take_len {l : List Tl} (k : Nat) (h : tlE (l.take k) = 0) : (tlsB (l.take k)).length ≤ 1483 * k := by
  have hk := tlE_k h
  have hl : (l.take k).length ≤ k := List.length_take_le _ _
  generalize l.take k = m at *
  have : (tlsB m).length ≤ 1483 * m.length := by
    clear hl h
    induction m with
    | nil => simp [tlsB]
    | cons x m ih =>
      have h1 := hk x (by simp)
      have h2 := ih (fun y hy => hk y (by simp [hy]))
      unfold tlsB at h2 ⊢
      rw [List.flatMap_cons, List.length_append, tlB_len, List.length_cons]
      omega
  have h2 : 1483 * m.length ≤ 1483 * k := Nat.mul_le_mul_left _ hl
  omega
theorem tlF_hit {l : List Tl} {k : Nat} {x : Tl} {q : UInt8} (hx : l[k]? = some x) (h0 : ∀ y ∈ l.take k, y.k ≠ q) (h : x.k = q) : tlF l q = some x.v := by
  obtain ⟨hk, he⟩ := List.getElem?_eq_some_iff.1 hx
  have e : l = l.take k ++ (x :: l.drop (k + 1)) := by
    rw [← he, List.getElem_cons_drop, List.take_append_drop]
  unfold tlF
  rw [e, List.find?_append]
  have hn : List.find? (fun x => x.k == q) (l.take k) = none := List.find?_eq_none.2 (fun y hy => by simpa using h0 y hy)
  rw [hn, List.find?_cons]
  simp [h]
theorem tlF_none {l : List Tl} {q : UInt8} (h0 : ∀ y ∈ l, y.k ≠ q) : tlF l q = none := by
  unfold tlF
  rw [List.find?_eq_none.2 (fun y hy => by simpa using h0 y hy)]
  rfl
theorem tl_take_all {l : List Tl} {k : Nat} {x : Tl} {q : UInt8} (hx : l[k]? = some x) (h0 : ∀ y ∈ l.take k, y.k ≠ q) (h : x.k ≠ q) : ∀ y ∈ l.take (k + 1), y.k ≠ q := by
  obtain ⟨hk, he⟩ := List.getElem?_eq_some_iff.1 hx
  rw [List.take_succ_eq_append_getElem hk, he]
  intro y hy
  rcases List.mem_append.1 hy with hy | hy
  · exact h0 y hy
  · rw [List.mem_singleton.1 hy]; exact h

/-- the things of the row that bytes begin with, and what is behind it -/
def tkF : Nat → List UInt8 → Option (List Tl × List UInt8)
  | 0, _ => none
  | _ + 1, [] => none
  | f + 1, k :: r =>
    if k = 0 then some ([], r)
    else if r.length < 2 then none
    else if (r.drop 2).length < num (r.take 2) then none
    else (tkF f ((r.drop 2).drop (num (r.take 2)))).map (fun q => (⟨k, (r.drop 2).take (num (r.take 2))⟩ :: q.1, q.2))
theorem tkF_same : ∀ (f g : Nat) (s : List UInt8), s.length < f → s.length < g → tkF f s = tkF g s := by
  intro f
  induction f with
  | zero => intro g s h; omega
  | succ f ih =>
    intro g s h1 h2
    cases g with
    | zero => omega
    | succ g =>
      cases s with
      | nil => rfl
      | cons k r =>
        simp only [List.length_cons] at h1 h2
        unfold tkF
        split
        · rfl
        · split
          · rfl
          · split
            · rfl
            · rw [ih g _ (by simp; omega) (by simp; omega)]
def tks (s : List UInt8) : Option (List Tl × List UInt8) := tkF (s.length + 1) s
theorem tks_nil : tks [] = none := rfl
theorem tks_zero (r : List UInt8) : tks (0 :: r) = some ([], r) := by
  simp [tks, tkF]
theorem tks_cons (k : UInt8) (r : List UInt8) (hk : k ≠ 0) : tks (k :: r) = if r.length < 2 then none else if (r.drop 2).length < num (r.take 2) then none else (tks ((r.drop 2).drop (num (r.take 2)))).map (fun q => (⟨k, (r.drop 2).take (num (r.take 2))⟩ :: q.1, q.2)) := by
  unfold tks
  rw [tkF, if_neg hk]
  split
  · rfl
  · split
    · rfl
    · rw [tkF_same _ (((r.drop 2).drop (num (r.take 2))).length + 1) _ (by simp; omega) (by omega)]
theorem dig2_take (n : Nat) (r : List UInt8) : (dig 2 n ++ r).take 2 = dig 2 n ∧ (dig 2 n ++ r).drop 2 = r := by
  have h := dig_len 2 n
  exact ⟨List.take_left' h, List.drop_left' h⟩
theorem tks_tlB (x : Tl) (r : List UInt8) (hk : x.k ≠ 0) (hv : x.v.length ≤ 65535) : tks (tlB x ++ r) = (tks r).map (fun q => (x :: q.1, q.2)) := by
  unfold tlB
  rw [List.cons_append, List.append_assoc, tks_cons _ _ hk]
  obtain ⟨h1, h2⟩ := dig2_take x.v.length (x.v ++ r)
  have hn : num (dig 2 x.v.length) = x.v.length := by rw [num_dig]; omega
  rw [if_neg (by rw [List.length_append, dig_len]; omega), h1, h2, hn, if_neg (by simp), List.take_left, List.drop_left]
theorem tks_put (l : List Tl) (h : tlE l = 0) (q : List UInt8) : tks (tlsB l ++ 0 :: q) = some (l, q) := by
  have hk := tlE_k h
  clear h
  induction l with
  | nil => exact tks_zero q
  | cons x l ih =>
    have h1 := hk x (by simp)
    have e : tlsB (x :: l) ++ 0 :: q = tlB x ++ (tlsB l ++ 0 :: q) := by simp [tlsB]
    rw [e, tks_tlB x _ h1.1 (by omega), ih (fun y hy => hk y (by simp [hy]))]
    rfl
theorem tks_short (l : List Tl) (h : tlE l = 0) : tks (tlsB l) = none := by
  have hk := tlE_k h
  clear h
  induction l with
  | nil => exact tks_nil
  | cons x l ih =>
    have h1 := hk x (by simp)
    have e : tlsB (x :: l) = tlB x ++ tlsB l := by simp [tlsB]
    rw [e, tks_tlB x _ h1.1 (by omega), ih (fun y hy => hk y (by simp [hy]))]
    rfl
theorem tks_back : ∀ (n : Nat) (s : List UInt8), s.length ≤ n → ∀ l q, tks s = some (l, q) → s = tlsB l ++ 0 :: q ∧ (∀ x ∈ l, x.k ≠ 0 ∧ x.v.length ≤ s.length) ∧ l.length ≤ s.length := by
  intro n
  induction n with
  | zero =>
    intro s hs l q h
    have : s = [] := List.eq_nil_of_length_eq_zero (by omega)
    subst this
    rw [tks_nil] at h
    cases h
  | succ n ih =>
    intro s hs l q h
    cases s with
    | nil => rw [tks_nil] at h; cases h
    | cons k r =>
      by_cases hk : k = 0
      · subst hk
        rw [tks_zero] at h
        simp only [Option.some.injEq, Prod.mk.injEq] at h
        obtain ⟨rfl, rfl⟩ := h
        exact ⟨rfl, (by intro x hx; cases hx), by simp⟩
      · rw [tks_cons k r hk] at h
        split at h
        · cases h
        · rename_i h2
          split at h
          · cases h
          · rename_i h3
            simp only [List.length_cons] at hs
            cases hr : tks ((r.drop 2).drop (num (r.take 2))) with
            | none => rw [hr] at h; cases h
            | some p =>
              obtain ⟨l', q'⟩ := p
              rw [hr] at h
              simp only [Option.map_some, Option.some.injEq, Prod.mk.injEq] at h
              obtain ⟨rfl, rfl⟩ := h
              have hlen : ((r.drop 2).drop (num (r.take 2))).length + 2 + num (r.take 2) = r.length := by
                simp only [List.length_drop] at h3 ⊢
                omega
              obtain ⟨e1, e2, e3⟩ := ih _ (by omega) l' q' hr
              have htk : (r.take 2).length = 2 := by rw [List.length_take]; omega
              have hd : dig 2 (num (r.take 2)) = r.take 2 := by have := dig_num (r.take 2); rwa [htk] at this
              have hvl : ((r.drop 2).take (num (r.take 2))).length = num (r.take 2) := by rw [List.length_take]; omega
              refine ⟨?_, fun x hx => ?_, by simp only [List.length_cons]; omega⟩
              · have e : tlsB (⟨k, (r.drop 2).take (num (r.take 2))⟩ :: l') ++ 0 :: q' = k :: (r.take 2 ++ ((r.drop 2).take (num (r.take 2)) ++ (tlsB l' ++ 0 :: q'))) := by
                  simp only [tlsB, List.flatMap_cons, tlB, hvl, hd]
                  simp
                rw [e, ← e1, List.take_append_drop, List.take_append_drop]
              · rcases List.mem_cons.1 hx with rfl | hx
                · exact ⟨hk, by simp only [List.length_cons, hvl]; omega⟩
                · have := e2 x hx
                  exact ⟨this.1, by simp only [List.length_cons]; omega⟩
end Go.Proofs.Ytkmdgpfaaniibaa


/- Arguments opened: structs, and slices of structs, to their cells. -/
namespace Go.Proofs.Ytkmdgpfaaniibaa
open Go.ChangeShapes Go.WideShapes Go.ChangeAt Go.RowKit
set_option linter.unusedVariables false
set_option linter.unusedSimpArgs false
set_option maxRecDepth 100000

section
variable {H : Type} {enc : TypeId × Value → H} {P : Program} {w : World} {base : Nat} {spare : Nat → Bool} {held : Bool}
/-- field i of a struct, read -/
theorem trod_fld {t : TypeId} {fs : Array Field} {fuel : Nat} {cs : List Value} {x : DataW H × List MemPlace} (ht : P.underlying t = some (.struct fs)) (h : DataW.trod enc P w base spare held fuel t cs = some x) (i : Nat) (f : Field) (hf : fs[i]? = some f) :
    ∃ n y, DataW.trod enc P w base spare held n f.type ((cs.drop f.offset).take (P.cellsOf f.type)) = some y := by
  obtain ⟨xs, n, _, rfl, hl, hlen, hg⟩ := DataW.trod_struct ht h
  have hi : i < fs.size := (Array.getElem?_eq_some_iff.1 hf).1
  exact ⟨n, xs[i]'(by omega), (hg i f hf).trans (List.getElem?_eq_getElem (by omega))⟩
/-- field i of a struct is a number -/
theorem trod_fldInt {t : TypeId} {fs : Array Field} {fuel : Nat} {cs : List Value} {x : DataW H × List MemPlace} (ht : P.underlying t = some (.struct fs)) (h : DataW.trod enc P w base spare held fuel t cs = some x) (i : Nat) (f : Field) (hf : fs[i]? = some f)
    {k : IntKind} (hk : P.underlying f.type = some (.int k)) (h1 : P.cellsOf f.type = 1) : ∃ n, cs[f.offset]? = some (.int k n) ∧ (Lit.int k n).wf = true := by
  obtain ⟨m, y, hy⟩ := trod_fld ht h i f hf
  rw [h1] at hy
  obtain ⟨n, e, _, hw⟩ := DataW.trod_int hk hy
  refine ⟨n, ?_, hw⟩
  have : ((cs.drop f.offset).take 1)[0]? = some (.int k n) := by rw [e]; rfl
  simpa [List.getElem?_take] using this
/-- field i of a struct is a truth -/
theorem trod_fldBool {t : TypeId} {fs : Array Field} {fuel : Nat} {cs : List Value} {x : DataW H × List MemPlace} (ht : P.underlying t = some (.struct fs)) (h : DataW.trod enc P w base spare held fuel t cs = some x) (i : Nat) (f : Field) (hf : fs[i]? = some f)
    (hk : P.underlying f.type = some .bool) (h1 : P.cellsOf f.type = 1) : ∃ b, cs[f.offset]? = some (.bool b) := by
  obtain ⟨m, y, hy⟩ := trod_fld ht h i f hf
  rw [h1] at hy
  obtain ⟨b, e, _⟩ := DataW.trod_bool hk hy
  refine ⟨b, ?_⟩
  have : ((cs.drop f.offset).take 1)[0]? = some (.bool b) := by rw [e]; rfl
  simpa [List.getElem?_take] using this
/-- a struct as an argument: its cells, read -/
theorem open_struct {r : Reach} {b0 : Nat} {t : TypeId} {fs : Array Field} {v : Value} {d : DataW H} {p : List MemPlace} (ht : P.underlying t = some (.struct fs)) (o : Value.okWide P w r b0 t v) (h : DataW.Trod enc P w base spare held t v d p) :
    ∃ (l : List Value) (fuel : Nat) (x : DataW H × List MemPlace), v = .agg ⟨l⟩ ∧ l.length = P.cellsOf t ∧ DataW.trod enc P w base spare held fuel t l = some x := by
  obtain ⟨cs, rfl, hsz⟩ := okWide_struct ht o
  obtain ⟨l⟩ := cs
  obtain ⟨fuel, hf⟩ := h
  exact ⟨l, fuel, _, rfl, hsz, by simpa [Value.cells] using hf⟩
/-- an argument that is a number -/
theorem open_num {r : Reach} {b0 : Nat} {t : TypeId} {v : Value} {d : DataW H} {p : List MemPlace} {k : IntKind} (ht : P.underlying t = some (.int k)) (o : Value.okWide P w r b0 t v) (h : DataW.Trod enc P w base spare held t v d p) :
    ∃ n, v = .int k n ∧ (Lit.int k n).wf = true := by
  obtain ⟨n, rfl⟩ := okWide_int ht o
  obtain ⟨fuel, hf⟩ := h
  obtain ⟨m, e, _, hw⟩ := DataW.trod_int ht hf
  simp [Value.cells] at e
  subst e
  exact ⟨n, rfl, hw⟩
end

/-- a slice argument, element by element: the cells of each, and that they read as the element's type -/
theorem open_cells {H : Type} {enc : TypeId × Value → H} {P : Program} {W : World} {base : Nat} {v : Value} {d : DataW H} {p : List MemPlace} {t e : TypeId}
    (ht : P.underlying t = some (.slice e)) (hsz : 0 < P.cellsOf e) (o : Value.okWide P W .any base t v)
    (h : DataW.Trod enc P W 0 (fun _ => true) true t v d p) : ∃ A n c, v = .slice A n c ∧ n ≤ maxLen ∧ (A = none → n = 0 ∧ c = 0) ∧ (0 < n → ∃ b off, A = some ⟨b, off, none⟩ ∧ b < W.heap.size ∧ ∀ i, i < n → ∃ (cs : List Value) (fuel : Nat) (x : DataW H × List MemPlace),
      cs.length = P.cellsOf e ∧ (∀ j u, cs[j]? = some u → W.cell? ⟨b, off + i * P.cellsOf e + j, none⟩ = some u) ∧ DataW.trod enc P W 0 (fun _ => true) true fuel e cs = some x) := by
  obtain ⟨a0, len0, cap0, rfl⟩ := okWide_slice ht o
  obtain ⟨fuel, hf⟩ := h
  rcases Go.Deep.open_slice ht hf with ⟨hcs, _⟩ | ⟨a, l, c, m, n, D, Pl, hcs, _, hl, hm, hmm, _, hel⟩
  · simp [Value.cells] at hcs
    obtain ⟨rfl, rfl, rfl⟩ := hcs
    exact ⟨none, 0, 0, rfl, by simp, fun _ => ⟨rfl, rfl⟩, fun h => absurd h (by omega)⟩
  · simp [Value.cells] at hcs
    obtain ⟨rfl, rfl, rfl⟩ := hcs
    simp at hmm
    subst hmm
    refine ⟨some a, _, _, rfl, by omega, by simp, fun h0 => ?_⟩
    have key : ∀ i, i < len0 → ∃ (cs : List Value) (x : DataW H × List MemPlace), cs.length = P.cellsOf e ∧ (∀ j, j < P.cellsOf e → W.cell? (a.add (i * P.cellsOf e + j)) = cs[j]?) ∧ DataW.trod enc P W 0 (fun _ => true) true n e cs = some x := by
      intro i hi
      obtain ⟨cs, hc, htr⟩ := hel i (by omega)
      obtain ⟨_, hlen, hat⟩ := World.cells?_some hc
      refine ⟨cs, _, hlen, fun j hj => ?_, htr⟩
      rw [← hat j hj, Go.Deep.add_add]
    obtain ⟨cs, x, hlen, hat, _⟩ := key 0 h0
    have h00 := hat 0 hsz
    simp only [Nat.zero_mul, Nat.zero_add] at h00
    have hsome : cs[0]? = some (cs[0]'(by omega)) := List.getElem?_eq_getElem (by omega)
    have hsp := World.cell?_spot (h00.trans hsome)
    obtain ⟨b, off, spot⟩ := a
    simp only [Addr.add, ↓reduceIte] at hsp
    subst hsp
    refine ⟨b, off, rfl, World.block_lt_of_cell? W _ (by simpa [Addr.add] using h00.trans hsome), fun i hi => ?_⟩
    obtain ⟨cs, x, hlen, hat, htr⟩ := key i hi
    refine ⟨cs, n, x, hlen, fun j u hu => ?_, htr⟩
    have hj : j < P.cellsOf e := by rw [← hlen]; exact (List.getElem?_eq_some_iff.1 hu).1
    rw [← hu, ← hat j hj, Nat.add_assoc]
    simp only [Addr.add]
    split <;> simp_all
/-- out of one thing for each place, a list -/
theorem list_at {α : Type} (n : Nat) (Q : Nat → α → Prop) (h : ∀ i, i < n → ∃ x, Q i x) : ∃ l : List α, l.length = n ∧ ∀ i (hi : i < l.length), Q i l[i] := by
  induction n with
  | zero => exact ⟨[], rfl, fun i hi => absurd hi (by simp)⟩
  | succ n ih =>
    obtain ⟨l, hl, hp⟩ := ih (fun i hi => h i (by omega))
    obtain ⟨x, hx⟩ := h n (by omega)
    refine ⟨l ++ [x], by simp [hl], fun i hi => ?_⟩
    by_cases hin : i < l.length
    · rw [List.getElem_append_left hin]; exact hp i hin
    · have : i = n := by simp at hi; omega
      subst this
      simp [← hl]
      rw [hl]; exact hx
/-- the slice at A reads as the list l, k cells each -/
def Els {α : Type} (k : Nat) (enc : α → List Value) (w : World) (A : Option Addr) (l : List α) : Prop :=
  0 < l.length → ∃ b off, A = some ⟨b, off, none⟩ ∧ b < w.heap.size ∧ ∀ i (h : i < l.length) j v, (enc l[i])[j]? = some v → w.cell? ⟨b, off + i * k + j, none⟩ = some v
theorem Els.next {α : Type} {k : Nat} {enc : α → List Value} {w w' : World} {A : Option Addr} {l : List α} (h : Els k enc w A l) (hb : Below w.heap.size w w') : Els k enc w' A l := by
  intro h0
  obtain ⟨b, off, e, hlt, hc⟩ := h h0
  exact ⟨b, off, e, Nat.lt_of_lt_of_le hlt hb.size, fun i hi j v hv => (hb.cell (p := ⟨b, off + i * k + j, none⟩) hlt).trans (hc i hi j v hv)⟩
/-- a slice argument as a list, what each element is being known of its reading -/
theorem open_els {H : Type} {enc : TypeId × Value → H} {P : Program} {W : World} {base : Nat} {v : Value} {d : DataW H} {p : List MemPlace} {t e : TypeId} {α : Type} (k : Nat) (en : α → List Value) (Q : α → Prop)
    (ht : P.underlying t = some (.slice e)) (hk : P.cellsOf e = k) (hsz : 0 < k)
    (hone : ∀ (cs : List Value) (fuel : Nat) (x : DataW H × List MemPlace), cs.length = P.cellsOf e → DataW.trod enc P W 0 (fun _ => true) true fuel e cs = some x → ∃ a, Q a ∧ cs = en a)
    (o : Value.okWide P W .any base t v) (h : DataW.Trod enc P W 0 (fun _ => true) true t v d p) :
    ∃ (A : Option Addr) (c : Nat) (l : List α), v = .slice A l.length c ∧ l.length ≤ maxLen ∧ (A = none → l = [] ∧ c = 0) ∧ (∀ a ∈ l, Q a) ∧ Els k en W A l := by
  obtain ⟨A, n, c, rfl, hn, hz, hel⟩ := open_cells ht (by omega) o h
  rcases Nat.eq_zero_or_pos n with h0 | h0
  · subst h0
    exact ⟨A, c, [], rfl, by simp, fun e => ⟨rfl, (hz e).2⟩, by simp, fun h => absurd h (by simp)⟩
  · obtain ⟨b, off, rfl, hb, hel⟩ := hel h0
    rw [hk] at hel
    obtain ⟨l, hl, hp⟩ := list_at (α := α) n (fun i a => Q a ∧ ∀ j u, (en a)[j]? = some u → W.cell? ⟨b, off + i * k + j, none⟩ = some u) (by
      intro i hi
      obtain ⟨cs, fuel, x, hlen, hat, htr⟩ := hel i hi
      obtain ⟨a, hq, rfl⟩ := hone cs fuel x (by rw [hk]; exact hlen) htr
      exact ⟨a, hq, hat⟩)
    subst hl
    refine ⟨_, c, l, rfl, hn, by simp, fun a ha => ?_, fun _ => ⟨b, off, rfl, hb, fun i hi j u hu => (hp i hi).2 j u hu⟩⟩
    obtain ⟨i, hi, rfl⟩ := List.mem_iff_getElem.1 ha
    exact (hp i hi).1
end Go.Proofs.Ytkmdgpfaaniibaa


/- append to a slice of the call's own, as a step of a region that draws; what a slice owns, kept. -/
namespace Go.Proofs.Ytkmdgpfaaniibaa
open Go.RowKit
set_option linter.unusedVariables false
set_option linter.unusedSimpArgs false
set_option maxRecDepth 100000

theorem step_append_own {P : Program} {w : World} {ops : Array Oper} {o : Oper} {a : Act} {K : Act → World → Prop} {Q : Exit → Act → World → Prop} {E : Prop} (hgd : o.guard = none) (s x : Operand) (t : TypeId)
    (ho : o.op = .call { callee := .builtin .append, args := #[s, x], argTypes := #[t, t] })
    (base : Nat) (e : TypeId) (i : TypeInfo) (z : Value) (size bytes : Nat) (ht : P.underlying t = some (.slice e)) (hi : P.info? e = some i) (hz : i.zero = some z)
    (hsize : i.size = size) (hby : i.bytes = bytes) (hzs : z.cells.size = size) (hsz : 0 < size)
    (v : Value) (n : Nat) (xs : List Value) (hs : a.eval s = v) (hown : w.ownsRow base e size v n xs)
    (ad : Addr) (m c : Nat) (news : List Value) (hx : a.eval x = .slice (some ad) m c) (hl : news.length = m * size) (hnews : ∀ j u, news[j]? = some u → w.cell? (ad.add j) = some u) (h1 : ∀ u ∈ news, u.oneCell' = true)
    (h63 : n + m ≤ maxLen) (hbytes : (n + m) * bytes ≤ 140737488355328) (hbase : base ≤ w.heap.size)
    (h : ∀ v' w', w'.ownsRow base e size v' (n + m) (xs ++ news) → w.grownBy w' v.ownBlock → K (a.put o.dst v') w') :
    if Region.wanted o (yielded ops a.tmps) = true then Oper.wp P o a w K Q else E := by
  have hw : Region.wanted o (yielded ops a.tmps) = true := by simp [Region.wanted, hgd]
  rw [if_pos hw]
  obtain ⟨v', w', hr, h2, h3, _, _⟩ := run_append_own_at (P := P) w base t o.type e i z size bytes ht hi hz hsize hby hzs hsz v n xs hown ad m c news hl hnews h1 h63 hbytes hbase
  unfold Oper.wp execOp
  simp only [ho, resolve, invoke, builtin, Sem.run_bind, Sem.run_pure, Result.andThen_ok, List.map_toArray, List.map_cons, List.map_nil, hs, hx, hr]
  exact h _ _ h2 h3
theorem own_below {w w' : World} {base : Nat} {e : TypeId} {size : Nat} {v : Value} {n : Nat} {xs : List Value} (h : w.ownsRow base e size v n xs) (hb : Below w.heap.size w w') : w'.ownsRow base e size v n xs := by
  refine ⟨h.1, ?_⟩
  rcases h.2 with hn | ⟨g, cap, cur, hv, hg, hgb, rest⟩
  · exact .inl hn
  · exact .inr ⟨g, cap, cur, hv, hg, (hb.block g (Array.getElem?_eq_some_iff.1 hgb).1).trans hgb, rest⟩
theorem grown_below {w0 w w' : World} {base : Nat} {e : TypeId} {size : Nat} {v : Value} {n : Nat} {xs : List Value} (hB : Below base w0 w) (hz : base ≤ w0.heap.size) (h : w.ownsRow base e size v n xs) (hg : w.grownBy w' v.ownBlock) : Below base w0 w' :=
  hB.grown hg (Nat.le_trans hz hB.size) (fun j ej => (h.lt j ej).1)
end Go.Proofs.Ytkmdgpfaaniibaa


/- Channels in one goroutine: words. -/
namespace Go.Proofs.Ytkmdgpfaaniibaa
open Go.RowKit Go.Conc
set_option linter.unusedVariables false
set_option linter.unusedSimpArgs false
set_option maxRecDepth 100000

/-- block c is an open channel with room for cap, that holds just these -/
def Chn (w : World) (c cap : Nat) (L : List Value) : Prop := ∃ s r, w.heap[c]? = some (.chan cap L.toArray false s r false)

theorem Chn.lt {w : World} {c cap : Nat} {L : List Value} (h : Chn w c cap L) : c < w.heap.size := by
  obtain ⟨s, r, h⟩ := h
  rcases Nat.lt_or_ge c w.heap.size with hlt | hge
  · exact hlt
  · rw [Array.getElem?_eq_none hge] at h; cases h
theorem Chn.chg {S : Nat → Prop} {w w' : World} {c cap : Nat} {L : List Value} (h : Chn w c cap L) (hc : Chg S w w') (hn : ¬ S c) : Chn w' c cap L := by
  have hl := h.lt
  obtain ⟨s, r, h⟩ := h
  exact ⟨s, r, (hc.block c hl hn).trans h⟩
theorem Chn.drew {w : World} {c cap : Nat} {L : List Value} (h : Chn w c cap L) : Chn w.drew c cap L := h
theorem Chn.new (w : World) (cap : Nat) : Chn (w.alloc (.chan cap #[] false 0 0 false)) w.heap.size cap [] := ⟨0, 0, heap_alloc_new w _⟩
theorem Chg.setChan {S : Nat → Prop} {w w' : World} (h : Chg S w w') {c : Nat} (hp : w.heap.size ≤ c ∨ S c) (cap : Nat) (buf : Array Value) (cl : Bool) (s r : Nat) (tm : Bool) : Chg S w (w'.setChan c cap buf cl s r tm) :=
  ⟨h.os, h.tape, h.output, Nat.le_trans h.size (by simp [World.setChan]), fun k hk hn => by
    have hne : c ≠ k := by rintro rfl; exact hp.elim (fun hp => by omega) (fun hp => hn hp)
    simp only [World.setChan]
    rw [Array.getElem?_setIfInBounds_ne hne]
    exact h.block k hk hn⟩
theorem Blk.setChan {w : World} {g : Nat} {t : TypeId} {cs : Array Value} (h : Blk w g t cs) {c : Nat} (hp : c ≠ g) (cap : Nat) (buf : Array Value) (cl : Bool) (s r : Nat) (tm : Bool) : Blk (w.setChan c cap buf cl s r tm) g t cs := by
  unfold Blk at h ⊢
  simp only [World.setChan]
  rw [Array.getElem?_setIfInBounds_ne hp]
  exact h
theorem Chn.set {w : World} {c : Nat} (h : c < w.heap.size) (cap : Nat) (L : List Value) (s r : Nat) : Chn (w.setChan c cap L.toArray false s r false) c cap L := ⟨s, r, heap_setChan w c cap _ false s r false h⟩


/-- a thing at block p of type t that holds just the channel c -/
structure Que (w : World) (p c : Nat) (t : TypeId) (cap : Nat) (L : List Value) : Prop where
  blk : Blk w p t #[.chan (some c)]
  ch : Chn w c cap L
theorem Que.ne {w : World} {p c cap : Nat} {t : TypeId} {L : List Value} (h : Que w p c t cap L) : c ≠ p := by
  rintro rfl
  obtain ⟨s, r, hc⟩ := h.ch
  have hb : w.heap[c]? = some _ := h.blk
  rw [hc] at hb
  cases hb
theorem Que.set {w : World} {p c cap : Nat} {t : TypeId} {L : List Value} (h : Que w p c t cap L) (L' : List Value) (s r : Nat) : Que (w.setChan c cap L'.toArray false s r false) p c t cap L' :=
  ⟨h.blk.setChan h.ne _ _ _ _ _ _, Chn.set h.ch.lt _ _ _ _⟩
theorem Que.chg {S : Nat → Prop} {w w' : World} {p c cap : Nat} {t : TypeId} {L : List Value} (h : Que w p c t cap L) (hc : Chg S w w') (hp : ¬ S p) (hn : ¬ S c) : Que w' p c t cap L :=
  ⟨h.blk.chg hc hp, h.ch.chg hc hn⟩
theorem Que.drew {w : World} {p c cap : Nat} {t : TypeId} {L : List Value} (h : Que w p c t cap L) : Que w.drew p c t cap L := ⟨h.blk, h.ch⟩
end Go.Proofs.Ytkmdgpfaaniibaa


/- A row that grew by append in this call: the append as a step of a plain walk; a row of single cells as a list. -/
namespace Go.Proofs.Ytkmdgpfaaniibaa
open Go.RowKit
set_option linter.unusedVariables false
set_option linter.unusedSimpArgs false
set_option maxRecDepth 100000

theorem wpl_append_own {P : Program} {w : World} {ops : Array Oper} {rest : List Oper} {o : Oper} {a : Act} {Q : Exit → Act → World → Prop} (hgd : o.guard = none) (s x : Operand) (t : TypeId)
    (ho : o.op = .call { callee := .builtin .append, args := #[s, x], argTypes := #[t, t] })
    (base : Nat) (e : TypeId) (i : TypeInfo) (z : Value) (size bytes : Nat) (ht : P.underlying t = some (.slice e)) (hi : P.info? e = some i) (hz : i.zero = some z)
    (hsize : i.size = size) (hby : i.bytes = bytes) (hzs : z.cells.size = size) (hsz : 0 < size)
    (v : Value) (n : Nat) (xs : List Value) (hs : a.eval s = v) (hown : w.ownsRow base e size v n xs)
    (ad : Addr) (m c : Nat) (news : List Value) (hx : a.eval x = .slice (some ad) m c) (hl : news.length = m * size) (hnews : ∀ j u, news[j]? = some u → w.cell? (ad.add j) = some u) (h1 : ∀ u ∈ news, u.oneCell' = true)
    (h63 : n + m ≤ maxLen) (hbytes : (n + m) * bytes ≤ 140737488355328) (hbase : base ≤ w.heap.size)
    (h : ∀ v' w', w'.ownsRow base e size v' (n + m) (xs ++ news) → w.grownBy w' v.ownBlock → wpList P ops Q rest (a.put o.dst v') w') :
    wpList P ops Q (o :: rest) a w :=
  wpList_plain hgd fun _ hK => by
    obtain ⟨v', w', hr, h2, h3, _, _⟩ := run_append_own_at (P := P) w base t o.type e i z size bytes ht hi hz hsize hby hzs hsz v n xs hown ad m c news hl hnews h1 h63 hbytes hbase
    unfold Oper.wp execOp
    simp only [ho, resolve, invoke, builtin, Sem.run_bind, Sem.run_pure, Result.andThen_ok, List.map_toArray, List.map_cons, List.map_nil, hs, hx, hr]
    exact hK _ _ (h _ _ h2 h3)

theorem newcells (w : World) (cs : List Value) (t : TypeId) : ∀ j u, cs[j]? = some u → (w.alloc (.cells cs.toArray t)).cell? ((⟨w.heap.size, 0, none⟩ : Addr).add j) = some u := by
  intro j u hj
  have hadd : (⟨w.heap.size, 0, none⟩ : Addr).add j = ⟨w.heap.size, j, none⟩ := by unfold Addr.add; split <;> simp_all
  rw [hadd, (Blk.new w t cs.toArray).cell j]
  simpa using hj
/-- a thing of one cell -/
def one (v : Value) : List Value := [v]
theorem flat_one (L : List Value) : L.flatMap one = L := by
  induction L with
  | nil => rfl
  | cons x L ih => simp only [List.flatMap_cons, one, ih]; rfl
/-- a row of one's own of single cells, as a list -/
theorem own_ones {w : World} {base : Nat} {t : TypeId} {v : Value} {n : Nat} {L : List Value} (hn : L.length = n) (h : w.ownsRow base t 1 v n L) :
    ∃ A c, v = .slice A n c ∧ Els 1 one w A L := by
  rcases h.2 with ⟨rfl, h0⟩ | ⟨g, cap, cur, rfl, hb, hg, _⟩
  · exact ⟨none, 0, by rw [h0], fun hL => absurd hL (by omega)⟩
  · refine ⟨_, cap, rfl, fun hL => ⟨g, 0, rfl, (Array.getElem?_eq_some_iff.1 hg).1, fun i hi j v hv => ?_⟩⟩
    obtain rfl : j = 0 := by
      have := (List.getElem?_eq_some_iff.1 hv).1
      simp only [one, List.length_cons, List.length_nil] at this
      omega
    have hv' : L[i]? = some v := by
      simp only [one, List.getElem?_cons_zero, Option.some.injEq] at hv
      rw [← hv]; exact List.getElem?_eq_getElem hi
    have := World.ownsRow.cells h (g := g) rfl i v hv'
    have hadd : (⟨g, 0, none⟩ : Addr).add i = ⟨g, 0 + i * 1 + 0, none⟩ := by unfold Addr.add; split <;> simp_all
    rw [hadd] at this
    exact this
theorem Els.at {w : World} {A : Option Addr} {L : List Value} (h : Els 1 one w A L) (h0 : 0 < L.length) : ∃ b off, A = some ⟨b, off, none⟩ ∧ b < w.heap.size ∧ ∀ i v, L[i]? = some v → w.cell? ⟨b, off + i, none⟩ = some v := by
  obtain ⟨b, off, e, hlt, hc⟩ := h h0
  refine ⟨b, off, e, hlt, fun i v hv => ?_⟩
  have hi : i < L.length := (List.getElem?_eq_some_iff.1 hv).1
  have := hc i hi 0 v (by rw [(List.getElem?_eq_some_iff.1 hv).2]; rfl)
  simpa using this
/-- a channel changed: rows of cells are as they were -/
theorem Els.chan {α : Type} {k : Nat} {enc : α → List Value} {w w' : World} {A : Option Addr} {l : List α} (h : Els k enc w A l) (hk : ∀ x, 0 < (enc x).length) {c cap : Nat} {L : List Value} (hc : Chn w c cap L) (hg : Chg (fun j => j = c) w w') : Els k enc w' A l := by
  intro h0
  obtain ⟨b, off, e, hlt, hcl⟩ := h h0
  have hne : b ≠ c := by
    rintro rfl
    obtain ⟨s, r, hb⟩ := hc
    have := hcl 0 h0 0 _ (List.getElem?_eq_getElem (hk _))
    simp [World.cell?, hb] at this
  exact ⟨b, off, e, Nat.lt_of_lt_of_le hlt hg.size, fun i hi j v hv => (hg.cell (p := ⟨b, off + i * k + j, none⟩) hlt hne).trans (hcl i hi j v hv)⟩
theorem own_chan {w w' : World} {base : Nat} {t : TypeId} {n : Nat} {v : Value} {xs : List Value} (h : w.ownsRow base t 1 v n xs) {c : Nat} (hcb : c < base) (hg : Chg (fun j => j = c) w w') : w'.ownsRow base t 1 v n xs := by
  refine ⟨h.1, ?_⟩
  rcases h.2 with hn | ⟨g, cap, cur, hv, hgb, hgg, rest⟩
  · exact .inl hn
  · exact .inr ⟨g, cap, cur, hv, hgb, (hg.block g (Array.getElem?_eq_some_iff.1 hgg).1 (by omega)).trans hgg, rest⟩
theorem chg_grown {S : Nat → Prop} {w0 w w' : World} {e : TypeId} {size n : Nat} {v : Value} {xs : List Value} (hB : Chg S w0 w) (h : w.ownsRow w0.heap.size e size v n xs) (hg : w.grownBy w' v.ownBlock) : Chg S w0 w' :=
  ⟨hg.os.trans hB.os, hg.tape.trans hB.tape, hg.output.trans hB.output, Nat.le_trans hB.size hg.size, fun k hk hs =>
    (hg.block k (Nat.lt_of_lt_of_le hk hB.size) (fun e => by have := (h.lt k e.symm).1; omega)).trans (hB.block k hk hs)⟩
theorem que_grown {w w' : World} {p c cap : Nat} {t : TypeId} {L : List Value} {base : Nat} {e : TypeId} {size n : Nat} {v : Value} {xs : List Value} (hq : Que w p c t cap L) (h : w.ownsRow base e size v n xs) (hp : p < base) (hc : c < base) (hg : w.grownBy w' v.ownBlock) : Que w' p c t cap L := by
  obtain ⟨s, r, hh⟩ := hq.ch
  exact ⟨(hg.block p hq.blk.lt (fun e => by have := (h.lt p e.symm).1; omega)).trans hq.blk, s, r, (hg.block c hq.ch.lt (fun e => by have := (h.lt c e.symm).1; omega)).trans hh⟩
theorem que_alloc {w : World} {p c cap : Nat} {t : TypeId} {L : List Value} (hq : Que w p c t cap L) (o : Obj) : Que (w.alloc o) p c t cap L := by
  have hl := hq.ch.lt
  obtain ⟨s, r, hh⟩ := hq.ch
  exact ⟨hq.blk.alloc o, s, r, (Below.heap_alloc w o c hl).trans hh⟩
end Go.Proofs.Ytkmdgpfaaniibaa


/- A row of one's own, of structs, as a list; where it lies. -/
namespace Go.Proofs.Ytkmdgpfaaniibaa
open Go.RowKit
set_option linter.unusedVariables false
set_option linter.unusedSimpArgs false
set_option maxRecDepth 100000

theorem flat_at {α : Type} (k : Nat) (enc : α → List Value) (hk : ∀ x, (enc x).length = k) (l : List α) (i : Nat) (hi : i < l.length) (j : Nat) (hj : j < k) : (l.flatMap enc)[i * k + j]? = (enc l[i])[j]? := by
  induction l generalizing i with
  | nil => simp at hi
  | cons x l ih =>
    rw [List.flatMap_cons]
    cases i with
    | zero =>
      rw [List.getElem?_append_left (by rw [hk]; omega)]
      simp
    | succ i =>
      rw [List.getElem?_append_right (by rw [hk, Nat.add_mul]; omega), hk, show (i + 1) * k + j - k = i * k + j by rw [Nat.add_mul]; omega]
      simpa using ih i (by simpa using hi)
/-- what a slice owns it reads; it lies among the call's own blocks -/
theorem own_elsB {α : Type} {k : Nat} {enc : α → List Value} (hk : ∀ x, (enc x).length = k) {w : World} {base : Nat} {t : TypeId} {v : Value} {l : List α} (h : w.ownsRow base t k v l.length (l.flatMap enc)) :
    ∃ A c, v = .slice A l.length c ∧ Els k enc w A l ∧ ∀ b off, A = some ⟨b, off, none⟩ → base ≤ b := by
  rcases h.2 with ⟨rfl, hn⟩ | ⟨g, cap, cur, rfl, hb, hg, _⟩
  · exact ⟨none, 0, by rw [hn], fun h0 => absurd h0 (by omega), fun b off e => by cases e⟩
  · refine ⟨_, cap, rfl, fun h0 => ⟨g, 0, rfl, (Array.getElem?_eq_some_iff.1 hg).1, fun i hi j v hv => ?_⟩, fun b off e => by cases e; exact hb⟩
    have hj : j < k := by rw [← hk l[i]]; exact (List.getElem?_eq_some_iff.1 hv).1
    have := World.ownsRow.cells h (g := g) rfl (i * k + j) v (by rw [flat_at k enc hk l i hi j hj]; exact hv)
    have hadd : (⟨g, 0, none⟩ : Addr).add (i * k + j) = ⟨g, 0 + i * k + j, none⟩ := by unfold Addr.add; split <;> simp_all
    rw [hadd] at this
    exact this
end Go.Proofs.Ytkmdgpfaaniibaa


/- append of structs that a slice reads as, nil or not, to a row of the call's own: up to a million. -/
namespace Go.Proofs.Ytkmdgpfaaniibaa
open Go.RowKit
set_option linter.unusedVariables false
set_option linter.unusedSimpArgs false
set_option maxRecDepth 100000

section
variable {α : Type} {k : Nat} {enc : α → List Value}
theorem flatL (hk : ∀ x, (enc x).length = k) (l : List α) : (l.flatMap enc).length = l.length * k := by
  induction l with
  | nil => simp
  | cons x l ih => rw [List.flatMap_cons, List.length_append, hk, ih, List.length_cons, Nat.add_mul]; omega
theorem elsL_src (hk : ∀ x, (enc x).length = k) (h0 : 0 < k) {w : World} {A : Option Addr} {r : List α} (h : Els k enc w A r) (hr : 0 < r.length) : ∃ ad, A = some ad ∧ ∀ j u, (r.flatMap enc)[j]? = some u → w.cell? (ad.add j) = some u := by
  obtain ⟨b, off, e, _, hc⟩ := h hr
  refine ⟨_, e, fun j u hu => ?_⟩
  have hadd : (⟨b, off, none⟩ : Addr).add j = ⟨b, off + j, none⟩ := by unfold Addr.add; split <;> simp_all
  rw [hadd]
  have hj : j < r.length * k := by
    have := (List.getElem?_eq_some_iff.1 hu).1
    rwa [flatL hk] at this
  have hdm := Nat.div_add_mod j k
  have hm := Nat.mod_lt j h0
  have hq : j / k < r.length := (Nat.div_lt_iff_lt_mul h0).2 hj
  have hjk : j / k * k + j % k = j := by rw [Nat.mul_comm]; exact hdm
  have := hc (j / k) hq (j % k) u (by
    rw [← flat_at k enc hk r (j / k) hq (j % k) hm, hjk]
    exact hu)
  rw [show off + j / k * k + j % k = off + j by omega] at this
  exact this
theorem elsL_chg {w w' : World} {A : Option Addr} {r : List α} {X : Nat → Prop} (h : Els k enc w A r) (hc : Chg X w w') (hn : ∀ a, A = some a → ¬ X a.block) : Els k enc w' A r := by
  intro h0
  obtain ⟨b, off, e, hlt, hcell⟩ := h h0
  refine ⟨b, off, e, Nat.lt_of_lt_of_le hlt hc.size, fun i hi j v hv => ?_⟩
  rw [World.cell?_of_block (w := w) (a := ⟨b, off + i * k + j, none⟩) (hc.block b hlt (hn _ e))]
  exact hcell i hi j v hv
/-- what append does -/
theorem run_appL {P : Program} {w : World} (hk : ∀ x, (enc x).length = k) (h1 : ∀ x, ∀ u ∈ enc x, u.oneCell' = true) (h0 : 0 < k) (base : Nat) (t ty e : TypeId) (i : TypeInfo) (z : Value) (bytes : Nat) (ht : P.underlying t = some (.slice e)) (hi : P.info? e = some i) (hz : i.zero = some z)
    (hsize : i.size = k) (hby : i.bytes = bytes) (hzs : z.cells.size = k) (v : Value) (l : List α) (hown : w.ownsRow base e k v l.length (l.flatMap enc)) (A : Option Addr) (c : Nat) (r : List α) (hA : A = none → c = 0) (hE : Els k enc w A r)
    (hlen : l.length + r.length ≤ 1000000) (hb : bytes ≤ 1000) (hbase : base ≤ w.heap.size) :
    ∃ v' w', (Builtin.append_ #[t, t] ty #[v, .slice A r.length c]).run P w = .ok v' w' ∧ w'.ownsRow base e k v' (l ++ r).length ((l ++ r).flatMap enc) ∧ w.grownBy w' v.ownBlock ∧ (v'.ownBlock = v.ownBlock ∨ v'.ownBlock = some w.heap.size) := by
  have key : ∀ ad, A = some ad → (∀ j u, (r.flatMap enc)[j]? = some u → w.cell? (ad.add j) = some u) → ∃ v' w', (Builtin.append_ #[t, t] ty #[v, .slice A r.length c]).run P w = .ok v' w' ∧ w'.ownsRow base e k v' (l ++ r).length ((l ++ r).flatMap enc) ∧ w.grownBy w' v.ownBlock ∧ (v'.ownBlock = v.ownBlock ∨ v'.ownBlock = some w.heap.size) := by
    rintro ad rfl hc
    have hbb : (l.length + r.length) * bytes ≤ 1000000 * 1000 := Nat.mul_le_mul hlen hb
    obtain ⟨v', w', hr, h2, h3, _, h5⟩ := run_append_own_at (P := P) w base t ty e i z k bytes ht hi hz hsize hby hzs h0 v l.length (l.flatMap enc) hown ad r.length c (r.flatMap enc) (flatL hk r) hc
      (fun u hu => by obtain ⟨x, _, hx⟩ := List.mem_flatMap.1 hu; exact h1 x u hx) (by unfold maxLen; omega) (by omega) hbase
    refine ⟨v', w', hr, ?_, h3, h5⟩
    rw [List.length_append, List.flatMap_append]
    exact h2
  rcases Nat.eq_zero_or_pos r.length with e0 | e0
  · have hr0 : r = [] := List.eq_nil_of_length_eq_zero e0
    subst hr0
    cases A with
    | none =>
      obtain rfl := hA rfl
      refine ⟨v, w, run_append_owned_none (P := P) (w := w) base t ty e i k ht hi v l.length (l.flatMap enc) hown, ?_, ⟨rfl, rfl, rfl, Nat.le_refl _, fun _ _ _ => rfl⟩, .inl rfl⟩
      simpa using hown
    | some ad => exact key ad rfl (by simp)
  · obtain ⟨ad, e, hc⟩ := elsL_src hk h0 hE e0
    exact key ad e hc
/-- append, as a step of a list -/
theorem wpl_appL {P : Program} {w : World} {ops : Array Oper} {rest : List Oper} {o : Oper} {a : Act} {Q : Exit → Act → World → Prop} (hgd : o.guard = none) (s x : Operand) (t : TypeId)
    (ho : o.op = .call { callee := .builtin .append, args := #[s, x], argTypes := #[t, t] })
    (hk : ∀ x, (enc x).length = k) (h1 : ∀ x, ∀ u ∈ enc x, u.oneCell' = true) (h0 : 0 < k) (base : Nat) (e : TypeId) (i : TypeInfo) (z : Value) (bytes : Nat) (ht : P.underlying t = some (.slice e)) (hi : P.info? e = some i ∧ i.zero = some z ∧ i.size = k ∧ i.bytes = bytes)
    (hzs : z.cells.size = k) (v : Value) (l : List α) (hs : a.eval s = v) (hown : w.ownsRow base e k v l.length (l.flatMap enc)) (A : Option Addr) (n c : Nat) (r : List α) (hn : r.length = n) (hx : a.eval x = .slice A n c) (hA : A = none → c = 0) (hE : Els k enc w A r)
    (hlen : l.length + r.length ≤ 1000000) (hb : bytes ≤ 1000) (hbase : base ≤ w.heap.size)
    (h : ∀ v' w', w'.ownsRow base e k v' (l ++ r).length ((l ++ r).flatMap enc) → w.grownBy w' v.ownBlock → (v'.ownBlock = v.ownBlock ∨ v'.ownBlock = some w.heap.size) → wpList P ops Q rest (a.put o.dst v') w') :
    wpList P ops Q (o :: rest) a w :=
  wpList_plain hgd fun _ hK => by
    subst hn
    obtain ⟨v', w', hr, h2, h3, h4⟩ := run_appL (P := P) (w := w) hk h1 h0 base t o.type e i z bytes ht hi.1 hi.2.1 hi.2.2.1 hi.2.2.2 hzs v l hown A c r hA hE hlen hb hbase
    unfold Oper.wp execOp
    simp only [ho, resolve, invoke, builtin, Sem.run_bind, Sem.run_pure, Result.andThen_ok, List.map_toArray, List.map_cons, List.map_nil, hs, hx, hr]
    exact hK _ _ (h _ _ h2 h3 h4)
/-- append, as a step of a region that draws -/
theorem step_appL {P : Program} {w : World} {ops : Array Oper} {o : Oper} {a : Act} {K : Act → World → Prop} {Q : Exit → Act → World → Prop} {E : Prop} (hgd : o.guard = none) (s x : Operand) (t : TypeId)
    (ho : o.op = .call { callee := .builtin .append, args := #[s, x], argTypes := #[t, t] })
    (hk : ∀ x, (enc x).length = k) (h1 : ∀ x, ∀ u ∈ enc x, u.oneCell' = true) (h0 : 0 < k) (base : Nat) (e : TypeId) (i : TypeInfo) (z : Value) (bytes : Nat) (ht : P.underlying t = some (.slice e)) (hi : P.info? e = some i ∧ i.zero = some z ∧ i.size = k ∧ i.bytes = bytes)
    (hzs : z.cells.size = k) (v : Value) (l : List α) (hs : a.eval s = v) (hown : w.ownsRow base e k v l.length (l.flatMap enc)) (A : Option Addr) (n c : Nat) (r : List α) (hn : r.length = n) (hx : a.eval x = .slice A n c) (hA : A = none → c = 0) (hE : Els k enc w A r)
    (hlen : l.length + r.length ≤ 1000000) (hb : bytes ≤ 1000) (hbase : base ≤ w.heap.size)
    (h : ∀ v' w', w'.ownsRow base e k v' (l ++ r).length ((l ++ r).flatMap enc) → w.grownBy w' v.ownBlock → (v'.ownBlock = v.ownBlock ∨ v'.ownBlock = some w.heap.size) → K (a.put o.dst v') w') :
    if Region.wanted o (yielded ops a.tmps) = true then Oper.wp P o a w K Q else E := by
  have hw : Region.wanted o (yielded ops a.tmps) = true := by simp [Region.wanted, hgd]
  rw [if_pos hw]
  subst hn
  obtain ⟨v', w', hr, h2, h3, h4⟩ := run_appL (P := P) (w := w) hk h1 h0 base t o.type e i z bytes ht hi.1 hi.2.1 hi.2.2.1 hi.2.2.2 hzs v l hown A c r hA hE hlen hb hbase
  unfold Oper.wp execOp
  simp only [ho, resolve, invoke, builtin, Sem.run_bind, Sem.run_pure, Result.andThen_ok, List.map_toArray, List.map_cons, List.map_nil, hs, hx, hr]
  exact h _ _ h2 h3 h4
end
theorem own_fullL {α : Type} {k : Nat} {enc : α → List Value} (hk : ∀ x, (enc x).length = k) {w : World} {base : Nat} {t : TypeId} {v : Value} {l : List α} (h : w.ownsRow base t k v l.length (l.flatMap enc)) :
    ∃ A c, v = .slice A l.length c ∧ Els k enc w A l ∧ l.length ≤ c ∧ (A = none → c = 0) ∧ ∀ a, A = some a → base ≤ a.block ∧ a.block < w.heap.size := by
  obtain ⟨A, c, rfl, hE, _⟩ := own_elsB hk h
  refine ⟨A, c, rfl, hE, ?_⟩
  rcases h.2 with ⟨e, h0⟩ | ⟨g, cap, cur, e, hb, hg, h1, h2, h3, h4⟩
  · simp only [Value.slice.injEq] at e
    exact ⟨by omega, fun _ => e.2.2, fun a ha => by rw [e.1] at ha; cases ha⟩
  · simp only [Value.slice.injEq] at e
    refine ⟨by omega, fun ha => (by rw [e.1] at ha; cases ha), fun a ha => ?_⟩
    rw [e.1] at ha
    cases ha
    exact ⟨hb, (Array.getElem?_eq_some_iff.1 hg).1⟩
end Go.Proofs.Ytkmdgpfaaniibaa


/- Whole structs in memory: load, store, results. -/
namespace Go.Proofs.Ytkmdgpfaaniibaa
open Go.RowKit
set_option linter.unusedVariables false
set_option linter.unusedSimpArgs false
set_option maxRecDepth 100000

section
variable {P : Program}
theorem eqs_step {P : Program} {d : Nat} {xs ys : Array Value} {f : Field} {fs : List Field} {w : World} {a b : Value} {r s : Bool} (hn : f.name ≠ "_") (ha : (part f.type xs f.offset).run P w = .ok a w) (hb : (part f.type ys f.offset).run P w = .ok b w)
    (hr : (Op.equalIn d f.type a b).run P w = .ok r w) (hs : (Op.eqFields d xs ys fs).run P w = .ok s w) : (Op.eqFields d xs ys (f :: fs)).run P w = .ok (r && s) w := by
  simp only [Op.eqFields, hn, ne_eq, not_false_eq_true, if_true, Sem.run_bind, ha, hb, hr, Result.andThen_ok]
  cases r
  · simp
  · simp only [Bool.not_true, Bool.false_eq_true, if_false, Bool.true_and]
    exact hs
theorem eqs_nil {P : Program} {d : Nat} {xs ys : Array Value} {w : World} : (Op.eqFields d xs ys []).run P w = .ok true w := by simp [Op.eqFields]
theorem Blk.row {w : World} {g : Nat} {t : TypeId} {cs : Array Value} (h : Blk w g t cs) (cs' : Array Value) : Blk (w.setRow g cs') g t cs' := setRow_heap w g cs cs' t (0, 0) h
theorem Blk.rowFar {w : World} {g k : Nat} {t : TypeId} {cs : Array Value} (h : Blk w g t cs) (hk : g ≠ k) (cs' : Array Value) : Blk (w.setRow k cs') g t cs := (setRow_other w k g cs' hk).trans h
theorem Chg.setRow {S : Nat → Prop} {w w' : World} {g : Nat} (h : Chg S w w') (hg : w.heap.size ≤ g ∨ S g) (cs : Array Value) : Chg S w (w'.setRow g cs) :=
  ⟨h.os, h.tape, h.output, Nat.le_trans h.size (by simp), fun k hk hn => by
    rw [setRow_other w' g k cs (by rintro rfl; exact hg.elim (fun hp => by omega) (fun hp => hn hp))]
    exact h.block k hk hn⟩
theorem below_row {B : Nat} {w w' : World} {g : Nat} (h : Below B w w') (hg : B ≤ g) (cs : Array Value) : Below B w (w'.setRow g cs) :=
  ⟨h.os, h.tape, h.output, Nat.le_trans h.size (by simp), fun k hk => by
    rw [setRow_other w' g k cs (by omega)]
    exact h.block k hk⟩
/-- a store of a whole struct, as a step of a list -/
theorem wpList_store_row {ops : Array Oper} {rest : List Oper} {o : Oper} {a : Act} {w : World} {Q : Exit → Act → World → Prop} (hgd : o.guard = none) (ty : TypeId) (p v : Operand) (ho : o.op = .store ty p v)
    (g : Nat) (hp : a.eval p = .pointer (some ⟨g, 0, none⟩)) (c' : Array Value) (hv : a.eval v = .agg c') (t : TypeId) (cs : Array Value) (hg : Blk w g t cs)
    (hi : (P.info? ty).map (·.size) = some c'.size) (hs : cs.size = c'.size) (h1 : c'.all (·.oneCell') = true)
    (h : wpList P ops Q rest (a.put o.dst (.tuple #[])) (w.setRow g c')) : wpList P ops Q (o :: rest) a w :=
  wpList_plain hgd fun _ hK => by
    unfold Oper.wp execOp
    simp only [ho, hp, hv, Instr.storeAt, Instr.sureAddr, Sem.run_bind, Sem.run_pure, Result.andThen_ok, run_storeVar_row w g t ty cs c' hg hi hs h1]
    exact hK _ _ h
/-- a load of a whole struct in a region that draws -/
theorem still_row {ops : Array Oper} {w : World} {Q : Act → Prop} {a : Act} {o : Oper} {rest : List Oper} (ty : TypeId) (x : Nat) (ho : o.op = .load ty (.tmp x)) (hw : Region.wanted o (yielded ops a.tmps) = true) (g : Nat)
    (hx : a.eval (.tmp x) = .pointer (some ⟨g, 0, none⟩)) (t : TypeId) (cs : Array Value) (d : TypeDesc) (hg : Blk w g t cs)
    (hu : P.underlying ty = some d) (hd : (match d with | .struct _ | .array _ _ => true | _ => false) = true) (hi : (P.info? ty).map (·.size) = some cs.size)
    (hK : wpStill P ops w Q rest (a.put o.dst (.agg cs))) : wpStill P ops w Q (o :: rest) a := by
  unfold wpStill
  rw [if_pos hw]
  unfold Oper.still execOp
  simp only [ho, hx, Instr.loadAt, Instr.sureAddr, Sem.run_bind, Sem.run_pure, Result.andThen_ok, run_loadVar_row w g t ty cs (0, 0) d hg hu hd hi]
  exact ⟨rfl, hK⟩
/-- two results: a struct in memory, and a slot -/
theorem results_cell_slot {fn : Func} {p q : Tmp} {ty : TypeId} (h : fn.results = #[.cell p ty, .tmp q]) (tmps : Array Value) (w : World) (g : Nat) (t : TypeId) (cs : Array Value) (d : TypeDesc)
    (hp : tmps.getD p undef = .pointer (some ⟨g, 0, none⟩)) (hg : Blk w g t cs)
    (hu : P.underlying ty = some d) (hd : (match d with | .struct _ | .array _ _ => true | _ => false) = true) (hi : (P.info? ty).map (·.size) = some cs.size) (v : Value) (hq : tmps.getD q undef = v) :
    (results fn tmps).run P w = .ok (.tuple #[.agg cs, v]) w := by
  have hp' : tmps[p]?.getD undef = .pointer (some ⟨g, 0, none⟩) := by simpa using hp
  have hq' : tmps[q]?.getD undef = v := by simpa using hq
  simp [results, h, hp', hq', asAddr, run_loadVar_row w g t ty cs (0, 0) d hg hu hd hi]
end
end Go.Proofs.Ytkmdgpfaaniibaa


/- A world that has grown out of another one: draws, and new blocks. -/
namespace Go.Proofs.Ytkmdgpfaaniibaa
open Go.RowKit
set_option linter.unusedVariables false
set_option linter.unusedSimpArgs false
set_option maxRecDepth 100000

/-- nothing that was there has changed; draws and new blocks alone came to it -/
structure Gro (w w' : World) : Prop where
  below : Below w.heap.size w w'
  drawn : w.drawn ≤ w'.drawn
section
variable {w w' w'' : World}
theorem Gro.refl (w : World) : Gro w w := ⟨Below.refl _ _, Nat.le_refl _⟩
theorem Gro.size (h : Gro w w') : w.heap.size ≤ w'.heap.size := h.below.size
theorem Gro.trans (h : Gro w w') (h' : Gro w' w'') : Gro w w'' := ⟨h.below.trans (h'.below.mono h.size), Nat.le_trans h.drawn h'.drawn⟩
theorem Gro.drew (h : Gro w w') : Gro w w'.drew := ⟨h.below.drew, Nat.le_trans h.drawn (Nat.le_succ _)⟩
theorem Gro.drewN (h : Gro w w') (n : Nat) : Gro w (w'.drewN n) := ⟨⟨h.below.os, h.below.tape, h.below.output, h.below.size, h.below.block⟩, Nat.le_trans h.drawn (Nat.le_add_right _ _)⟩
theorem Gro.alloc (h : Gro w w') (o : Obj) : Gro w (w'.alloc o) := ⟨h.below.alloc h.size o, h.drawn⟩
theorem Gro.setCell (h : Gro w w') {p : Addr} (hp : w.heap.size ≤ p.block) (u : Value) : Gro w (w'.setCell p u) := ⟨h.below.setCell hp u, h.drawn⟩
theorem Gro.block (h : Gro w w') {k : Nat} (hk : k < w.heap.size) : w'.heap[k]? = w.heap[k]? := h.below.block k hk
theorem Gro.cell (h : Gro w w') {p : Addr} (hp : p.block < w.heap.size) : w'.cell? p = w.cell? p := h.below.cell hp
theorem Gro.blk (h : Gro w w') {g : Nat} {t : TypeId} {cs : Array Value} (hb : Blk w g t cs) : Blk w' g t cs := hb.below h.below hb.lt
/-- said as the shelf's sort says it -/
theorem Gro.out (h : Gro w w') : ∃ q os, w' = Sort.grow (w.drewN q) os := by
  refine ⟨w'.drawn - w.drawn, w'.heap.extract w.heap.size w'.heap.size, ?_⟩
  obtain ⟨⟨h1, h2, h3, h4, h5⟩, h6⟩ := h
  obtain ⟨heap, tape, drawn, os, output⟩ := w
  obtain ⟨heap', tape', drawn', os', output'⟩ := w'
  simp only [Sort.grow, World.drewN] at *
  subst h1 h2 h3
  have hd : drawn' = drawn + (drawn' - drawn) := by omega
  have hh : heap' = heap ++ heap'.extract heap.size heap'.size := by
    apply Array.ext_getElem?
    intro k
    rcases Nat.lt_or_ge k heap.size with hk | hk
    · rw [Array.getElem?_append_left hk, h5 k hk]
    · rw [Array.getElem?_append_right hk, Array.getElem?_extract]
      rcases Nat.lt_or_ge k heap'.size with hk' | hk'
      · rw [if_pos (by omega), show heap.size + (k - heap.size) = k by omega]
      · rw [if_neg (by omega), Array.getElem?_eq_none hk']
  rw [← hh, ← hd]
theorem Gro.of_grow (q : Nat) (os : Array Obj) : Gro w (Sort.grow (w.drewN q) os) := by
  refine ⟨⟨rfl, rfl, rfl, ?_, fun k hk => ?_⟩, ?_⟩
  · simp [Sort.grow, World.drewN]
  · simp only [Sort.grow, World.drewN]; rw [Array.getElem?_append_left hk]
  · simp [Sort.grow, World.drewN]
end
end Go.Proofs.Ytkmdgpfaaniibaa


/- Slices of bytes and texts. -/
namespace Go.Proofs.Ytkmdgpfaaniibaa
open Go.RowKit
set_option linter.unusedVariables false
set_option linter.unusedSimpArgs false
set_option maxRecDepth 100000

/-- the value v is a slice that reads as the bytes l -/
def Str (w : World) (v : Value) (l : List UInt8) : Prop := ∃ A c, v = .slice A l.length c ∧ (A = none → c = 0) ∧ Byt w A l
theorem OwnB.str {w : World} {base : Nat} {v : Value} {l : List UInt8} (h : OwnB w base v l) : Str w v l := by
  rcases h.2 with ⟨rfl, hn⟩ | ⟨g, cap, cur, rfl, _, _, _⟩
  · exact ⟨none, 0, by rw [hn], fun _ => rfl, fun h0 => absurd h0 (by omega)⟩
  · exact ⟨_, cap, rfl, (by simp), fun _ => ⟨_, rfl, fun j u hu => World.ownsRow.cells h (g := g) rfl j u hu⟩⟩
theorem Str.conv {w : World} {v : Value} {l : List UInt8} (h : Str w v l) : (convert 53 9 v).run Try.prog w = .ok (.string ⟨l.toArray⟩) w := by
  obtain ⟨A, c, rfl, hz, hb⟩ := h
  rcases Nat.eq_zero_or_pos l.length with h0 | h0
  · have hl : l = [] := List.eq_nil_of_length_eq_zero h0
    subst hl
    cases A with
    | none => exact Lib.run_convert_nil_bytes w _ _ _ c Try.underlying53 Try.underlying5 Try.underlying9
    | some ad => exact run_convert_bytes_back w _ _ _ ad c [] Try.underlying53 Try.underlying5 Try.underlying9 (fun j hj => absurd hj (by simp))
  · obtain ⟨ad, rfl, hc⟩ := hb h0
    exact run_convert_bytes_back w _ _ _ ad c l Try.underlying53 Try.underlying5 Try.underlying9 (fun j hj => hc j _ (by simp [bvals, bval, hj]))
theorem Str.below {w w' : World} {v : Value} {l : List UInt8} (h : Str w v l) (hb : Below w.heap.size w w') : Str w' v l := by
  obtain ⟨A, c, rfl, hz, hy⟩ := h
  exact ⟨A, c, rfl, hz, hy.below hb⟩

end Go.Proofs.Ytkmdgpfaaniibaa


/- Layer 11: things in memory, and as arguments. -/
namespace Go.Proofs.Ytkmdgpfaaniibaa
open Go.ChangeShapes Go.WideShapes Go.ChangeAt Go.RowKit
set_option linter.unusedVariables false
set_option linter.unusedSimpArgs false
set_option maxRecDepth 100000

section
variable {w w' : World} {A : Option Addr} {L : List Tl}
theorem tl_at {x : Tl} {k : Nat} (h : Els 2 tlV w A L) (hx : L[k]? = some x) : ∃ b off, A = some ⟨b, off, none⟩ ∧ b < w.heap.size ∧ w.cell? ⟨b, off + k * 2, none⟩ = some (.int .u8 x.k.toNat) ∧ w.cell? ⟨b, off + k * 2 + 1, none⟩ = some (.string ⟨x.v.toArray⟩) := by
  obtain ⟨hk, rfl⟩ := List.getElem?_eq_some_iff.1 hx
  obtain ⟨b, off, e, hlt, hc⟩ := h (by omega)
  exact ⟨b, off, e, hlt, hc k hk 0 _ rfl, hc k hk 1 _ rfl⟩
theorem els_nilL (w : World) (A : Option Addr) : Els 2 tlV w A [] := fun h => absurd h (by simp)
/-- one thing, in a block of its own -/
theorem els_oneL (w : World) (t : TypeId) (x : Tl) (cs : Array Value) (h : cs = (tlV x).toArray) : Els 2 tlV (w.alloc (.cells cs t)) (some ⟨w.heap.size, 0, none⟩) [x] := by
  subst h
  intro _
  refine ⟨_, 0, rfl, by simp, fun i hi j v hv => ?_⟩
  obtain rfl : i = 0 := by simpa using hi
  have := (Blk.new w t (tlV x).toArray).cell j
  rw [show 0 + 0 * 2 + j = j by omega, this]
  simpa using hv
end
theorem tl_eqI (x y : UInt8) : ((x.toNat : Int) == (y.toNat : Int)) = (x == y) := by
  rw [Bool.eq_iff_iff]
  simp only [beq_iff_eq]
  exact ⟨fun e => UInt8.toNat_inj.1 (by omega), fun e => by rw [e]⟩
section
variable {H : Type} {enc : TypeId × Value → H} {w : World} {base : Nat} {spare : Nat → Bool} {held : Bool}
theorem u8_ofL {n : Int} (h : (Lit.int .u8 n).wf = true) : ∃ u : UInt8, n = (u.toNat : Int) := by
  have hb : 0 ≤ n ∧ n ≤ 255 := by
    simp [Lit.wf, IntKind.has, IntKind.min, IntKind.max, IntKind.signed, IntKind.bits] at h
    omega
  refine ⟨UInt8.ofNat n.toNat, ?_⟩
  have : n.toNat % 256 = n.toNat := by omega
  simp [this]
  omega
theorem tl_trod {t : TypeId} {f0 f1 : Field} (hs : Try.prog.underlying t = some (.struct #[f0, f1])) (ht : f0.type = 5 ∧ f1.type = 9) (ho : f0.offset = 0 ∧ f1.offset = 1)
    {fuel : Nat} {cs : List Value} {x : DataW H × List MemPlace} (hl : cs.length = 2) (h : DataW.trod enc Try.prog w base spare held fuel t cs = some x) : ∃ v : Tl, True ∧ cs = tlV v := by
  obtain ⟨t0, t1⟩ := ht
  obtain ⟨o0, o1⟩ := ho
  obtain ⟨n0, e0, w0⟩ := trod_fldInt hs h 0 f0 rfl (k := .u8) (by rw [t0]; exact Try.underlying5) (by rw [t0]; kernel_rfl)
  obtain ⟨fm, y, e1⟩ := trod_fld hs h 1 f1 rfl
  rw [o0] at e0
  rw [o1, t1, show Try.prog.cellsOf 9 = 1 by kernel_rfl] at e1
  obtain ⟨v0, rfl⟩ := u8_ofL w0
  obtain ⟨s, es, _, _⟩ := DataW.trod_string Try.underlying9 e1
  match cs, hl with
  | [c0, c1], _ =>
    simp at e0 es
    subst e0 es
    obtain ⟨⟨l⟩⟩ := s
    exact ⟨⟨v0, l⟩, trivial, rfl⟩
end
theorem tl_strbeq (a b : List UInt8) : ((⟨a.toArray⟩ : ByteArray).toList == (⟨b.toArray⟩ : ByteArray).toList) = (a == b) := by
  rw [ByteArray.toList_eq, ByteArray.toList_eq]
theorem infoTl : (Try.prog.info? 167).map (fun i => (i.zero, i.size, i.bytes)) = some (some (.agg #[.int .u8 0, .string ⟨#[]⟩]), 2, 24) := by kernel_rfl
theorem tl_same (x y : Tl) : ((x.k == y.k) && ((x.v == y.v) && true)) = decide (x = y) := by
  obtain ⟨a, b⟩ := x
  obtain ⟨c, d⟩ := y
  rw [Bool.eq_iff_iff]
  simp
theorem run_eqTl (x y : Tl) (w : World) : (Op.equalIn 10000 167 (.agg #[.int .u8 x.k.toNat, .string ⟨x.v.toArray⟩]) (.agg #[.int .u8 y.k.toNat, .string ⟨y.v.toArray⟩])).run Try.prog w = .ok (decide (x = y)) w := by
  have h1 := run_equalIn_int (P := Try.prog) w 9998 5 .u8 .u8 (x.k.toNat : Int) (y.k.toNat : Int) Try.underlying5
  have h2 := run_equalIn_string (P := Try.prog) w 9998 9 ⟨x.v.toArray⟩ ⟨y.v.toArray⟩ Try.underlying9
  rw [tl_eqI] at h1
  rw [tl_strbeq] at h2
  rw [run_equalIn_struct w 9999 167 _ _ (by rw [Program.fieldsOf, Try.underlying167]) (by kernel_rfl)]
  simp only [Program.fieldsOf, Try.underlying167]
  rw [← tl_same x y]
  refine eqs_step (by decide) (by kernel_rfl) (by kernel_rfl) h1 ?_
  refine eqs_step (by decide) (by kernel_rfl) (by kernel_rfl) h2 ?_
  exact eqs_nil
theorem OwnB.lowL {w : World} {base base' : Nat} {v : Value} {l : List UInt8} (h : OwnB w base v l) (hb : base' ≤ base) : OwnB w base' v l := by
  refine ⟨h.1, ?_⟩
  rcases h.2 with hn | ⟨g, cap, cur, hv, hbg, rest⟩
  · exact .inl hn
  · exact .inr ⟨g, cap, cur, hv, Nat.le_trans hb hbg, rest⟩
theorem own_neL {w : World} {base : Nat} {e t : TypeId} {size n g : Nat} {v : Value} {xs : List Value} {cs : Array Value} (h : w.ownsRow base e size v n xs) (hb : Blk w g t cs) (ht : t ≠ e) : some g ≠ v.ownBlock := by
  rcases h.2 with ⟨rfl, _⟩ | ⟨g', cap, cur, rfl, _, hg, _⟩
  · intro h; cases h
  · intro h
    simp only [Value.ownBlock, Option.some.injEq] at h
    subst h
    unfold Blk at hb
    rw [hb] at hg
    simp only [Option.some.injEq, Obj.cells.injEq] at hg
    exact ht hg.2.1
theorem blk_grownL {w w' : World} {g : Nat} {t : TypeId} {cs : Array Value} {row : Option Nat} (hk : Blk w g t cs) (hg : w.grownBy w' row) (hn : some g ≠ row) : Blk w' g t cs := (hg.block g hk.lt hn).trans hk
theorem append_textL {w : World} {ops : Array Oper} {rest : List Oper} {o : Oper} {a : Act} {Q : Exit → Act → World → Prop} (hgd : o.guard = none) (s x : Operand)
    (ho : o.op = .call { callee := .builtin .append, args := #[s, x], argTypes := #[53, 9] })
    (base : Nat) (v : Value) (l : List UInt8) (hs : a.eval s = v) (hown : OwnB w base v l) (r : List UInt8) (hx : a.eval x = .string ⟨r.toArray⟩)
    (hlen : l.length + r.length ≤ 140737488355328) (hbase : base ≤ w.heap.size)
    (h : ∀ v' w', OwnB w' base v' (l ++ r) → w.grownBy w' v.ownBlock → wpList Try.prog ops Q rest (a.put o.dst v') w') : wpList Try.prog ops Q (o :: rest) a w := by
  obtain ⟨i, hi, hz0, hz1, hz2⟩ := info_parts u8_info
  have hsz : (⟨r.toArray⟩ : ByteArray).size = r.length := rfl
  refine Lib.wpList_append_own_string w hgd s x _ _ ho base 5 i Try.underlying53 Try.underlying9 hi hz0 hz1 hz2 v l.length (bvals l) hs hown ⟨r.toArray⟩ hx (by rw [hsz]; simp only [maxLen]; omega) (by rw [hsz]; exact hlen) hbase ?_
  intro v' w' h1 h2 _
  exact h v' w' (by unfold OwnB; rw [List.length_append, bvals_app]; exact h1) h2
end Go.Proofs.Ytkmdgpfaaniibaa


/- package tlv: Take: its closure, its loop. -/
namespace Go.Proofs.Ytkmdgpfaaniibaa
open Go.RowKit
set_option linter.unusedVariables false
set_option linter.unusedSimpArgs false
set_option maxRecDepth 100000

/-- what a number and a text behind it are, of a reader's bytes and error -/
def rvN (l : List UInt8) (er : Int) : Nat := num (tkV 2 l er)
def rvV (l : List UInt8) (er : Int) : List UInt8 := tkV (rvN l er) (tkL 2 l er) (tkE 2 l er)
def rvL (l : List UInt8) (er : Int) : List UInt8 := tkL (rvN l er) (tkL 2 l er) (tkE 2 l er)
def rvE (l : List UInt8) (er : Int) : Int := tkE (rvN l er) (tkL 2 l er) (tkE 2 l er)
theorem rvN_le (l : List UInt8) (er : Int) : rvN l er ≤ 65535 := by
  unfold rvN
  have h := num_lt (tkV 2 l er)
  have h1 := tkV_len 2 l er
  have h2 : 256 ^ (tkV 2 l er).length ≤ 256 ^ 2 := Nat.pow_le_pow_right (by omega) h1
  have h3 : (256 : Nat) ^ 2 = 65536 := by decide
  omega
theorem rv_len (l : List UInt8) (er : Int) : (rvL l er).length ≤ l.length := by
  unfold rvL tkL
  split <;> (split <;> simp <;> omega)
theorem rv_ok {l : List UInt8} (h2 : 2 ≤ l.length) (hn : num (l.take 2) ≤ (l.drop 2).length) : rvV l 0 = (l.drop 2).take (num (l.take 2)) ∧ rvL l 0 = (l.drop 2).drop (num (l.take 2)) ∧ rvE l 0 = 0 := by
  have a : tkV 2 l 0 = l.take 2 := by simp [tkV, h2]
  have b : tkL 2 l 0 = l.drop 2 := by simp [tkL, h2]
  have c : tkE 2 l 0 = 0 := by simp [tkE]; omega
  unfold rvV rvL rvE rvN
  rw [a, b, c]
  refine ⟨?_, ?_, ?_⟩
  · rw [tkV, if_pos ⟨rfl, hn⟩]
  · rw [tkL, if_pos ⟨rfl, hn⟩]
  · rw [tkE, if_neg (by omega)]
theorem rv_bad {l : List UInt8} (h : ¬ (2 ≤ l.length ∧ num (l.take 2) ≤ (l.drop 2).length)) : rvE l 0 = 3 := by
  by_cases h2 : 2 ≤ l.length
  · have a : tkV 2 l 0 = l.take 2 := by simp [tkV, h2]
    have b : tkL 2 l 0 = l.drop 2 := by simp [tkL, h2]
    have c : tkE 2 l 0 = 0 := by simp [tkE]; omega
    unfold rvE rvN
    rw [a, b, c, tkE, if_pos ⟨rfl, by omega⟩]
  · have c : tkE 2 l 0 = 3 := by simp [tkE]; omega
    unfold rvE
    rw [c, tkE, if_neg (by omega)]
theorem tks_rv {k : UInt8} {r : List UInt8} (hk : k ≠ 0) : (rvE r 0 = 0 ∧ tks (k :: r) = (tks (rvL r 0)).map (fun q => (⟨k, rvV r 0⟩ :: q.1, q.2))) ∨ (rvE r 0 = 3 ∧ tks (k :: r) = none) := by
  by_cases h : 2 ≤ r.length ∧ num (r.take 2) ≤ (r.drop 2).length
  · obtain ⟨a, b, c⟩ := rv_ok h.1 h.2
    refine .inl ⟨c, ?_⟩
    rw [tks_cons k r hk, if_neg (by omega), if_neg (by omega), a, b]
  · refine .inr ⟨rv_bad h, ?_⟩
    rw [tks_cons k r hk]
    by_cases h2 : r.length < 2
    · rw [if_pos h2]
    · rw [if_neg h2, if_pos (by omega)]
theorem ttext_any {w : World} {b : Nat} {l : List UInt8} {er : Int} (n : Nat) (h : Rdr w b l er) :
    Calls Try.prog 79 #[.pointer (some ⟨b, 0, none⟩), .int .i64 (n : Int)] w fun e w' => e = .returned (.string ⟨(tkV n l er).toArray⟩) ∧ Rdr w' b (tkL n l er) (tkE n l er) ∧ Chg (only b) w w' := by
  have := text_any (n : Int) h
  rw [show ((n : Int)).toNat = n by omega] at this
  exact this
end Go.Proofs.Ytkmdgpfaaniibaa


/- package tlv: Take, whole. -/
namespace Go.Proofs.Ytkmdgpfaaniibaa
open Go.RowKit
set_option linter.unusedVariables false
set_option linter.unusedSimpArgs false
set_option maxRecDepth 100000

/-- how many bytes the reader at a block has left -/
def leftAt (w : World) (b : Nat) : Nat := match w.cell? ⟨b, 0, none⟩ with | some (.string s) => s.size | _ => 0
theorem leftAt_of {w : World} {b : Nat} {l : List UInt8} {er : Int} (h : Rdr w b l er) : leftAt w b = l.length := by
  unfold leftAt
  rw [h.rest]
  rfl
/-- Take's memory: the reader, its box, the things so far -/
structure TkS (W : World) (b q : Nat) (L : List UInt8) (er : Int) (v : Value) (acc : List Tl) (w : World) : Prop where
  box : w.cell? ⟨q, 0, none⟩ = some (.pointer (some ⟨b, 0, none⟩))
  qb : q ≠ b
  ge : W.heap.size ≤ b ∧ W.heap.size ≤ q ∧ b < w.heap.size ∧ q < w.heap.size
  rdr : Rdr w b L er
  own : w.ownsRow W.heap.size 167 2 v acc.length (acc.flatMap tlV)
  below : Below W.heap.size W w
  box' : ∃ t cs, Blk w q t cs ∧ t ≠ 167
theorem TkS.call {W w w' : World} {b q : Nat} {L L' : List UInt8} {er er' : Int} {v : Value} {acc : List Tl} (h : TkS W b q L er v acc w) (hr : Rdr w' b L' er') (hc : Chg (only b) w w') : TkS W b q L' er' v acc w' := by
  have hqb := h.qb
  obtain ⟨g1, g2, g3, g4⟩ := h.ge
  have ho := h.own
  refine ⟨(Chg.cell hc (p := ⟨q, 0, none⟩) g4 hqb).trans h.box, hqb, ⟨g1, g2, Nat.lt_of_lt_of_le g3 hc.size, Nat.lt_of_lt_of_le g4 hc.size⟩, hr, ⟨ho.1, ?_⟩, h.below.trans (Chg.below (hc.mono (S' := only b) (fun _ _ h => h)) h.below.size (fun k hk hs => by unfold only at hs; omega)), ?_⟩
  · rcases ho.2 with hn | ⟨g, cap, cur, hv, hgb, hgg, rest⟩
    · exact .inl hn
    · refine .inr ⟨g, cap, cur, hv, hgb, (hc.block g (Array.getElem?_eq_some_iff.1 hgg).1 (fun e => ?_)).trans hgg, rest⟩
      have e' : g = b := e
      subst e'
      have := h.rdr
      unfold Rdr Blk at this
      rw [this] at hgg
      simp only [Option.some.injEq, Obj.cells.injEq] at hgg
      exact absurd hgg.2.1 (by decide)
  · obtain ⟨t, cs, hb, ht⟩ := h.box'
    exact ⟨t, cs, hb.chg hc hqb, ht⟩
theorem TkS.app {W w w' : World} {b q : Nat} {L : List UInt8} {er : Int} {v v' : Value} {acc acc' : List Tl} {o : Obj} (h : TkS W b q L er v acc w) (ho : w'.ownsRow W.heap.size 167 2 v' acc'.length (acc'.flatMap tlV)) (hg : (w.alloc o).grownBy w' v.ownBlock) : TkS W b q L er v' acc' w' := by
  obtain ⟨g1, g2, g3, g4⟩ := h.ge
  obtain ⟨t, cs, hb, ht⟩ := h.box'
  have hs : w.heap.size ≤ w'.heap.size := Nat.le_trans (by simp) hg.size
  have hq := blk_grownL (hb.alloc o) hg (own_neL h.own hb ht)
  have hr : Blk (w.alloc o) b _ _ := Blk.alloc h.rdr o
  have hbx := h.box
  rw [hb.cell] at hbx
  exact ⟨by rw [hq.cell]; exact hbx, h.qb, ⟨g1, g2, by omega, by omega⟩, blk_grownL hr hg (own_neL h.own h.rdr (by decide)), ho, (h.below.alloc h.below.size o).grown hg (by have := h.below.size; simp; omega) (fun k hk => (h.own.lt k hk).1), ⟨t, cs, hq, ht⟩⟩
/-- the things of bytes, what is behind them, or why they are none -/
def tkX (s : List UInt8) : List Tl := match tks s with | some p => p.1 | none => []
def tkR (s : List UInt8) : List UInt8 := match tks s with | some p => p.2 | none => []
def tkErr (s : List UInt8) : Nat := match tks s with | some _ => 0 | none => 3
theorem tk_none3 {s : List UInt8} (h : tks s = none) : tkX s = [] ∧ tkR s = [] ∧ tkErr s = 3 := by
  unfold tkX tkR tkErr
  rw [h]
  exact ⟨rfl, rfl, rfl⟩
theorem tk_some3 {s : List UInt8} {l : List Tl} {q : List UInt8} (h : tks s = some (l, q)) : tkX s = l ∧ tkR s = q ∧ tkErr s = 0 := by
  unfold tkX tkR tkErr
  rw [h]
  exact ⟨rfl, rfl, rfl⟩
theorem tu8_cons {w : World} {b : Nat} {x : UInt8} {r : List UInt8} (h : Rdr w b (x :: r) 0) :
    Calls Try.prog 80 #[.pointer (some ⟨b, 0, none⟩)] w fun e w' => e = .returned (.int .u8 x.toNat) ∧ Rdr w' b r 0 ∧ Chg (only b) w w' := by
  have := u8_any h
  have a : tkV 1 (x :: r) 0 = [x] := by simp [tkV]
  have b' : tkL 1 (x :: r) 0 = r := by simp [tkL]
  have c : tkE 1 (x :: r) 0 = 0 := by simp [tkE]
  rw [a, b', c] at this
  have e : num [x] = x.toNat := by simp [num]
  rw [e] at this
  exact this
theorem tu8_end {w : World} {b : Nat} {l : List UInt8} {er : Int} (h : Rdr w b l er) (he : (er = 0 ∧ l = []) ∨ er = 3) :
    Calls Try.prog 80 #[.pointer (some ⟨b, 0, none⟩)] w fun e w' => e = .returned (.int .u8 0) ∧ (∃ l', Rdr w' b l' 3) ∧ Chg (only b) w w' := by
  refine (u8_any h).mono ?_
  rintro e w' ⟨rfl, hr, hc⟩
  rcases he with ⟨rfl, rfl⟩ | rfl
  · exact ⟨by rw [show tkV 1 [] 0 = [] by simp [tkV]]; rfl, ⟨_, by rw [show tkE 1 [] 0 = 3 by simp [tkE]] at hr; exact hr⟩, hc⟩
  · exact ⟨by rw [show tkV 1 l 3 = [] by simp [tkV]]; rfl, ⟨_, by rw [show tkE 1 l 3 = 3 by simp [tkE]] at hr; exact hr⟩, hc⟩
end Go.Proofs.Ytkmdgpfaaniibaa


/- Layer 12: messages, as lists: a message's bytes, what is wrong with it, what bytes are a message of. -/
namespace Go.Proofs.Ytkmdgpfaaniibaa
open Go.RowKit
set_option linter.unusedVariables false
set_option linter.unusedSimpArgs false
set_option maxRecDepth 100000

/-- a message -/
structure Pd where
  l : UInt8
  o : UInt8
  g : UInt8
  x : List UInt8
  t : List Tl
  deriving Inhabited
/-- what is wrong with a message that is put; its head; its bytes, or none -/
def pdE (p : Pd) : Nat := if 7 < p.l.toNat then 2 else if 255 < p.x.length then 5 else tlE p.t
def pdH (p : Pd) : List UInt8 := [p.l * 32, p.o, p.g, UInt8.ofNat p.x.length]
def pdP (p : Pd) : List UInt8 := if pdE p = 0 then pdH p ++ p.x ++ tlP p.t else []
def pd0 : Pd := ⟨0, 0, 0, [], []⟩
/-- what is wrong with bytes; the message that they begin with -/
def cfE : List UInt8 → Nat
  | a :: _ :: _ :: d :: r => if a.toNat % 32 = 0 then (if r.length < d.toNat then 3 else tkErr (r.drop d.toNat)) else 4
  | _ => 3
def cfQ : List UInt8 → Pd
  | a :: b :: c :: d :: r => ⟨a / 32, b, c, r.take d.toNat, tkX (r.drop d.toNat)⟩
  | _ => pd0
theorem cfE_four (a b c d : UInt8) (r : List UInt8) : cfE (a :: b :: c :: d :: r) = if a.toNat % 32 = 0 then (if r.length < d.toNat then 3 else tkErr (r.drop d.toNat)) else 4 := rfl
def cfX (s : List UInt8) : Pd := if cfE s = 0 then cfQ s else pd0
/-- the head of bytes -/
def hdL (s : List UInt8) : UInt8 := if s.length < 4 then 0 else s.getD 0 0 / 32
def hdO (s : List UInt8) : UInt8 := if s.length < 4 then 0 else s.getD 1 0
def hdB (s : List UInt8) : Bool := decide (4 ≤ s.length)
theorem four (s : List UInt8) (h : 4 ≤ s.length) : ∃ a b c d r, s = a :: b :: c :: d :: r := by
  match s, h with
  | a :: b :: c :: d :: r, _ => exact ⟨a, b, c, d, r, rfl⟩
theorem cf_few {s : List UInt8} (h : s.length < 4) : cfE s = 3 ∧ cfX s = pd0 := by
  have e : cfE s = 3 := by
    match s, h with
    | [], _ => rfl
    | [_], _ => rfl
    | [_, _], _ => rfl
    | [_, _, _], _ => rfl
    | _ :: _ :: _ :: _ :: r, h => simp only [List.length_cons] at h; omega
  exact ⟨e, by unfold cfX; rw [if_neg (by omega)]⟩
theorem tks_app : ∀ (n : Nat) (s : List UInt8), s.length ≤ n → ∀ l q t, tks s = some (l, q) → tks (s ++ t) = some (l, q ++ t) := by
  intro n
  induction n with
  | zero =>
    intro s hs l q t h
    have : s = [] := List.eq_nil_of_length_eq_zero (by omega)
    subst this
    rw [tks_nil] at h
    cases h
  | succ n ih =>
    intro s hs l q t h
    cases s with
    | nil => rw [tks_nil] at h; cases h
    | cons k r =>
      by_cases hk : k = 0
      · subst hk
        rw [tks_zero] at h
        simp only [Option.some.injEq, Prod.mk.injEq] at h
        obtain ⟨rfl, rfl⟩ := h
        rw [List.cons_append, tks_zero]
      · rw [tks_cons k r hk] at h
        split at h
        · cases h
        · rename_i h2
          split at h
          · cases h
          · rename_i h3
            simp only [List.length_cons] at hs
            have t2 : (r ++ t).take 2 = r.take 2 := List.take_append_of_le_length (by omega)
            have d2 : (r ++ t).drop 2 = r.drop 2 ++ t := List.drop_append_of_le_length (by omega)
            have t3 : (r.drop 2 ++ t).take (num (r.take 2)) = (r.drop 2).take (num (r.take 2)) := List.take_append_of_le_length (by omega)
            have d3 : (r.drop 2 ++ t).drop (num (r.take 2)) = (r.drop 2).drop (num (r.take 2)) ++ t := List.drop_append_of_le_length (by omega)
            rw [List.cons_append, tks_cons k (r ++ t) hk, if_neg (by simp; omega), t2, d2, if_neg (by simp at h3 ⊢; omega), t3, d3]
            cases hr : tks ((r.drop 2).drop (num (r.take 2))) with
            | none => rw [hr] at h; cases h
            | some p =>
              obtain ⟨l', q'⟩ := p
              rw [hr] at h
              simp only [Option.map_some, Option.some.injEq, Prod.mk.injEq] at h
              obtain ⟨rfl, rfl⟩ := h
              rw [ih _ (by simp; omega) l' q' t hr]
              rfl
/-- a row that is cut is none -/
theorem tks_cut {l : List Tl} (h : tlE l = 0) {m : Nat} (hm : m < (tlP l).length) : tks ((tlP l).take m) = none := by
  cases hc : tks ((tlP l).take m) with
  | none => rfl
  | some p =>
    obtain ⟨l', q⟩ := p
    have h1 := tks_app _ _ (Nat.le_refl _) l' q ((tlP l).drop m) hc
    rw [List.take_append_drop] at h1
    have hp : tlP l = tlsB l ++ 0 :: [] := by unfold tlP; rw [if_pos h]
    rw [hp, tks_put l h []] at h1
    simp only [Option.some.injEq, Prod.mk.injEq] at h1
    have h2 := congrArg List.length h1.2
    rw [List.length_append, List.length_drop] at h2
    rw [← hp] at h2
    simp at h2
    omega
theorem pdE_ok {p : Pd} (h : pdE p = 0) : p.l.toNat ≤ 7 ∧ p.x.length ≤ 255 ∧ tlE p.t = 0 := by
  unfold pdE at h
  split at h
  · cases h
  · split at h
    · cases h
    · exact ⟨by omega, by omega, h⟩
theorem tlP_len (l : List Tl) : (tlP l).length ≤ 1483 * l.length + 1 := by
  unfold tlP
  split
  · rename_i h
    have := tlsB_take_len (l := l) l.length (by rw [List.take_length]; exact h)
    rw [List.take_length] at this
    simp
    omega
  · simp
theorem pdP_ok {p : Pd} (h : pdE p = 0) : pdP p = (p.l * 32) :: p.o :: p.g :: UInt8.ofNat p.x.length :: (p.x ++ tlP p.t) := by
  unfold pdP
  rw [if_pos h]
  simp [pdH]
theorem pdP_len (p : Pd) : (pdP p).length ≤ 1483 * p.t.length + 260 := by
  by_cases h : pdE p = 0
  · have := tlP_len p.t
    have := (pdE_ok h).2.1
    rw [pdP_ok h]
    simp
    omega
  · unfold pdP
    rw [if_neg h]
    simp
theorem pd_no {p : Pd} (h : pdE p ≠ 0) : pdP p = [] := by
  unfold pdP
  rw [if_neg h]
theorem pd_head {p : Pd} (h : pdE p = 0) : (p.l * 32).toNat = p.l.toNat * 32 ∧ (UInt8.ofNat p.x.length).toNat = p.x.length := by
  have := pdE_ok h
  constructor
  · rw [UInt8.toNat_mul]
    have : (32 : UInt8).toNat = 32 := rfl
    rw [this]
    omega
  · simp
    omega
theorem u8_div32 (a : UInt8) : (a / 32).toNat = a.toNat / 32 := by
  rw [UInt8.toNat_div]; rfl
/-- what is put is taken, whatever is behind it -/
theorem cf_back {p : Pd} (h : pdE p = 0) (t : List UInt8) : cfE (pdP p ++ t) = 0 ∧ cfX (pdP p ++ t) = p := by
  obtain ⟨h1, h2, h3⟩ := pdE_ok h
  obtain ⟨e1, e2⟩ := pd_head h
  have hp : tlP p.t = tlsB p.t ++ [0] := by unfold tlP; rw [if_pos h3]
  have hk : tks (tlP p.t ++ t) = some (p.t, t) := by
    rw [hp]
    have := tks_put p.t h3 t
    simpa using this
  obtain ⟨k1, k2, k3⟩ := tk_some3 hk
  have hs : pdP p ++ t = (p.l * 32) :: p.o :: p.g :: UInt8.ofNat p.x.length :: (p.x ++ (tlP p.t ++ t)) := by rw [pdP_ok h]; simp
  have hE : cfE (pdP p ++ t) = 0 := by
    rw [hs]
    rw [cfE_four, e1, if_pos (by omega), e2, if_neg (by simp), List.drop_left, k3]
  refine ⟨hE, ?_⟩
  unfold cfX
  rw [if_pos hE, hs]
  unfold cfQ
  simp only
  rw [e2, List.drop_left, List.take_left, k1]
  have e3 : p.l * 32 / 32 = p.l := by
    apply UInt8.toNat_inj.1
    rw [u8_div32, e1]
    omega
  rw [e3]
/-- what is cut is short; its head is told -/
theorem cf_cut {p : Pd} (h : pdE p = 0) {n : Nat} (hn : n < (pdP p).length) : cfE ((pdP p).take n) = 3 ∧ cfX ((pdP p).take n) = pd0 := by
  have key : cfE ((pdP p).take n) = 3 := by
    by_cases h4 : n < 4
    · exact (cf_few (by simp; omega)).1
    · obtain ⟨h1, h2, h3⟩ := pdE_ok h
      obtain ⟨e1, e2⟩ := pd_head h
      obtain ⟨m, rfl⟩ : ∃ m, n = m + 4 := ⟨n - 4, by omega⟩
      rw [pdP_ok h] at hn ⊢
      simp only [List.length_cons] at hn
      simp only [List.take_succ_cons]
      rw [cfE_four, e1, if_pos (by omega), e2]
      by_cases hm : m < p.x.length
      · rw [if_pos (by simp; omega)]
      · rw [List.length_append] at hn
        rw [if_neg (by simp; omega)]
        have : ((p.x ++ tlP p.t).take m).drop p.x.length = (tlP p.t).take (m - p.x.length) := by
          rw [List.drop_take, List.drop_left]
        rw [this]
        exact (tk_none3 (tks_cut h3 (by omega))).2.2
  exact ⟨key, by unfold cfX; rw [if_neg (by omega)]⟩
theorem hd_cut {p : Pd} (h : pdE p = 0) (n : Nat) : hdL ((pdP p).take n) = (if 4 ≤ n then p.l else 0) ∧ hdO ((pdP p).take n) = (if 4 ≤ n then p.o else 0) ∧ hdB ((pdP p).take n) = decide (4 ≤ n) := by
  obtain ⟨h1, h2, h3⟩ := pdE_ok h
  obtain ⟨e1, e2⟩ := pd_head h
  have e3 : p.l * 32 / 32 = p.l := by
    apply UInt8.toNat_inj.1
    rw [u8_div32, e1]
    omega
  have hl : 5 ≤ (pdP p).length := by
    rw [pdP_ok h]
    have : 0 < (tlP p.t).length := by unfold tlP; rw [if_pos h3]; simp
    simp
    omega
  by_cases h4 : 4 ≤ n
  · have hlen : ¬ ((pdP p).take n).length < 4 := by rw [List.length_take]; omega
    unfold hdL hdO hdB
    rw [if_neg hlen, if_neg hlen, if_pos h4, if_pos h4]
    obtain ⟨m, rfl⟩ : ∃ m, n = m + 4 := ⟨n - 4, by omega⟩
    refine ⟨?_, ?_, ?_⟩
    · rw [pdP_ok h]; simp [e3]
    · rw [pdP_ok h]; simp
    · rw [Bool.eq_iff_iff]; simp; omega
  · have hlen : ((pdP p).take n).length < 4 := by rw [List.length_take]; omega
    unfold hdL hdO hdB
    rw [if_pos hlen, if_pos hlen, if_neg h4, if_neg h4]
    refine ⟨rfl, rfl, ?_⟩
    rw [Bool.eq_iff_iff]; simp; omega
theorem cfX_len (s : List UInt8) : (cfX s).t.length ≤ s.length ∧ (cfX s).x.length ≤ s.length := by
  have tl : ∀ s : List UInt8, (tkX s).length ≤ s.length := by
    intro s
    unfold tkX
    split
    · rename_i p hp
      exact (tks_back _ s (Nat.le_refl _) p.1 p.2 hp).2.2
    · simp
  unfold cfX
  split
  · match s with
    | a :: b :: c :: d :: r =>
      have := tl (r.drop d.toNat)
      simp only [cfQ, List.length_drop, List.length_take, List.length_cons] at *
      omega
    | [] => simp [cfQ, pd0]
    | [_] => simp [cfQ, pd0]
    | [_, _] => simp [cfQ, pd0]
    | [_, _, _] => simp [cfQ, pd0]
  · simp [pd0]
/-- what the program's Take comes to: the bytes read one by one -/
theorem cf_read (s : List UInt8) {v1 v2 v3 v4 : List UInt8} {l1 l2 l3 l4 l5 x5 x6 : List UInt8} {e1 e2 e3 e4 e5 e6 : Int}
    (V1 : tkV 1 s 0 = v1) (L1 : tkL 1 s 0 = l1) (E1 : tkE 1 s 0 = e1) (V2 : tkV 1 l1 e1 = v2) (L2 : tkL 1 l1 e1 = l2) (E2 : tkE 1 l1 e1 = e2)
    (V3 : tkV 1 l2 e2 = v3) (L3 : tkL 1 l2 e2 = l3) (E3 : tkE 1 l2 e2 = e3) (V4 : tkV 1 l3 e3 = v4) (L4 : tkL 1 l3 e3 = l4) (E4 : tkE 1 l3 e3 = e4)
    (E5 : (if num v1 % 32 = 0 then e4 else bdE e4) = e5) (X5 : tkV (num v4) l4 e5 = x5) (L5 : tkL (num v4) l4 e5 = l5) (E6 : tkE (num v4) l4 e5 = e6) (X6 : tkV l5.length l5 e6 = x6) :
    ∃ a b c : UInt8, num v1 = a.toNat ∧ num v2 = b.toNat ∧ num v3 = c.toNat ∧ (if e6 = 0 then ((tkErr x6 : Nat) : Int) else e6) = ((cfE s : Nat) : Int) ∧ (cfE s = 0 → cfX s = ⟨a / 32, b, c, x5, tkX x6⟩) := by
  have t0 : tkErr [] = 3 := rfl
  match s, V1, L1, E1 with
  | [], V1, L1, E1 =>
    simp only [tkV, tkL, tkE] at V1 L1 E1
    simp at V1 L1 E1
    subst V1 L1 E1
    simp [tkV, tkL, tkE] at V2 L2 E2
    subst V2 L2 E2
    simp [tkV, tkL, tkE] at V3 L3 E3
    subst V3 L3 E3
    simp [tkV, tkL, tkE] at V4 L4 E4
    subst V4 L4 E4
    simp [num, bdE] at E5
    subst E5
    simp [tkV, tkL, tkE, num] at X5 L5 E6
    subst X5 L5 E6
    simp [tkV] at X6
    subst X6
    exact ⟨0, 0, 0, rfl, rfl, rfl, rfl, fun h => by cases h⟩
  | [a], V1, L1, E1 =>
    simp [tkV, tkL, tkE] at V1 L1 E1
    subst V1 L1 E1
    simp [tkV, tkL, tkE] at V2 L2 E2
    subst V2 L2 E2
    simp [tkV, tkL, tkE] at V3 L3 E3
    subst V3 L3 E3
    simp [tkV, tkL, tkE] at V4 L4 E4
    subst V4 L4 E4
    simp [bdE] at E5
    subst E5
    simp [tkV, tkL, tkE, num] at X5 L5 E6
    subst X5 L5 E6
    simp [tkV] at X6
    subst X6
    exact ⟨a, 0, 0, by simp [num], rfl, rfl, rfl, fun h => by cases h⟩
  | [a, b], V1, L1, E1 =>
    simp [tkV, tkL, tkE] at V1 L1 E1
    subst V1 L1 E1
    simp [tkV, tkL, tkE] at V2 L2 E2
    subst V2 L2 E2
    simp [tkV, tkL, tkE] at V3 L3 E3
    subst V3 L3 E3
    simp [tkV, tkL, tkE] at V4 L4 E4
    subst V4 L4 E4
    simp [bdE] at E5
    subst E5
    simp [tkV, tkL, tkE, num] at X5 L5 E6
    subst X5 L5 E6
    simp [tkV] at X6
    subst X6
    exact ⟨a, b, 0, by simp [num], by simp [num], rfl, rfl, fun h => by cases h⟩
  | [a, b, c], V1, L1, E1 =>
    simp [tkV, tkL, tkE] at V1 L1 E1
    subst V1 L1 E1
    simp [tkV, tkL, tkE] at V2 L2 E2
    subst V2 L2 E2
    simp [tkV, tkL, tkE] at V3 L3 E3
    subst V3 L3 E3
    simp [tkV, tkL, tkE] at V4 L4 E4
    subst V4 L4 E4
    simp [bdE] at E5
    subst E5
    simp [tkV, tkL, tkE, num] at X5 L5 E6
    subst X5 L5 E6
    simp [tkV] at X6
    subst X6
    exact ⟨a, b, c, by simp [num], by simp [num], by simp [num], rfl, fun h => by cases h⟩
  | a :: b :: c :: d :: r, V1, L1, E1 =>
    simp [tkV, tkL, tkE] at V1 L1 E1
    subst V1 L1 E1
    simp [tkV, tkL, tkE] at V2 L2 E2
    subst V2 L2 E2
    simp [tkV, tkL, tkE] at V3 L3 E3
    subst V3 L3 E3
    simp [tkV, tkL, tkE] at V4 L4 E4
    subst V4 L4 E4
    have na : num [a] = a.toNat := by simp [num]
    have nd : num [d] = d.toNat := by simp [num]
    rw [na] at E5
    rw [nd] at X5 L5 E6
    refine ⟨a, b, c, na, by simp [num], by simp [num], ?_⟩
    have hC : cfE (a :: b :: c :: d :: r) = if a.toNat % 32 = 0 then (if r.length < d.toNat then 3 else tkErr (r.drop d.toNat)) else 4 := rfl
    by_cases h1 : a.toNat % 32 = 0
    · rw [if_pos h1] at E5
      subst E5
      rw [if_pos h1] at hC
      by_cases h2 : r.length < d.toNat
      · rw [if_pos h2] at hC
        have : e6 = 3 := by rw [← E6]; simp [tkE, h2]
        subst this
        rw [hC]
        exact ⟨rfl, fun h => by cases h⟩
      · rw [if_neg h2] at hC
        have h6 : e6 = 0 := by rw [← E6]; simp [tkE, h2]
        have h5 : x5 = r.take d.toNat := by rw [← X5]; simp [tkV]; omega
        have hl5 : l5 = r.drop d.toNat := by rw [← L5]; simp [tkL]; omega
        subst h6 hl5
        have h66 : x6 = r.drop d.toNat := by rw [← X6]; unfold tkV; rw [if_pos ⟨rfl, Nat.le_refl _⟩, List.take_length]
        rw [hC, h66, h5]
        refine ⟨by simp, fun h => ?_⟩
        unfold cfX
        rw [hC, if_pos h]
        rfl
    · rw [if_neg h1] at E5 hC
      have : e5 = 4 := by rw [← E5]; simp [bdE]
      subst this
      have : e6 = 4 := by rw [← E6]; simp [tkE]
      subst this
      rw [hC]
      exact ⟨rfl, fun h => by cases h⟩
end Go.Proofs.Ytkmdgpfaaniibaa


/- Layer 10: an association's names and their bytes, as lists. -/
namespace Go.Proofs.Ytkmdgpfaaniibaa
open Go.RowKit
set_option linter.unusedVariables false
set_option linter.unusedSimpArgs false
set_option maxRecDepth 100000

/-- a byte that a name may have; a name -/
def nmB (b : UInt8) : Bool := decide (32 ≤ b.toNat) && decide (b.toNat ≤ 126)
def isn (l : List UInt8) : Bool := l.all nmB && !l.isEmpty
/-- why there are no bytes -/
def mdE (a b : List UInt8) : Int := if (!a.isEmpty && !isn a) || !isn b then 2 else if 44 < a.length + b.length then 5 else 0
def mdH (a : List UInt8) : List UInt8 := if a = [] then [1] else 4 :: UInt8.ofNat a.length :: a
def mdB (a b : List UInt8) : List UInt8 := mdH a ++ 2 :: UInt8.ofNat b.length :: b
def mdW (a b : List UInt8) : List UInt8 := mdB a b ++ List.replicate (48 - (mdB a b).length) 0
/-- the bytes; or none -/
def mdV (a b : List UInt8) : List UInt8 := if mdE a b = 0 then mdW a b else []

theorem isn_ne {l : List UInt8} (h : isn l = true) : l ≠ [] := by
  intro e; subst e; simp [isn] at h
theorem mdE0 {a b : List UInt8} (h : mdE a b = 0) : (a = [] ∨ isn a = true) ∧ isn b = true ∧ a.length + b.length ≤ 44 := by
  unfold mdE at h
  split at h
  · cases h
  · rename_i h1
    split at h
    · cases h
    · rename_i h2
      simp only [Bool.or_eq_true, Bool.and_eq_true, Bool.not_eq_true', not_or, not_and, Bool.not_eq_false] at h1
      refine ⟨?_, h1.2, by omega⟩
      cases a with
      | nil => exact .inl rfl
      | cons x a => exact .inr (h1.1 rfl)
theorem mdE_of {a b : List UInt8} (h1 : a = [] ∨ isn a = true) (h2 : isn b = true) (h3 : a.length + b.length ≤ 44) : mdE a b = 0 := by
  unfold mdE
  rw [if_neg, if_neg (by omega)]
  rcases h1 with rfl | h1
  · simp [h2]
  · simp [h1, h2]
theorem mdE_cases (a b : List UInt8) : mdE a b = 0 ∨ mdE a b = 2 ∨ mdE a b = 5 := by
  unfold mdE
  split
  · exact .inr (.inl rfl)
  · split
    · exact .inr (.inr rfl)
    · exact .inl rfl
theorem mdH_len (a : List UInt8) : (mdH a).length = if a = [] then 1 else a.length + 2 := by
  unfold mdH
  split <;> simp
theorem mdB_len (a b : List UInt8) : (mdB a b).length = (if a = [] then 1 else a.length + 2) + b.length + 2 := by
  unfold mdB
  rw [List.length_append, mdH_len]
  simp
  omega
theorem mdB_le {a b : List UInt8} (h : mdE a b = 0) : (mdB a b).length ≤ 48 := by
  have h3 := (mdE0 h).2.2
  rw [mdB_len]
  split <;> omega
theorem mdV_len {a b : List UInt8} (h : mdE a b = 0) : (mdV a b).length = 48 := by
  have := mdB_le h
  unfold mdV mdW
  rw [if_pos h, List.length_append, List.length_replicate]
  omega
theorem mdV_ne {a b : List UInt8} (h : mdE a b ≠ 0) : mdV a b = [] := by
  unfold mdV
  rw [if_neg h]
/-- a number that is a byte's -/
theorem ofNat_toNat_small (n : Nat) (h : n < 256) : (UInt8.ofNat n).toNat = n := by
  rw [UInt8.toNat_ofNat']
  omega

/-- taking them apart: behind a mark and a number, so many bytes -/
def cutN : List UInt8 → List UInt8 × List UInt8
  | [] => ([], [])
  | n :: r => (r.take n.toNat, r.drop n.toNat)
theorem cutN_put (b r : List UInt8) (h : b.length < 256) : cutN (UInt8.ofNat b.length :: b ++ r) = (b, r) := by
  unfold cutN
  simp only [List.cons_append]
  rw [ofNat_toNat_small _ h]
  simp
/-- the names in bytes, if they are names' bytes -/
def mdR : List UInt8 → List UInt8 × List UInt8
  | [] => ([], [])
  | x :: r => if x = 4 then ((cutN r).1, (cutN ((cutN r).2.drop 1)).1) else ([], (cutN (r.drop 1)).1)
theorem mdR_put {a b : List UInt8} (h : mdE a b = 0) : mdR (mdV a b) = (a, b) := by
  obtain ⟨h1, h2, h3⟩ := mdE0 h
  unfold mdV mdW
  rw [if_pos h]
  generalize 48 - (mdB a b).length = k
  unfold mdB mdH
  by_cases ha : a = []
  · subst ha
    simp only [if_true, List.cons_append, List.nil_append, mdR]
    rw [if_neg (by decide)]
    simp only [List.drop_succ_cons, List.drop_zero]
    have := cutN_put b (List.replicate k 0) (by simp at h3; omega)
    simp only [List.cons_append] at this
    rw [this]
  · rw [if_neg ha]
    simp only [List.cons_append, mdR]
    rw [if_pos trivial]
    have e1 := cutN_put a ((2 :: UInt8.ofNat b.length :: b) ++ List.replicate k 0) (by omega)
    simp only [List.cons_append, List.append_assoc] at e1 ⊢
    rw [e1]
    simp only [List.drop_succ_cons, List.drop_zero]
    have e2 := cutN_put b (List.replicate k 0) (by omega)
    simp only [List.cons_append] at e2
    rw [e2]
theorem mdV_inj {a b c d : List UInt8} (h : mdE a b = 0) (h' : mdE c d = 0) (e : mdV a b = mdV c d) : a = c ∧ b = d := by
  have e1 := mdR_put h
  rw [e, mdR_put h'] at e1
  simpa [eq_comm] using e1
/-- these are the names of the bytes s, or there are none -/
def Tk (s a b : List UInt8) (e : Int) : Prop := (e = 0 ∧ mdE a b = 0 ∧ mdV a b = s) ∨ (e = 4 ∧ a = [] ∧ b = [] ∧ ∀ c d, mdE c d = 0 → mdV c d ≠ s)
theorem Tk.uniq {s a b c d : List UInt8} {e f : Int} (h : Tk s a b e) (h' : Tk s c d f) : a = c ∧ b = d ∧ e = f := by
  rcases h with ⟨h1, h2, h3⟩ | ⟨h1, h2, h3, h4⟩ <;> rcases h' with ⟨k1, k2, k3⟩ | ⟨k1, k2, k3, k4⟩
  · obtain ⟨e1, e2⟩ := mdV_inj h2 k2 (by rw [h3, k3])
    exact ⟨e1, e2, by rw [h1, k1]⟩
  · exact absurd h3 (k4 a b h2)
  · exact absurd k3 (h4 c d k2)
  · exact ⟨by rw [h2, k2], by rw [h3, k3], by rw [h1, k1]⟩
/-- the bytes' names as a function -/
def tkA (s : List UInt8) : List UInt8 := if mdE (mdR s).1 (mdR s).2 = 0 ∧ mdV (mdR s).1 (mdR s).2 = s then (mdR s).1 else []
def tkB (s : List UInt8) : List UInt8 := if mdE (mdR s).1 (mdR s).2 = 0 ∧ mdV (mdR s).1 (mdR s).2 = s then (mdR s).2 else []
def tkEr (s : List UInt8) : Int := if mdE (mdR s).1 (mdR s).2 = 0 ∧ mdV (mdR s).1 (mdR s).2 = s then 0 else 4
theorem tk_is (s : List UInt8) : Tk s (tkA s) (tkB s) (tkEr s) := by
  unfold tkA tkB tkEr
  by_cases h : mdE (mdR s).1 (mdR s).2 = 0 ∧ mdV (mdR s).1 (mdR s).2 = s
  · simp only [h, and_self, if_true]
    exact .inl ⟨rfl, h.1, h.2⟩
  · rw [if_neg h, if_neg h, if_neg h]
    refine .inr ⟨rfl, rfl, rfl, fun c d hc e => h ?_⟩
    have := mdR_put hc
    rw [e] at this
    rw [this]
    exact ⟨hc, e⟩
end Go.Proofs.Ytkmdgpfaaniibaa


/- package maid's read: its closure, and what it reads of names' bytes. -/
namespace Go.Proofs.Ytkmdgpfaaniibaa
open Go.RowKit
set_option linter.unusedVariables false
set_option linter.unusedSimpArgs false
set_option maxRecDepth 100000

/-- a number, and what is left; a text behind its length -/
def rdU (s : List UInt8 × Int) : Nat × (List UInt8 × Int) := (num (tkV 1 s.1 s.2), (tkL 1 s.1 s.2, tkE 1 s.1 s.2))
def rdT (n : Nat) (s : List UInt8 × Int) : List UInt8 × (List UInt8 × Int) := (tkV n s.1 s.2, (tkL n s.1 s.2, tkE n s.1 s.2))
def rdN (s : List UInt8 × Int) : List UInt8 × (List UInt8 × Int) := rdT (rdU s).1 (rdU s).2
def rdA (l : List UInt8) : List UInt8 := if (rdU (l, 0)).1 = 4 then (rdN (rdU (l, 0)).2).1 else []
def rdB (l : List UInt8) : List UInt8 := if (rdU (l, 0)).1 = 4 then (rdN (rdU (rdN (rdU (l, 0)).2).2).2).1 else (rdN (rdU (rdU (l, 0)).2).2).1

theorem rdU_cons (x : UInt8) (r : List UInt8) : rdU (x :: r, 0) = (x.toNat, (r, 0)) := by
  simp [rdU, tkV, tkL, tkE, num]
theorem rdT_cut (n : Nat) (l : List UInt8) (h : n ≤ l.length) : rdT n (l, 0) = (l.take n, (l.drop n, 0)) := by
  simp [rdT, tkV, tkL, tkE, h]
theorem rdN_put (b r : List UInt8) (h : b.length < 256) : rdN (UInt8.ofNat b.length :: b ++ r, 0) = (b, (r, 0)) := by
  unfold rdN
  rw [List.cons_append, rdU_cons]
  simp only []
  rw [ofNat_toNat_small _ h, rdT_cut _ _ (by simp)]
  simp
theorem rdU_le (s : List UInt8 × Int) : (rdU s).1 ≤ 255 := by
  unfold rdU
  have h := num_lt (tkV 1 s.1 s.2)
  have h1 := tkV_len 1 s.1 s.2
  have h2 : 256 ^ (tkV 1 s.1 s.2).length ≤ 256 ^ 1 := Nat.pow_le_pow_right (by omega) h1
  simp only [Nat.pow_one] at h2
  simp only []
  omega
theorem rdT_len (n : Nat) (s : List UInt8 × Int) : (rdT n s).1.length ≤ n := tkV_len _ _ _
theorem rdN_len (s : List UInt8 × Int) : (rdN s).1.length ≤ 255 := Nat.le_trans (rdT_len _ _) (rdU_le _)
theorem rdA_len (l : List UInt8) : (rdA l).length ≤ 255 := by
  unfold rdA
  split
  · exact rdN_len _
  · simp
theorem rdB_len (l : List UInt8) : (rdB l).length ≤ 255 := by
  unfold rdB
  split <;> exact rdN_len _
theorem rd_put {a b : List UInt8} (h : mdE a b = 0) : rdA (mdV a b) = a ∧ rdB (mdV a b) = b := by
  obtain ⟨h1, h2, h3⟩ := mdE0 h
  unfold mdV mdW
  rw [if_pos h]
  generalize 48 - (mdB a b).length = k
  unfold mdB mdH
  by_cases ha : a = []
  · subst ha
    simp only [if_true, List.cons_append, List.nil_append]
    unfold rdA rdB
    rw [rdU_cons]
    simp only []
    rw [if_neg (by decide), if_neg (by decide)]
    rw [rdU_cons]
    simp only []
    have := rdN_put b (List.replicate k 0) (by simp at h3; omega)
    simp only [List.cons_append] at this
    rw [this]
    exact ⟨trivial, rfl⟩
  · rw [if_neg ha]
    simp only [List.cons_append]
    unfold rdA rdB
    rw [rdU_cons]
    simp only []
    rw [if_pos (by decide), if_pos (by decide)]
    have e1 := rdN_put a ((2 :: UInt8.ofNat b.length :: b) ++ List.replicate k 0) (by omega)
    simp only [List.cons_append, List.append_assoc] at e1 ⊢
    rw [e1]
    simp only []
    rw [rdU_cons]
    simp only []
    have e2 := rdN_put b (List.replicate k 0) (by omega)
    simp only [List.cons_append] at e2
    rw [e2]
    exact ⟨trivial, rfl⟩
/-- the names of bytes, or none, by what read answers -/
def ptA (s : List UInt8) : List UInt8 := if mdE (rdA s) (rdB s) = 0 ∧ mdV (rdA s) (rdB s) = s then rdA s else []
def ptB (s : List UInt8) : List UInt8 := if mdE (rdA s) (rdB s) = 0 ∧ mdV (rdA s) (rdB s) = s then rdB s else []
def ptE (s : List UInt8) : Int := if mdE (rdA s) (rdB s) = 0 ∧ mdV (rdA s) (rdB s) = s then 0 else 4
theorem pt_is (s : List UInt8) : Tk s (ptA s) (ptB s) (ptE s) := by
  unfold ptA ptB ptE
  by_cases h : mdE (rdA s) (rdB s) = 0 ∧ mdV (rdA s) (rdB s) = s
  · simp only [h, and_self, if_true]
    exact .inl ⟨rfl, h.1, h.2⟩
  · rw [if_neg h, if_neg h, if_neg h]
    refine .inr ⟨rfl, rfl, rfl, fun c d hc e => h ?_⟩
    obtain ⟨e1, e2⟩ := rd_put hc
    rw [e] at e1 e2
    rw [e1, e2]
    exact ⟨hc, e⟩

theorem u8m_any {w : World} {b : Nat} {s : List UInt8 × Int} (h : Rdr w b s.1 s.2) :
    Calls Try.prog 80 #[.pointer (some ⟨b, 0, none⟩)] w fun e w' => e = .returned (.int .u8 ((rdU s).1 : Nat)) ∧ Rdr w' b (rdU s).2.1 (rdU s).2.2 ∧ Chg (only b) w w' := u8_any h
theorem textm_any {w : World} {b : Nat} {s : List UInt8 × Int} (n : Nat) (h : Rdr w b s.1 s.2) :
    Calls Try.prog 79 #[.pointer (some ⟨b, 0, none⟩), .int .i64 (n : Int)] w fun e w' => e = .returned (.string ⟨(rdT n s).1.toArray⟩) ∧ Rdr w' b (rdT n s).2.1 (rdT n s).2.2 ∧ Chg (only b) w w' := by
  have := text_any (n : Int) h
  rw [show ((n : Int)).toNat = n by omega] at this
  exact this
set_option maxHeartbeats 1000000 in
theorem name_any {w : World} {q b : Nat} {s : List UInt8 × Int} (hq : q ≠ b) (hp : w.cell? ⟨q, 0, none⟩ = some (.pointer (some ⟨b, 0, none⟩))) (h : Rdr w b s.1 s.2) :
    Calls Try.prog 78 #[.pointer (some ⟨q, 0, none⟩)] w fun e w' => e = .returned (.string ⟨(rdN s).1.toArray⟩) ∧ Rdr w' b (rdN s).2.1 (rdN s).2.2 ∧ Chg (only b) w w' := by
  have hql := World.block_lt_of_cell? w _ hp
  obtain ⟨n, hn⟩ : ∃ n, (rdU s).1 = n := ⟨_, rfl⟩
  have hn255 : n ≤ 255 := by rw [← hn]; exact rdU_le s
  have KU := Lib.hid (fun w => @u8m_any w b s)
  obtain ⟨s1, hs1⟩ : ∃ s1, (rdU s).2 = s1 := ⟨_, rfl⟩
  have hN : rdN s = rdT n s1 := by unfold rdN; rw [hn, hs1]
  rw [hn, hs1] at KU
  have KT := Lib.hid (fun w => @textm_any w b s1 n)
  rw [hN]
  have hwr : IntKind.i64.wrap (n : Int) = (n : Int) := by simp [IntKind.wrap, IntKind.signed, IntKind.bits]; omega
  have hpd : w.drew.cell? ⟨q, 0, none⟩ = some (.pointer (some ⟨b, 0, none⟩)) := hp
  have HP := Lib.hid hpd
  have HR : Hid (Rdr w.drew b s.1 s.2) := Lib.hid h
  have HC : Hid (Chg (only b) w w.drew) := Lib.hid (Chg.refl _ _).drew
  have HQ := Lib.hid hq
  have HQL : Hid (q < w.drew.heap.size) := Lib.hid hql
  clear hn hs1 hN hp h hq hql
  go_enter Try.func78, Try.ntmps78
  go_wp2_with fail
  go_region_law (first
    | (go_simp; go_at_call 80; refine (KU.out _ HR.out).mono ?_; rintro r w1 ⟨rfl, hr1, hc1⟩; have hp1 := (Chg.cell hc1 (p := ⟨q, 0, none⟩) HQL.out HQ.out).trans HP.out; have HR1 := Lib.hid hr1; have HC1 := Lib.hid (HC.out.trans (hc1.mono (fun k _ hk => hk))); clear hr1 hc1)
    | (go_simp; go_at_call 79; refine (KT.out _ HR1.out).mono ?_; rintro r w2 ⟨rfl, hr2, hc2⟩; have HR2 := Lib.hid hr2; have HC2 := Lib.hid (HC1.out.trans (hc2.mono (fun k _ hk => hk))); clear hr2 hc2))
  all_goals (
    go_wp2
    go_ret
    exact ⟨rfl, HR2.out, HC2.out⟩)
end Go.Proofs.Ytkmdgpfaaniibaa


/- Layer 13: checks, as lists. -/
namespace Go.Proofs.Ytkmdgpfaaniibaa
open Go.RowKit
set_option linter.unusedVariables false
set_option linter.unusedSimpArgs false
set_option maxRecDepth 100000

/-- a check -/
structure Ck where
  l : UInt8
  r : Bool
  i : UInt8
  q : UInt32
  m : UInt16
  a : List UInt8
  deriving DecidableEq, Inhabited
def ck0 : Ck := ⟨0, false, 0, 0, 0, []⟩
/-- are there names of which these are the bytes; may a check be -/
def ckA (s : List UInt8) : Bool := ptE s == 0
def ckM (c : Ck) : Bool := ckA c.a && (decide (c.l.toNat < 8) && ((c.i == 4 || c.i == 5) && (decide (0 < c.m.toNat) && decide (c.m.toNat < 8192))))
def ckG (c : Ck) : UInt8 := if c.r then c.i + 128 else c.i
def ckS (c : Ck) : List UInt8 := dig 4 c.q.toNat ++ (dig 2 c.m.toNat ++ (c.a ++ dig 16 0))
/-- a check's message, or none; a message's check, or none -/
def ckP (c : Ck) : Pd := if ckM c then ⟨c.l, 1, ckG c, ckS c, []⟩ else pd0
def ckE (c : Ck) : Nat := if ckM c then 0 else 2
def ckQ (p : Pd) : Ck := ⟨p.l, decide (127 < p.g.toNat), p.g % 8, UInt32.ofNat (num (p.x.take 4)), UInt16.ofNat (num ((p.x.drop 4).take 2)), (p.x.drop 6).take 48⟩
def ckF (p : Pd) : Nat := if p.o = 1 ∧ p.x.length = 70 ∧ ckM (ckQ p) = true then 0 else 4
def ckX (p : Pd) : Ck := if ckF p = 0 then ckQ p else ck0
def ckN (i : UInt8) : Nat := if i = 4 then 1 else if i = 5 then 10 else 0
theorem ckA_len {s : List UInt8} (h : ckA s = true) : s.length = 48 := by
  unfold ckA at h
  have h0 : ptE s = 0 := by simpa using h
  rcases pt_is s with ⟨_, h2, h3⟩ | ⟨h1, _⟩
  · rw [← h3]; exact mdV_len h2
  · rw [h0] at h1; cases h1
theorem ckM_is {c : Ck} (h : ckM c = true) : c.a.length = 48 ∧ c.l.toNat < 8 ∧ (c.i = 4 ∨ c.i = 5) ∧ 0 < c.m.toNat ∧ c.m.toNat < 8192 := by
  unfold ckM at h
  simp only [Bool.and_eq_true, Bool.or_eq_true, beq_iff_eq, decide_eq_true_eq] at h
  exact ⟨ckA_len h.1, h.2.1, h.2.2.1, h.2.2.2.1, h.2.2.2.2⟩
theorem ckS_len {c : Ck} (h : ckM c = true) : (ckS c).length = 70 := by
  unfold ckS
  simp only [List.length_append, dig_len]
  have := (ckM_is h).1
  omega
theorem ckP_ok {c : Ck} (h : ckM c = true) : ckP c = ⟨c.l, 1, ckG c, ckS c, []⟩ := by
  unfold ckP
  rw [if_pos h]
theorem ckP_t (c : Ck) : (ckP c).t = [] := by
  unfold ckP
  split <;> rfl
theorem ckP_pd {c : Ck} (h : ckM c = true) : pdE (ckP c) = 0 := by
  rw [ckP_ok h]
  unfold pdE
  have h1 := (ckM_is h).2.1
  have h2 := ckS_len h
  simp only
  rw [if_neg (by omega), if_neg (by omega)]
  rfl
theorem ckE_zero {c : Ck} : ckE c = 0 ↔ ckM c = true := by
  unfold ckE
  split <;> simp_all
theorem u8_mod8 : ∀ i : UInt8, (i = 4 ∨ i = 5) → i % 8 = i ∧ (i + 128) % 8 = i ∧ i.toNat ≤ 127 ∧ 127 < (i + 128).toNat := by
  rintro i (rfl | rfl) <;> decide
theorem ckQ_P {c : Ck} (h : ckM c = true) : ckQ (ckP c) = c := by
  obtain ⟨h1, h2, h3, h4, h5⟩ := ckM_is h
  obtain ⟨m1, m2, m3, m4⟩ := u8_mod8 c.i h3
  rw [ckP_ok h]
  unfold ckQ
  simp only
  have e1 : (ckS c).take 4 = dig 4 c.q.toNat := by unfold ckS; exact List.take_left' (dig_len 4 _)
  have d1 : (ckS c).drop 4 = dig 2 c.m.toNat ++ (c.a ++ dig 16 0) := by unfold ckS; exact List.drop_left' (dig_len 4 _)
  have e2 : ((ckS c).drop 4).take 2 = dig 2 c.m.toNat := by rw [d1]; exact List.take_left' (dig_len 2 _)
  have d2 : (ckS c).drop 6 = c.a ++ dig 16 0 := by
    have : (ckS c).drop 6 = ((ckS c).drop 4).drop 2 := by rw [List.drop_drop]
    rw [this, d1]
    exact List.drop_left' (dig_len 2 _)
  have e3 : ((ckS c).drop 6).take 48 = c.a := by rw [d2]; exact List.take_left' h1
  rw [e1, e2, e3, num_dig, num_dig]
  have hq : UInt32.ofNat (c.q.toNat % 256 ^ 4) = c.q := by
    have := c.q.toNat_lt
    apply UInt32.toNat_inj.1
    rw [UInt32.toNat_ofNat']
    omega
  have hm : UInt16.ofNat (c.m.toNat % 256 ^ 2) = c.m := by
    have := c.m.toNat_lt
    apply UInt16.toNat_inj.1
    rw [UInt16.toNat_ofNat']
    omega
  rw [hq, hm]
  unfold ckG
  cases hr : c.r
  · simp only [Bool.false_eq_true, if_false]
    have : decide (127 < c.i.toNat) = false := by simpa using m3
    rw [m1, this, ← hr]
  · simp only [if_true]
    have : decide (127 < (c.i + 128).toNat) = true := by simpa using m4
    rw [m2, this, ← hr]
theorem ckF_P {c : Ck} (h : ckM c = true) : ckF (ckP c) = 0 ∧ ckX (ckP c) = c := by
  have e : ckF (ckP c) = 0 := by
    unfold ckF
    rw [ckQ_P h, if_pos]
    rw [ckP_ok h]
    exact ⟨rfl, ckS_len h, h⟩
  exact ⟨e, by unfold ckX; rw [if_pos e, ckQ_P h]⟩
theorem ckF_ok {p : Pd} (h : ckF p = 0) : p.o = 1 ∧ p.x.length = 70 ∧ ckM (ckQ p) = true ∧ ckX p = ckQ p := by
  have h' := h
  unfold ckF at h
  split at h
  · rename_i hh
    exact ⟨hh.1, hh.2.1, hh.2.2, by unfold ckX; rw [if_pos h']⟩
  · cases h
theorem ckF_no {p : Pd} (h : ckF p ≠ 0) : ckF p = 4 ∧ ckX p = ck0 := by
  have : ckF p = 4 := by
    unfold ckF at h ⊢
    split at h
    · exact absurd rfl h
    · rename_i hh; rw [if_neg hh]
  exact ⟨this, by unfold ckX; rw [if_neg h]⟩
/-- what is taken is put as the same first 54 bytes -/
theorem ckS_Q {p : Pd} (h : ckF p = 0) : (ckS (ckQ p)).take 54 = p.x.take 54 := by
  obtain ⟨h1, h2, h3, h4⟩ := ckF_ok h
  have e1 : dig 4 (ckQ p).q.toNat = p.x.take 4 := by
    have hl : (p.x.take 4).length = 4 := by rw [List.length_take]; omega
    have hn := num_lt (p.x.take 4)
    rw [hl] at hn
    have : (ckQ p).q.toNat = num (p.x.take 4) := by
      show (UInt32.ofNat (num (p.x.take 4))).toNat = _
      rw [UInt32.toNat_ofNat']
      omega
    rw [this]
    have := dig_num (p.x.take 4)
    rwa [hl] at this
  have e2 : dig 2 (ckQ p).m.toNat = (p.x.drop 4).take 2 := by
    have hl : ((p.x.drop 4).take 2).length = 2 := by rw [List.length_take, List.length_drop]; omega
    have hn := num_lt ((p.x.drop 4).take 2)
    rw [hl] at hn
    have : (ckQ p).m.toNat = num ((p.x.drop 4).take 2) := by
      show (UInt16.ofNat (num ((p.x.drop 4).take 2))).toNat = _
      rw [UInt16.toNat_ofNat']
      omega
    rw [this]
    have := dig_num ((p.x.drop 4).take 2)
    rwa [hl] at this
  have e3 : (ckQ p).a = (p.x.drop 6).take 48 := rfl
  unfold ckS
  rw [e1, e2, e3]
  have key : p.x.take 54 = p.x.take 4 ++ ((p.x.drop 4).take 2 ++ (p.x.drop 6).take 48) := by
    have a1 : p.x.take 54 = p.x.take 4 ++ (p.x.drop 4).take 50 := by
      rw [show (54 : Nat) = 4 + 50 from rfl, List.take_add]
    have a2 : (p.x.drop 4).take 50 = (p.x.drop 4).take 2 ++ ((p.x.drop 4).drop 2).take 48 := by
      rw [show (50 : Nat) = 2 + 48 from rfl, List.take_add]
    rw [a1, a2, List.drop_drop]
  have hl : (p.x.take 4 ++ ((p.x.drop 4).take 2 ++ (p.x.drop 6).take 48)).length = 54 := by
    simp only [List.length_append, List.length_take, List.length_drop]
    omega
  rw [key]
  have : p.x.take 4 ++ ((p.x.drop 4).take 2 ++ ((p.x.drop 6).take 48 ++ dig 16 0)) = (p.x.take 4 ++ ((p.x.drop 4).take 2 ++ (p.x.drop 6).take 48)) ++ dig 16 0 := by simp
  rw [this]
  exact List.take_left' hl
end Go.Proofs.Ytkmdgpfaaniibaa


/- Layer 18: what a point hears of others, as plain data: a machine, and all that was heard. -/
namespace Go.Proofs.Ytkmdgpfaaniibaa
open Go.RowKit
set_option linter.unusedVariables false
set_option linter.unusedSimpArgs false
set_option maxRecDepth 100000

/-- an own point -/
structure On where
  lv : UInt8
  me : UInt16
  iv : UInt8
  ma : List UInt8
  deriving DecidableEq, Inhabited
def onC (o : On) : Ck := ⟨o.lv, false, o.iv, 0, o.me, o.ma⟩
/-- how long a check lasts -/
def lsN (i : UInt8) : Nat := if i = 4 then 4 else if i = 5 then 35 else 0
/-- one number of others -/
def rmOne (o : On) (x : UInt16) : Bool := decide (1 ≤ x.toNat) && (decide (x.toNat ≤ 8191) && !(x == o.me))
def rmMay (o : On) (os : List UInt16) : Bool := decide (os.length ≤ 8) && (ckM (onC o) && (os.all (rmOne o) && decide os.Nodup))
/-- what a check is to a point: 0 nothing, 1 another one is there, 2 an error, 3 a cross connect -/
def rmKind (o : On) (os : List UInt16) (c : Ck) : Nat :=
  if !ckM c || decide (o.lv.toNat < c.l.toNat) then 0 else if decide (c.l.toNat < o.lv.toNat) || !(c.a == o.ma) then 3 else if os.any (fun x => x == c.m && c.i == o.iv) then 1 else 2
/-- numbers, each as often as it is there -/
def risen (os : List UInt16) : List UInt16 := (List.range 8192).flatMap (fun n => os.filter (fun x => x.toNat == n))
/-- a machine -/
structure Rm where
  o : On
  os : List UInt16
  la : UInt16 → Nat
  rd : UInt16 → Bool
  er : Nat
  cr : Nat
def rmNew (o : On) (os : List UInt16) : Rm := ⟨o, os, fun _ => lsN o.iv, fun _ => false, 0, 0⟩
def rmHear (m : Rm) (c : Ck) : Rm :=
  if rmKind m.o m.os c = 1 then { m with la := fun x => if x = c.m then lsN c.i else m.la x, rd := fun x => if x = c.m then c.r else m.rd x }
  else if rmKind m.o m.os c = 2 then { m with er := max m.er (lsN c.i) }
  else if rmKind m.o m.os c = 3 then { m with cr := max m.cr (lsN c.i) }
  else m
def rmTick (m : Rm) : Rm := { m with la := fun x => m.la x - 1, er := m.er - 1, cr := m.cr - 1 }
def rmLost (m : Rm) : List UInt16 := m.os.filter (fun x => m.la x == 0)
def rmRdis (m : Rm) : List UInt16 := m.os.filter (fun x => !(m.la x == 0) && m.rd x)
def rmDef (m : Rm) : Bool := decide (0 < (rmLost m).length) || (decide (0 < m.er) || decide (0 < m.cr))
def rmWorst (m : Rm) : Nat := if 0 < m.cr then 4 else if 0 < m.er then 3 else if 0 < (rmLost m).length then 2 else if 0 < (rmRdis m).length then 1 else 0

/-- of all that was heard: (behind how many ticks, the check) -/
abbrev Hd := Nat × Ck
def rmHit (o : On) (os : List UInt16) (kd : Nat) (x : UInt16) (e : Hd) : Bool := decide (rmKind o os e.2 = kd) && !(decide (kd = 1) && !(e.2.m == x))
def lfG (o : On) (os : List UInt16) (kd : Nat) (x : UInt16) (now : Nat) (mo : Nat) (e : Hd) : Nat := if rmHit o os kd x e then max mo (lsN e.2.i - (now - e.1)) else mo
def lfM (o : On) (os : List UInt16) (l : List Hd) (kd : Nat) (x : UInt16) (now : Nat) : Nat := l.foldl (lfG o os kd x now) 0
def lf (o : On) (os : List UInt16) (l : List Hd) (kd : Nat) (x : UInt16) (now : Nat) : Nat := if kd = 1 then max (lfM o os l kd x now) (lsN o.iv - now) else lfM o os l kd x now
def rdG (o : On) (os : List UInt16) (x : UInt16) (b : Bool) (e : Hd) : Bool := if rmHit o os 1 x e then e.2.r else b
def rdiL (o : On) (os : List UInt16) (l : List Hd) (x : UInt16) : Bool := l.foldl (rdG o os x) false

theorem lfM_snoc (o : On) (os : List UInt16) (l : List Hd) (e : Hd) (kd : Nat) (x : UInt16) (now : Nat) : lfM o os (l ++ [e]) kd x now = lfG o os kd x now (lfM o os l kd x now) e := by
  unfold lfM; rw [List.foldl_append]; rfl
theorem rdiL_snoc (o : On) (os : List UInt16) (l : List Hd) (e : Hd) (x : UInt16) : rdiL o os (l ++ [e]) x = rdG o os x (rdiL o os l x) e := by
  unfold rdiL; rw [List.foldl_append]; rfl
theorem lfM_tick (o : On) (os : List UInt16) (kd : Nat) (x : UInt16) (now : Nat) : ∀ (l : List Hd) (a : Nat), (∀ e ∈ l, e.1 ≤ now) → l.foldl (lfG o os kd x (now + 1)) (a - 1) = l.foldl (lfG o os kd x now) a - 1 := by
  intro l
  induction l with
  | nil => intro a _; rfl
  | cons e l ih =>
    intro a h
    have he := h e (by simp)
    simp only [List.foldl_cons]
    rw [← ih _ (fun e' h' => h e' (by simp [h']))]
    congr 1
    unfold lfG
    split
    · omega
    · rfl
theorem lf_tick (o : On) (os : List UInt16) (l : List Hd) (kd : Nat) (x : UInt16) (now : Nat) (h : ∀ e ∈ l, e.1 ≤ now) : lf o os l kd x (now + 1) = lf o os l kd x now - 1 := by
  have := lfM_tick o os kd x now l 0 h
  unfold lf lfM
  rw [show (0 : Nat) = 0 - 1 from rfl, this]
  simp only [Nat.zero_sub]
  split
  · omega
  · rfl
/-- what a machine is, of all that was heard -/
structure RmIs (o : On) (os : List UInt16) (l : List Hd) (now : Nat) (m : Rm) : Prop where
  own : m.o = o
  all : m.os = os
  la : ∀ x, m.la x = lf o os l 1 x now
  er : m.er = lf o os l 2 0 now
  cr : m.cr = lf o os l 3 0 now
  rd : ∀ x, m.rd x = rdiL o os l x
  at_ : ∀ e ∈ l, e.1 ≤ now
  top : ∀ x, m.la x ≤ lsN o.iv
theorem RmIs.new (o : On) (os : List UInt16) : RmIs o os [] 0 (rmNew o os) :=
  ⟨rfl, rfl, fun x => by simp [rmNew, lf, lfM], rfl, rfl, fun _ => rfl, by simp, fun _ => Nat.le_refl _⟩
theorem RmIs.tick {o : On} {os : List UInt16} {l : List Hd} {now : Nat} {m : Rm} (h : RmIs o os l now m) : RmIs o os l (now + 1) (rmTick m) :=
  ⟨h.own, h.all, fun x => by rw [lf_tick _ _ _ _ _ _ h.at_, ← h.la]; rfl, by rw [lf_tick _ _ _ _ _ _ h.at_, ← h.er]; rfl, by rw [lf_tick _ _ _ _ _ _ h.at_, ← h.cr]; rfl, h.rd,
   fun e he => Nat.le_succ_of_le (h.at_ e he), fun x => Nat.le_trans (Nat.sub_le _ _) (h.top x)⟩
theorem kind1_iv {o : On} {os : List UInt16} {c : Ck} (h : rmKind o os c = 1) : c.i = o.iv ∧ c.m ∈ os := by
  unfold rmKind at h
  split at h
  · cases h
  · split at h
    · cases h
    · split at h
      · rename_i ha
        obtain ⟨x, hx, hb⟩ := List.any_eq_true.1 ha
        simp only [Bool.and_eq_true, beq_iff_eq] at hb
        exact ⟨hb.2, hb.1 ▸ hx⟩
      · cases h
theorem RmIs.hear {o : On} {os : List UInt16} {l : List Hd} {now : Nat} {m : Rm} (h : RmIs o os l now m) (c : Ck) : RmIs o os (l ++ [(now, c)]) now (rmHear m c) := by
  have hat : ∀ e ∈ l ++ [(now, c)], e.1 ≤ now := by
    intro e he
    rcases List.mem_append.1 he with he | he
    · exact h.at_ e he
    · rw [List.mem_singleton.1 he]; exact Nat.le_refl _
  have hlf : ∀ kd x, rmHit o os kd x (now, c) = false → lf o os (l ++ [(now, c)]) kd x now = lf o os l kd x now := by
    intro kd x hh
    unfold lf
    rw [lfM_snoc]
    unfold lfG
    rw [hh]
    rfl
  have hhit : ∀ kd x, kd ≠ 1 → rmHit o os kd x (now, c) = true → lf o os (l ++ [(now, c)]) kd x now = max (lf o os l kd x now) (lsN c.i) := by
    intro kd x hk hh
    unfold lf
    rw [lfM_snoc, if_neg hk, if_neg hk]
    unfold lfG
    rw [hh]
    simp
  have hrd : ∀ x, rmHit o os 1 x (now, c) = false → rdiL o os (l ++ [(now, c)]) x = rdiL o os l x := by
    intro x hh
    rw [rdiL_snoc]
    unfold rdG
    rw [hh]
    rfl
  unfold rmHear
  rw [h.own, h.all]
  by_cases k1 : rmKind o os c = 1
  · rw [if_pos k1]
    have hiv := (kind1_iv k1).1
    have n2 : rmHit o os 2 0 (now, c) = false := by simp [rmHit, k1]
    have n3 : rmHit o os 3 0 (now, c) = false := by simp [rmHit, k1]
    refine ⟨rfl, rfl, fun x => ?_, by rw [hlf _ _ n2]; exact h.er, by rw [hlf _ _ n3]; exact h.cr, fun x => ?_, hat, fun x => ?_⟩
    · by_cases hx : x = c.m
      · have hh : rmHit o os 1 x (now, c) = true := by simp [rmHit, k1, hx]
        have htop := h.top x
        rw [h.la x] at htop
        unfold lf at htop
        rw [if_pos rfl] at htop
        simp only [hx, if_true]
        unfold lf
        rw [lfM_snoc, if_pos rfl]
        unfold lfG
        rw [← hx, hh]
        simp only [if_true, Nat.sub_self, Nat.sub_zero]
        rw [hiv]
        omega
      · have hh : rmHit o os 1 x (now, c) = false := by
          simp only [rmHit, k1]
          simp [Ne.symm hx]
        simp only [hx, if_false]
        rw [hlf _ _ hh]
        exact h.la x
    · by_cases hx : x = c.m
      · have hh : rmHit o os 1 x (now, c) = true := by simp [rmHit, k1, hx]
        rw [rdiL_snoc]
        unfold rdG
        rw [hh]
        simp [hx]
      · have hh : rmHit o os 1 x (now, c) = false := by
          simp only [rmHit, k1]
          simp [Ne.symm hx]
        simp only [hx, if_false]
        rw [hrd _ hh]
        exact h.rd x
    · simp only
      split
      · rw [hiv]; exact Nat.le_refl _
      · exact h.top x
  rw [if_neg k1]
  have n1 : ∀ x, rmHit o os 1 x (now, c) = false := fun x => by simp [rmHit, k1]
  by_cases k2 : rmKind o os c = 2
  · rw [if_pos k2]
    have y2 : rmHit o os 2 0 (now, c) = true := by simp [rmHit, k2]
    have n3 : rmHit o os 3 0 (now, c) = false := by simp [rmHit, k2]
    exact ⟨rfl, rfl, fun x => by rw [hlf _ _ (n1 x)]; exact h.la x, by rw [hhit _ _ (by decide) y2, ← h.er], by rw [hlf _ _ n3]; exact h.cr, fun x => by rw [hrd _ (n1 x)]; exact h.rd x, hat, h.top⟩
  rw [if_neg k2]
  have n2 : rmHit o os 2 0 (now, c) = false := by simp [rmHit, k2]
  by_cases k3 : rmKind o os c = 3
  · rw [if_pos k3]
    have y3 : rmHit o os 3 0 (now, c) = true := by simp [rmHit, k3]
    exact ⟨rfl, rfl, fun x => by rw [hlf _ _ (n1 x)]; exact h.la x, by rw [hlf _ _ n2]; exact h.er, by rw [hhit _ _ (by decide) y3, ← h.cr], fun x => by rw [hrd _ (n1 x)]; exact h.rd x, hat, h.top⟩
  rw [if_neg k3]
  have n3 : rmHit o os 3 0 (now, c) = false := by simp [rmHit, k3]
  exact ⟨h.own, h.all, fun x => by rw [hlf _ _ (n1 x)]; exact h.la x, by rw [hlf _ _ n2]; exact h.er, by rw [hlf _ _ n3]; exact h.cr, fun x => by rw [hrd _ (n1 x)]; exact h.rd x, hat, h.top⟩
/-- a row's numbers rise, and are the same -/
theorem risen_mem {os : List UInt16} {x : UInt16} : x ∈ risen os ↔ x ∈ os ∧ x.toNat < 8192 := by
  unfold risen
  rw [List.mem_flatMap]
  constructor
  · rintro ⟨n, hn, hx⟩
    have h := List.mem_filter.1 hx
    exact ⟨h.1, by have := List.mem_range.1 hn; have := h.2; simp at this; omega⟩
  · rintro ⟨h1, h2⟩
    exact ⟨x.toNat, List.mem_range.2 h2, List.mem_filter.2 ⟨h1, by simp⟩⟩
theorem rmKind_mem {o : On} {os os' : List UInt16} (h : ∀ x, x ∈ os ↔ x ∈ os') (c : Ck) : rmKind o os c = rmKind o os' c := by
  have e : os.any (fun x => x == c.m && c.i == o.iv) = os'.any (fun x => x == c.m && c.i == o.iv) := by
    rw [Bool.eq_iff_iff, List.any_eq_true, List.any_eq_true]
    exact ⟨fun ⟨x, hx, hh⟩ => ⟨x, (h x).1 hx, hh⟩, fun ⟨x, hx, hh⟩ => ⟨x, (h x).2 hx, hh⟩⟩
  unfold rmKind
  rw [e]
theorem range_split (n k : Nat) (h : k < n) : List.range n = List.range k ++ k :: (List.range (n - k - 1)).map (· + (k + 1)) := by
  apply List.ext_getElem
  · simp; omega
  · intro i h1 h2
    simp at h1
    rw [List.getElem_range]
    by_cases hi : i < k
    · rw [List.getElem_append_left (by simpa using hi)]; simp
    · rw [List.getElem_append_right (by simpa using Nat.le_of_not_lt hi)]
      rw [List.getElem_cons]
      split
      · rename_i h0; simp at h0; omega
      · rename_i h0; simp at h0; simp; omega
/-- rows that rise and have the same numbers are one -/
theorem sorted_eq : ∀ {a b : List UInt16}, a.Pairwise (fun x y => x.toNat < y.toNat) → b.Pairwise (fun x y => x.toNat < y.toNat) → (∀ x, x ∈ a ↔ x ∈ b) → a = b := by
  intro a
  induction a with
  | nil =>
    intro b _ _ h
    cases b with
    | nil => rfl
    | cons y b => have := (h y).2 (by simp); simp at this
  | cons x a ih =>
    intro b ha hb h
    cases b with
    | nil => have := (h x).1 (by simp); simp at this
    | cons y b =>
      have hxa := List.pairwise_cons.1 ha
      have hyb := List.pairwise_cons.1 hb
      have e : x = y := by
        rcases List.mem_cons.1 ((h x).1 (by simp)) with e | e
        · exact e
        · rcases List.mem_cons.1 ((h y).2 (by simp)) with e' | e'
          · exact e'.symm
          · have := hyb.1 x e
            have := hxa.1 y e'
            omega
      subst e
      rw [ih hxa.2 hyb.2 (fun z => ?_)]
      constructor
      · intro hz
        rcases List.mem_cons.1 ((h z).1 (by simp [hz])) with e | e
        · subst e; have := hxa.1 z hz; omega
        · exact e
      · intro hz
        rcases List.mem_cons.1 ((h z).2 (by simp [hz])) with e | e
        · subst e; have := hyb.1 z hz; omega
        · exact e
theorem risen_sorted {os : List UInt16} (hn : os.Nodup) : (risen os).Pairwise (fun x y => x.toNat < y.toNat) := by
  unfold risen
  rw [List.pairwise_flatMap]
  constructor
  · intro n _
    have h1 : (os.filter (fun x => x.toNat == n)).Nodup := List.filter_sublist.nodup hn
    have h2 : ∀ x ∈ os.filter (fun x => x.toNat == n), x.toNat = n := fun x hx => by have := (List.mem_filter.1 hx).2; simpa using this
    refine List.Pairwise.imp_of_mem (fun {a b} ha hb hab => ?_) h1
    exact absurd (UInt16.toNat_inj.1 ((h2 a ha).trans (h2 b hb).symm)) hab
  · refine List.Pairwise.imp (fun {a b} hab x hx y hy => ?_) List.pairwise_lt_range
    have h1 := (List.mem_filter.1 hx).2
    have h2 := (List.mem_filter.1 hy).2
    simp at h1 h2
    omega
theorem risen_len {os : List UInt16} (hn : os.Nodup) (hb : ∀ x ∈ os, x.toNat < 8192) : (risen os).length = os.length := by
  have h : (risen os).Perm os := by
    rw [List.perm_ext_iff_of_nodup ((risen_sorted hn).imp (fun {a b} h e => by rw [e] at h; omega)) hn]
    intro x
    rw [risen_mem]
    exact ⟨fun h => h.1, fun h => ⟨h, hb x h⟩⟩
  exact h.length_eq
theorem rmMay_is {o : On} {os : List UInt16} (h : rmMay o os = true) : os.length ≤ 8 ∧ ckM (onC o) = true ∧ (∀ x ∈ os, 1 ≤ x.toNat ∧ x.toNat ≤ 8191 ∧ x ≠ o.me) ∧ os.Nodup := by
  unfold rmMay rmOne at h
  simp only [Bool.and_eq_true, decide_eq_true_eq, List.all_eq_true, Bool.not_eq_true', beq_eq_false_iff_ne] at h
  exact ⟨h.1, h.2.1, h.2.2.1, h.2.2.2⟩
end Go.Proofs.Ytkmdgpfaaniibaa


/- Numbers of 16 and 32 bits: held against each other, as arguments. -/
namespace Go.Proofs.Ytkmdgpfaaniibaa
open Go.RowKit
set_option linter.unusedVariables false
set_option linter.unusedSimpArgs false
set_option maxRecDepth 100000

theorem ck_u16 (a b : UInt16) : (((a.toNat : Nat) : Int) == ((b.toNat : Nat) : Int)) = (a == b) := by
  rw [Bool.eq_iff_iff]
  simp only [beq_iff_eq]
  exact ⟨fun e => UInt16.toNat_inj.1 (by omega), fun e => by rw [e]⟩
theorem ck_u32 (a b : UInt32) : (((a.toNat : Nat) : Int) == ((b.toNat : Nat) : Int)) = (a == b) := by
  rw [Bool.eq_iff_iff]
  simp only [beq_iff_eq]
  exact ⟨fun e => UInt32.toNat_inj.1 (by omega), fun e => by rw [e]⟩
theorem u16_ofC {n : Int} (h : (Lit.int .u16 n).wf = true) : ∃ u : UInt16, n = (u.toNat : Int) := by
  have hb : 0 ≤ n ∧ n ≤ 65535 := by
    simp [Lit.wf, IntKind.has, IntKind.min, IntKind.max, IntKind.signed, IntKind.bits] at h
    omega
  refine ⟨UInt16.ofNat n.toNat, ?_⟩
  have : n.toNat % 65536 = n.toNat := by omega
  simp [this]
  omega
theorem u32_ofC {n : Int} (h : (Lit.int .u32 n).wf = true) : ∃ u : UInt32, n = (u.toNat : Int) := by
  have hb : 0 ≤ n ∧ n ≤ 4294967295 := by
    simp [Lit.wf, IntKind.has, IntKind.min, IntKind.max, IntKind.signed, IntKind.bits] at h
    omega
  refine ⟨UInt32.ofNat n.toNat, ?_⟩
  have : n.toNat % 4294967296 = n.toNat := by omega
  simp [this]
  omega
end Go.Proofs.Ytkmdgpfaaniibaa


/- package tlv: wrong, Put. -/
namespace Go.Proofs.Ytkmdgpfaaniibaa
open Go.RowKit
set_option linter.unusedVariables false
set_option linter.unusedSimpArgs false
set_option maxRecDepth 100000

/-- what is wrong with a thing that is put -/
def tlW (x : Tl) : Nat := if x.k = 0 then 2 else if 1480 < x.v.length then 5 else 0
theorem u8_zero (u : UInt8) : ((u.toNat : Int) == 0) = (u == 0) := tl_eqI u 0
end Go.Proofs.Ytkmdgpfaaniibaa


/- Steps of regions that draw; arguments opened. -/
namespace Go.Proofs.Ytkmdgpfaaniibaa
open Go.ChangeShapes Go.WideShapes Go.ChangeAt Go.RowKit
open Go.ChangeMaps (open_string shut_string)
set_option linter.unusedVariables false
set_option linter.unusedSimpArgs false
set_option maxRecDepth 100000

theorem Byt.drew {w : World} {A : Option Addr} {l : List UInt8} (h : Byt w A l) : Byt w.drew A l := h
theorem OwnB.nil_ (w : World) (base : Nat) : OwnB w base (.slice none 0 0) [] := World.ownsRow_nil w base 5 1
theorem Str.convs {w : World} {v : Value} {l : List UInt8} (h : Str w v l) : ∀ W', Below w.heap.size w W' → (convert 53 9 v).run Try.prog W' = .ok (.string ⟨l.toArray⟩) W' := fun W' hb => (h.below hb).conv
theorem Str.drew {w : World} {v : Value} {l : List UInt8} (h : Str w v l) : Str w.drew v l := h
/- The operation append, as a step of a region that draws its order. -/
theorem step_append_bytes {w : World} {ops : Array Oper} {o : Oper} {a : Act} {K : Act → World → Prop} {Q : Exit → Act → World → Prop} {E : Prop} (hgd : o.guard = none) (s x : Operand)
    (ho : o.op = .call { callee := .builtin .append, args := #[s, x], argTypes := #[53, 53] })
    (base : Nat) (v : Value) (l : List UInt8) (hs : a.eval s = v) (hown : OwnB w base v l)
    (A : Option Addr) (m c : Nat) (r : List UInt8) (hx : a.eval x = .slice A m c) (hm : m = r.length) (hz : A = none → c = 0) (hr : Byt w A r)
    (hlen : l.length + r.length ≤ 140737488355328) (hbase : base ≤ w.heap.size)
    (h : ∀ v' w', OwnB w' base v' (l ++ r) → w.grownBy w' v.ownBlock → K (a.put o.dst v') w') :
    if Region.wanted o (yielded ops a.tmps) = true then Oper.wp Try.prog o a w K Q else E := by
  have hw : Region.wanted o (yielded ops a.tmps) = true := by simp [Region.wanted, hgd]
  rw [if_pos hw]
  obtain ⟨i, hi, hz0, hz1, hz2⟩ := info_parts u8_info
  subst hm
  have key : ∀ ad, A = some ad → (∀ j u, (bvals r)[j]? = some u → w.cell? (ad.add j) = some u) → Oper.wp Try.prog o a w K Q := by
    rintro ad rfl hc
    obtain ⟨v', w', hr, h2, h3, _, _⟩ := run_append_own_at (P := Try.prog) w base _ o.type 5 i _ 1 1 Try.underlying53 hi hz0 hz1 hz2 rfl (by omega) v l.length (bvals l) hown ad r.length c (bvals r) (by simp [bvals]) hc (bvals_one r)
      (by simp only [maxLen]; omega) (by omega) hbase
    unfold Oper.wp execOp
    simp only [ho, resolve, invoke, builtin, Sem.run_bind, Sem.run_pure, Result.andThen_ok, List.map_toArray, List.map_cons, List.map_nil, hs, hx, hr]
    exact h _ _ (by unfold OwnB; rw [List.length_append, bvals_app]; exact h2) h3
  rcases Nat.eq_zero_or_pos r.length with h0 | h0
  · have hr0 : r = [] := List.eq_nil_of_length_eq_zero h0
    subst hr0
    cases A with
    | none =>
      have hc := hz rfl
      subst hc
      have hrun := run_append_owned_none (P := Try.prog) (w := w) base 53 o.type 5 i 1 Try.underlying53 hi v l.length (bvals l) hown
      unfold Oper.wp
      simp [execOp, ho, resolve, invoke, builtin, hs, hx, hrun, Result.andThen]
      exact h v w (by simpa using hown) ⟨rfl, rfl, rfl, Nat.le_refl _, fun _ _ _ => rfl⟩
    | some ad => exact key ad rfl (by simp [bvals])
  · obtain ⟨ad, hA, hc⟩ := hr h0
    exact key ad hA hc

/-- the slice argument read as bytes -/
theorem open_bytes {H : Type} {enc : TypeId × Value → H} {W : World} {base : Nat} {v : Value} {d : DataW H} {p : List MemPlace} (o : Value.okWide Try.prog W .any base 53 v)
    (h : DataW.Trod enc Try.prog W 0 (fun _ => true) true 53 v d p) : ∃ A c l, v = .slice A l.length c ∧ (A = none → c = 0) ∧ Byt W A l ∧ l.length ≤ maxLen := by
  obtain ⟨a0, len0, cap0, rfl⟩ := okWide_slice Try.underlying53 o
  obtain ⟨fuel, hf⟩ := h
  rcases open_ints Try.underlying53 Try.underlying5 (by kernel_rfl) hf with ⟨hcs, _⟩ | ⟨x, l, c, zs, hcs, _, hl, hm, hz, _, hcell, hwz⟩
  · simp [Value.cells] at hcs
    obtain ⟨rfl, rfl, rfl⟩ := hcs
    exact ⟨none, 0, [], rfl, fun _ => rfl, Byt.nil_ _ _, by simp⟩
  · simp [Value.cells] at hcs
    obtain ⟨rfl, rfl, rfl⟩ := hcs
    simp at hz
    refine ⟨some x, cap0, (zs.take len0).map (fun n => UInt8.ofNat n.toNat), by simp [hz, hl], by simp, ?_, by simp; omega⟩
    intro _
    refine ⟨x, rfl, fun j u hu => ?_⟩
    have hj : j < len0 := by
      have := (List.getElem?_eq_some_iff.1 hu).1
      simp [bvals] at this
      omega
    have hjz : j < zs.length := by omega
    rw [hcell j hjz]
    have hw := hwz (zs[j]) (List.getElem_mem hjz)
    have hb : 0 ≤ zs[j] ∧ zs[j] ≤ 255 := by
      simp [Lit.wf, IntKind.min, IntKind.max, IntKind.signed, IntKind.bits] at hw
      omega
    simp [bvals, bval, hj, List.getElem?_take, hjz] at hu
    rw [← hu]
    simp [hjz]
    omega


/-- a slice argument, element by element: the cells of each, and that they read as the element's type -/
theorem open_rows {H : Type} {enc : TypeId × Value → H} {W : World} {base : Nat} {v : Value} {d : DataW H} {p : List MemPlace} {t e : TypeId}
    (ht : Try.prog.underlying t = some (.slice e)) (hsz : 0 < Try.prog.cellsOf e) (o : Value.okWide Try.prog W .any base t v)
    (h : DataW.Trod enc Try.prog W 0 (fun _ => true) true t v d p) : ∃ A n c, v = .slice A n c ∧ n ≤ maxLen ∧ (A = none → n = 0 ∧ c = 0) ∧ (0 < n → ∃ b off, A = some ⟨b, off, none⟩ ∧ b < W.heap.size ∧ ∀ i, i < n → ∃ (cs : List Value) (fuel : Nat) (x : DataW H × List MemPlace),
      cs.length = Try.prog.cellsOf e ∧ (∀ j, j < Try.prog.cellsOf e → W.cell? ⟨b, off + (i * Try.prog.cellsOf e + j), none⟩ = cs[j]?) ∧ DataW.trod enc Try.prog W 0 (fun _ => true) true fuel e cs = some x) := by
  obtain ⟨a0, len0, cap0, rfl⟩ := okWide_slice ht o
  obtain ⟨fuel, hf⟩ := h
  rcases Go.Deep.open_slice ht hf with ⟨hcs, _⟩ | ⟨a, l, c, m, n, D, Pl, hcs, _, hl, hm, hmm, _, hel⟩
  · simp [Value.cells] at hcs
    obtain ⟨rfl, rfl, rfl⟩ := hcs
    exact ⟨none, 0, 0, rfl, by simp, fun _ => ⟨rfl, rfl⟩, fun h => absurd h (by omega)⟩
  · simp [Value.cells] at hcs
    obtain ⟨rfl, rfl, rfl⟩ := hcs
    simp at hmm
    subst hmm
    refine ⟨some a, _, _, rfl, by omega, by simp, fun h0 => ?_⟩
    have key : ∀ i, i < len0 → ∃ (cs : List Value) (x : DataW H × List MemPlace), cs.length = Try.prog.cellsOf e ∧ (∀ j, j < Try.prog.cellsOf e → W.cell? (a.add (i * Try.prog.cellsOf e + j)) = cs[j]?) ∧ DataW.trod enc Try.prog W 0 (fun _ => true) true n e cs = some x := by
      intro i hi
      obtain ⟨cs, hc, htr⟩ := hel i (by omega)
      obtain ⟨_, hlen, hat⟩ := World.cells?_some hc
      refine ⟨cs, _, hlen, fun j hj => ?_, htr⟩
      rw [← hat j hj, Go.Deep.add_add]
    obtain ⟨cs, x, hlen, hat, _⟩ := key 0 h0
    have h00 := hat 0 hsz
    simp only [Nat.zero_mul, Nat.zero_add] at h00
    have hsome : cs[0]? = some (cs[0]'(by omega)) := List.getElem?_eq_getElem (by omega)
    have hsp := World.cell?_spot (h00.trans hsome)
    obtain ⟨b, off, spot⟩ := a
    simp only [Addr.add, ↓reduceIte] at hsp
    subst hsp
    refine ⟨b, off, rfl, World.block_lt_of_cell? W _ (by simpa [Addr.add] using h00.trans hsome), fun i hi => ?_⟩
    obtain ⟨cs, x, hlen, hat, htr⟩ := key i hi
    refine ⟨cs, n, x, hlen, fun j hj => ?_, htr⟩
    rw [← hat j hj]
    simp only [Addr.add]
    split <;> simp_all

/-- the slice at A reads as pairs of numbers, two cells each -/
def Prs (W : World) (A : Option Addr) (k1 k2 : IntKind) (l : List (Int × Int)) : Prop :=
  0 < l.length → ∃ b off, A = some ⟨b, off, none⟩ ∧ b < W.heap.size ∧ ∀ i (h : i < l.length), W.cell? ⟨b, off + i * 2, none⟩ = some (.int k1 l[i].1) ∧ W.cell? ⟨b, off + i * 2 + 1, none⟩ = some (.int k2 l[i].2) ∧
    (Lit.int k1 l[i].1).wf = true ∧ (Lit.int k2 l[i].2).wf = true

/-- out of one number for each place, a list -/
theorem list_of {α : Type} [Inhabited α] (n : Nat) (P : Nat → α → Prop) (h : ∀ i, i < n → ∃ x, P i x) : ∃ l : List α, l.length = n ∧ ∀ i (hi : i < l.length), P i l[i] := by
  induction n with
  | zero => exact ⟨[], rfl, fun i hi => absurd hi (by simp)⟩
  | succ n ih =>
    obtain ⟨l, hl, hp⟩ := ih (fun i hi => h i (by omega))
    obtain ⟨x, hx⟩ := h n (by omega)
    refine ⟨l ++ [x], by simp [hl], fun i hi => ?_⟩
    by_cases hin : i < l.length
    · rw [List.getElem_append_left hin]; exact hp i hin
    · have : i = n := by simp at hi; omega
      subst this
      simp [← hl]
      rw [hl]; exact hx

theorem open_pairs {H : Type} {enc : TypeId × Value → H} {W : World} {base : Nat} {v : Value} {d : DataW H} {p : List MemPlace} {t e : TypeId} {k1 k2 : IntKind} {f1 f2 : Field}
    (ht : Try.prog.underlying t = some (.slice e)) (he : Try.prog.underlying e = some (.struct #[f1, f2])) (hk1 : Try.prog.underlying f1.type = some (.int k1)) (hk2 : Try.prog.underlying f2.type = some (.int k2))
    (hone : Go.Deep.oneCellFields Try.prog #[f1, f2] = true) (hC : Try.prog.cellsOf e = 2)
    (o : Value.okWide Try.prog W .any base t v)
    (h : DataW.Trod enc Try.prog W 0 (fun _ => true) true t v d p) : ∃ A c l, v = .slice A l.length c ∧ Prs W A k1 k2 l ∧ l.length ≤ maxLen := by
  obtain ⟨A, n, c, rfl, hn, _, hel⟩ := open_rows ht (by omega) o h
  rcases Nat.eq_zero_or_pos n with h0 | h0
  · subst h0
    exact ⟨A, c, [], rfl, fun h => absurd h (by simp), by simp⟩
  obtain ⟨b, off, rfl, hb, hel⟩ := hel h0
  rw [hC] at hel
  obtain ⟨l, hl, hp⟩ := list_of (α := Int × Int) n (fun i x => W.cell? ⟨b, off + i * 2, none⟩ = some (.int k1 x.1) ∧ W.cell? ⟨b, off + i * 2 + 1, none⟩ = some (.int k2 x.2) ∧ (Lit.int k1 x.1).wf = true ∧ (Lit.int k2 x.2).wf = true) (by
    intro i hi
    obtain ⟨cs, fuel, x, hlen, hat, htr⟩ := hel i hi
    obtain ⟨y0, y1, m, _, _, hy0, hy1⟩ := trod_struct2 he htr
    obtain ⟨ho0, hc0⟩ := Go.Deep.hone_of hone 0 f1 rfl
    obtain ⟨ho1, hc1⟩ := Go.Deep.hone_of hone 1 f2 rfl
    match cs, hlen with
    | [c0, c1], _ =>
      rw [ho0, hc0] at hy0
      rw [ho1, hc1] at hy1
      obtain ⟨x0, e0, _, w0⟩ := DataW.trod_int hk1 hy0
      obtain ⟨x1, e1, _, w1⟩ := DataW.trod_int hk2 hy1
      simp at e0 e1
      subst e0 e1
      exact ⟨(x0, x1), by simpa using hat 0 (by omega), by simpa [Nat.add_assoc] using hat 1 (by omega), w0, w1⟩)
  subst hl
  exact ⟨_, c, l, rfl, fun _ => ⟨b, off, rfl, hb, hp⟩, hn⟩

theorem Prs.below {W W' : World} {A : Option Addr} {k1 k2 : IntKind} {l : List (Int × Int)} (h : Prs W A k1 k2 l) (hb : Below W.heap.size W W') : Prs W' A k1 k2 l := by
  intro h0
  obtain ⟨b, off, e, hlt, hc⟩ := h h0
  refine ⟨b, off, e, Nat.lt_of_lt_of_le hlt hb.size, fun i hi => ?_⟩
  obtain ⟨c1, c2, w1, w2⟩ := hc i hi
  exact ⟨(hb.cell (p := ⟨b, off + i * 2, none⟩) hlt).trans c1, (hb.cell (p := ⟨b, off + i * 2 + 1, none⟩) hlt).trans c2, w1, w2⟩
end Go.Proofs.Ytkmdgpfaaniibaa


/- api.Frame: a frame as a value, as a block, as an argument; two frames held against each other. -/
namespace Go.Proofs.Ytkmdgpfaaniibaa
open Go.ChangeShapes Go.WideShapes Go.ChangeAt Go.RowKit
set_option linter.unusedVariables false
set_option linter.unusedSimpArgs false
set_option maxRecDepth 100000

/-- a frame -/
structure Fr where
  (d0 d1 d2 d3 d4 d5 s0 s1 s2 s3 s4 s5 : UInt8)
  tag : Bool
  pri : UInt8
  vid : UInt16
  ty : UInt16
  data : List UInt8
def Fr.dst (f : Fr) : List UInt8 := [f.d0, f.d1, f.d2, f.d3, f.d4, f.d5]
def Fr.src (f : Fr) : List UInt8 := [f.s0, f.s1, f.s2, f.s3, f.s4, f.s5]
def Fr.zero : Fr := ⟨0, 0, 0, 0, 0, 0, 0, 0, 0, 0, 0, 0, false, 0, 0, 0, []⟩
/-- a frame as a value -/
abbrev FV (f : Fr) : Value := .agg #[.int .u8 f.d0.toNat, .int .u8 f.d1.toNat, .int .u8 f.d2.toNat, .int .u8 f.d3.toNat, .int .u8 f.d4.toNat, .int .u8 f.d5.toNat, .int .u8 f.s0.toNat, .int .u8 f.s1.toNat, .int .u8 f.s2.toNat, .int .u8 f.s3.toNat, .int .u8 f.s4.toNat, .int .u8 f.s5.toNat, .bool f.tag, .int .u8 f.pri.toNat, .int .u16 f.vid.toNat, .int .u16 f.ty.toNat, .string ⟨f.data.toArray⟩]
def FZ : Array Value := #[.int .u8 0, .int .u8 0, .int .u8 0, .int .u8 0, .int .u8 0, .int .u8 0, .int .u8 0, .int .u8 0, .int .u8 0, .int .u8 0, .int .u8 0, .int .u8 0, .bool false, .int .u8 0, .int .u16 0, .int .u16 0, .string ⟨#[]⟩]
/-- the cells of a frame at g -/
structure FrC (w : World) (g : Nat) (f : Fr) : Prop where
  c0 : w.cell? ⟨g, 0, none⟩ = some (Value.int .u8 f.d0.toNat)
  c1 : w.cell? ⟨g, 1, none⟩ = some (Value.int .u8 f.d1.toNat)
  c2 : w.cell? ⟨g, 2, none⟩ = some (Value.int .u8 f.d2.toNat)
  c3 : w.cell? ⟨g, 3, none⟩ = some (Value.int .u8 f.d3.toNat)
  c4 : w.cell? ⟨g, 4, none⟩ = some (Value.int .u8 f.d4.toNat)
  c5 : w.cell? ⟨g, 5, none⟩ = some (Value.int .u8 f.d5.toNat)
  c6 : w.cell? ⟨g, 6, none⟩ = some (Value.int .u8 f.s0.toNat)
  c7 : w.cell? ⟨g, 7, none⟩ = some (Value.int .u8 f.s1.toNat)
  c8 : w.cell? ⟨g, 8, none⟩ = some (Value.int .u8 f.s2.toNat)
  c9 : w.cell? ⟨g, 9, none⟩ = some (Value.int .u8 f.s3.toNat)
  c10 : w.cell? ⟨g, 10, none⟩ = some (Value.int .u8 f.s4.toNat)
  c11 : w.cell? ⟨g, 11, none⟩ = some (Value.int .u8 f.s5.toNat)
  c12 : w.cell? ⟨g, 12, none⟩ = some (Value.bool f.tag)
  c13 : w.cell? ⟨g, 13, none⟩ = some (Value.int .u8 f.pri.toNat)
  c14 : w.cell? ⟨g, 14, none⟩ = some (Value.int .u16 f.vid.toNat)
  c15 : w.cell? ⟨g, 15, none⟩ = some (Value.int .u16 f.ty.toNat)
  c16 : w.cell? ⟨g, 16, none⟩ = some (Value.string ⟨f.data.toArray⟩)
theorem FrC.next {w w' : World} {g : Nat} {f : Fr} (h : FrC w g f) (hb : Below w.heap.size w w') : FrC w' g f := by
  have hg := World.block_lt_of_cell? w _ h.c0
  have hk : ∀ i, w'.cell? ⟨g, i, none⟩ = w.cell? ⟨g, i, none⟩ := fun i => hb.cell (p := ⟨g, i, none⟩) hg
  exact ⟨(hk 0).trans h.c0, (hk 1).trans h.c1, (hk 2).trans h.c2, (hk 3).trans h.c3, (hk 4).trans h.c4, (hk 5).trans h.c5, (hk 6).trans h.c6, (hk 7).trans h.c7, (hk 8).trans h.c8, (hk 9).trans h.c9, (hk 10).trans h.c10, (hk 11).trans h.c11, (hk 12).trans h.c12, (hk 13).trans h.c13, (hk 14).trans h.c14, (hk 15).trans h.c15, (hk 16).trans h.c16⟩

/-- are two frames the same? -/
def Fr.same (f g : Fr) : Bool := (f.dst == g.dst) && ((f.src == g.src) && ((f.tag == g.tag) && ((f.pri == g.pri) && ((f.vid == g.vid) && ((f.ty == g.ty) && (f.data == g.data))))))
theorem Fr.same_iff (f g : Fr) : f.same g = true ↔ f = g := by
  constructor
  · intro h
    obtain ⟨a0, a1, a2, a3, a4, a5, a6, a7, a8, a9, a10, a11, a12, a13, a14, a15, a16⟩ := f
    obtain ⟨b0, b1, b2, b3, b4, b5, b6, b7, b8, b9, b10, b11, b12, b13, b14, b15, b16⟩ := g
    simp only [Fr.same, Fr.dst, Fr.src, Bool.and_eq_true, beq_iff_eq, List.cons.injEq, and_true] at h
    obtain ⟨⟨h0, h1, h2, h3, h4, h5⟩, ⟨h6, h7, h8, h9, h10, h11⟩, h12, h13, h14, h15, h16⟩ := h
    subst h0 h1 h2 h3 h4 h5 h6 h7 h8 h9 h10 h11 h12 h13 h14 h15 h16
    rfl
  · rintro rfl
    simp [Fr.same]
theorem Fr.same_self (f : Fr) : f.same f = true := (Fr.same_iff f f).2 rfl
theorem u8_beq (a b : UInt8) : (((a.toNat : Nat) : Int) == ((b.toNat : Nat) : Int)) = (a == b) := by
  rw [Bool.eq_iff_iff]
  simp only [beq_iff_eq]
  exact ⟨fun e => UInt8.toNat_inj.1 (by omega), fun e => by rw [e]⟩
theorem u16_beq (a b : UInt16) : (((a.toNat : Nat) : Int) == ((b.toNat : Nat) : Int)) = (a == b) := by
  rw [Bool.eq_iff_iff]
  simp only [beq_iff_eq]
  exact ⟨fun e => UInt16.toNat_inj.1 (by omega), fun e => by rw [e]⟩
theorem str_beq (a b : List UInt8) : ((⟨a.toArray⟩ : ByteArray).toList == (⟨b.toArray⟩ : ByteArray).toList) = (a == b) := by
  rw [ByteArray.toList_eq, ByteArray.toList_eq]
theorem eqf_step {P : Program} {d : Nat} {xs ys : Array Value} {f : Field} {fs : List Field} {w : World} {a b : Value} {r s : Bool} (hn : f.name ≠ "_") (ha : (part f.type xs f.offset).run P w = .ok a w) (hb : (part f.type ys f.offset).run P w = .ok b w)
    (hr : (Op.equalIn d f.type a b).run P w = .ok r w) (hs : (Op.eqFields d xs ys fs).run P w = .ok s w) : (Op.eqFields d xs ys (f :: fs)).run P w = .ok (r && s) w := by
  simp only [Op.eqFields, hn, ne_eq, not_false_eq_true, if_true, Sem.run_bind, ha, hb, hr, Result.andThen_ok]
  cases r
  · simp
  · simp only [Bool.not_true, Bool.false_eq_true, if_false, Bool.true_and]
    exact hs
theorem eqf_nil {P : Program} {d : Nat} {xs ys : Array Value} {w : World} : (Op.eqFields d xs ys []).run P w = .ok true w := by simp [Op.eqFields]
/-- a row's cell i is of its type -/
theorem okRow_at {P : Program} {w : World} {r : Reach} {base : Nat} {t : TypeId} {l : List Value} {ts : List TypeId} (hts : P.cellTypes P.depth t = some ts) (h : Row.okWide P w r base t ⟨l⟩) (i : Nat) (v : Value) (u : TypeId) (hv : l[i]? = some v) (hu : ts[i]? = some u) : Cell.okWide P w r base u v := by
  obtain ⟨ts', h1, _, h2⟩ := h
  rw [hts] at h1
  cases h1
  obtain ⟨u', h3, h4⟩ := h2 i v (by simpa using hv)
  have hlt : i < ts.length := (List.getElem?_eq_some_iff.1 hu).1
  rw [Nat.mod_eq_of_lt hlt, hu] at h3
  cases h3
  exact h4
theorem cell_u8 {P : Program} {w : World} {r : Reach} {base : Nat} {t : TypeId} {v : Value} (ht : P.underlying t = some (.int .u8)) (h : Cell.okWide P w r base t v) : ∃ u : UInt8, v = .int .u8 u.toNat := by
  simp only [Cell.okWide, ht] at h
  cases v with
  | int k n =>
    simp only [Cell.ok, ht] at h
    obtain ⟨rfl, hn⟩ := h
    have hb : 0 ≤ n ∧ n ≤ 255 := by
      simp [IntKind.has, IntKind.min, IntKind.max, IntKind.signed, IntKind.bits] at hn
      omega
    refine ⟨UInt8.ofNat n.toNat, congrArg _ ?_⟩
    have : n.toNat % 256 = n.toNat := by omega
    simp [this]
    omega
  | _ => simp [Cell.ok, ht] at h
theorem cell_u16 {P : Program} {w : World} {r : Reach} {base : Nat} {t : TypeId} {v : Value} (ht : P.underlying t = some (.int .u16)) (h : Cell.okWide P w r base t v) : ∃ u : UInt16, v = .int .u16 u.toNat := by
  simp only [Cell.okWide, ht] at h
  cases v with
  | int k n =>
    simp only [Cell.ok, ht] at h
    obtain ⟨rfl, hn⟩ := h
    have hb : 0 ≤ n ∧ n ≤ 65535 := by
      simp [IntKind.has, IntKind.min, IntKind.max, IntKind.signed, IntKind.bits] at hn
      omega
    refine ⟨UInt16.ofNat n.toNat, congrArg _ ?_⟩
    have : n.toNat % 65536 = n.toNat := by omega
    simp [this]
    omega
  | _ => simp [Cell.ok, ht] at h
theorem cell_bool {P : Program} {w : World} {r : Reach} {base : Nat} {t : TypeId} {v : Value} (ht : P.underlying t = some .bool) (h : Cell.okWide P w r base t v) : ∃ b, v = .bool b := by
  simp only [Cell.okWide, ht] at h
  cases v <;> simp_all [Cell.ok]
theorem cell_str {P : Program} {w : World} {r : Reach} {base : Nat} {t : TypeId} {v : Value} (ht : P.underlying t = some .string) (h : Cell.okWide P w r base t v) : ∃ l : List UInt8, v = .string ⟨l.toArray⟩ := by
  simp only [Cell.okWide, ht] at h
  cases v <;> simp_all [Cell.ok]
  rename_i s
  exact ⟨s.data.toList, by simp⟩
theorem vlist17 {l : List Value} (h : l.length = 17) : ∃ v0 v1 v2 v3 v4 v5 v6 v7 v8 v9 v10 v11 v12 v13 v14 v15 v16, l = [v0, v1, v2, v3, v4, v5, v6, v7, v8, v9, v10, v11, v12, v13, v14, v15, v16] := by
  match l, h with
  | [v0, v1, v2, v3, v4, v5, v6, v7, v8, v9, v10, v11, v12, v13, v14, v15, v16], _ => exact ⟨v0, v1, v2, v3, v4, v5, v6, v7, v8, v9, v10, v11, v12, v13, v14, v15, v16, rfl⟩
end Go.Proofs.Ytkmdgpfaaniibaa


/- A frame's bytes, and back (plain). -/
namespace Go.Proofs.Ytkmdgpfaaniibaa
open Go.RowKit
set_option linter.unusedVariables false
set_option linter.unusedSimpArgs false
set_option maxRecDepth 100000

/-- may a frame be, but for its length? -/
def fmay (f : Fr) : Bool := if f.tag then decide (f.pri.toNat ≤ 7) && decide (f.vid.toNat ≤ 4095) else (f.pri == 0) && ((f.vid == 0) && (f.ty != 33024))
/-- the bytes ahead of the data -/
def fhead (f : Fr) : List UInt8 := f.dst ++ f.src ++ (if f.tag then dig 2 33024 ++ dig 2 (f.pri.toNat * 8192 + f.vid.toNat) else []) ++ dig 2 f.ty.toNat
def fbytes (f : Fr) : List UInt8 := fhead f ++ f.data
def flen (f : Fr) : Nat := (if f.tag then 18 else 14) + f.data.length
theorem fbytes_len (f : Fr) : (fbytes f).length = flen f := by
  unfold fbytes fhead flen Fr.dst Fr.src
  split <;> simp [dig_len] <;> omega
/-- Put's error and bytes -/
def fputE (f : Fr) : Int := if fmay f = false then 2 else if 1522 < flen f then 5 else 0
def fputV (f : Fr) : List UInt8 := if fputE f = 0 then fbytes f else []

def u16of (a b : UInt8) : UInt16 := UInt16.ofNat (a.toNat * 256 + b.toNat)
theorem u16of_nat (a b : UInt8) : (u16of a b).toNat = a.toNat * 256 + b.toNat := by
  have := a.toNat_lt
  have := b.toNat_lt
  unfold u16of
  simp
  omega
/-- is there a tag? -/
def ftag (s : List UInt8) : Bool := (s.getD 12 0 == 129) && (s.getD 13 0 == 0)
/-- Take's error -/
def ftakeE (s : List UInt8) : Int :=
  if 1522 < s.length then 5 else if s.length < 14 then 3 else if ftag s = false then 0 else if s.length < 16 then 3 else if (s.getD 14 0).toNat / 16 % 2 = 1 then 4 else if s.length < 18 then 3 else 0
/-- the frame whose bytes these are -/
def fofb (s : List UInt8) : Fr :=
  if ftag s then ⟨s.getD 0 0, s.getD 1 0, s.getD 2 0, s.getD 3 0, s.getD 4 0, s.getD 5 0, s.getD 6 0, s.getD 7 0, s.getD 8 0, s.getD 9 0, s.getD 10 0, s.getD 11 0, true, UInt8.ofNat ((s.getD 14 0).toNat / 32), UInt16.ofNat ((s.getD 14 0).toNat % 16 * 256 + (s.getD 15 0).toNat), u16of (s.getD 16 0) (s.getD 17 0), s.drop 18⟩
  else ⟨s.getD 0 0, s.getD 1 0, s.getD 2 0, s.getD 3 0, s.getD 4 0, s.getD 5 0, s.getD 6 0, s.getD 7 0, s.getD 8 0, s.getD 9 0, s.getD 10 0, s.getD 11 0, false, 0, 0, u16of (s.getD 12 0) (s.getD 13 0), s.drop 14⟩
def ftakeF (s : List UInt8) : Fr := if ftakeE s = 0 then fofb s else Fr.zero

theorem dig2 (n : Nat) : dig 2 n = [UInt8.ofNat (n / 256 % 256), UInt8.ofNat (n % 256)] := rfl
theorem u16_dig (x : UInt16) : u16of (UInt8.ofNat (x.toNat / 256 % 256)) (UInt8.ofNat (x.toNat % 256)) = x := by
  have h := x.toNat_lt
  apply UInt16.toNat_inj.1
  rw [u16of_nat]
  simp
  omega
theorem dig_u16 (a b : UInt8) : dig 2 (u16of a b).toNat = [a, b] := by
  rw [u16of_nat, dig2]
  have ha := a.toNat_lt
  have hb := b.toNat_lt
  rw [show (a.toNat * 256 + b.toNat) / 256 % 256 = a.toNat by omega, show (a.toNat * 256 + b.toNat) % 256 = b.toNat by omega]
  simp
theorem cons_of {l : List UInt8} (n : Nat) (h : n + 1 ≤ l.length) : ∃ x r, l = x :: r ∧ n ≤ r.length := by
  cases l with
  | nil => simp at h
  | cons x r => exact ⟨x, r, rfl, by simpa using h⟩
theorem list14 {l : List UInt8} (h : 14 ≤ l.length) : ∃ x0 x1 x2 x3 x4 x5 x6 x7 x8 x9 x10 x11 x12 x13 r, l = x0 :: x1 :: x2 :: x3 :: x4 :: x5 :: x6 :: x7 :: x8 :: x9 :: x10 :: x11 :: x12 :: x13 :: r := by
  obtain ⟨x0, l0, rfl, h0⟩ := cons_of 13 h
  obtain ⟨x1, l1, rfl, h1⟩ := cons_of 12 h0
  obtain ⟨x2, l2, rfl, h2⟩ := cons_of 11 h1
  obtain ⟨x3, l3, rfl, h3⟩ := cons_of 10 h2
  obtain ⟨x4, l4, rfl, h4⟩ := cons_of 9 h3
  obtain ⟨x5, l5, rfl, h5⟩ := cons_of 8 h4
  obtain ⟨x6, l6, rfl, h6⟩ := cons_of 7 h5
  obtain ⟨x7, l7, rfl, h7⟩ := cons_of 6 h6
  obtain ⟨x8, l8, rfl, h8⟩ := cons_of 5 h7
  obtain ⟨x9, l9, rfl, h9⟩ := cons_of 4 h8
  obtain ⟨x10, l10, rfl, h10⟩ := cons_of 3 h9
  obtain ⟨x11, l11, rfl, h11⟩ := cons_of 2 h10
  obtain ⟨x12, l12, rfl, h12⟩ := cons_of 1 h11
  obtain ⟨x13, l13, rfl, h13⟩ := cons_of 0 h12
  exact ⟨x0, x1, x2, x3, x4, x5, x6, x7, x8, x9, x10, x11, x12, x13, l13, rfl⟩
theorem list18 {l : List UInt8} (h : 18 ≤ l.length) : ∃ x0 x1 x2 x3 x4 x5 x6 x7 x8 x9 x10 x11 x12 x13 x14 x15 x16 x17 r, l = x0 :: x1 :: x2 :: x3 :: x4 :: x5 :: x6 :: x7 :: x8 :: x9 :: x10 :: x11 :: x12 :: x13 :: x14 :: x15 :: x16 :: x17 :: r := by
  obtain ⟨x0, l0, rfl, h0⟩ := cons_of 17 h
  obtain ⟨x1, l1, rfl, h1⟩ := cons_of 16 h0
  obtain ⟨x2, l2, rfl, h2⟩ := cons_of 15 h1
  obtain ⟨x3, l3, rfl, h3⟩ := cons_of 14 h2
  obtain ⟨x4, l4, rfl, h4⟩ := cons_of 13 h3
  obtain ⟨x5, l5, rfl, h5⟩ := cons_of 12 h4
  obtain ⟨x6, l6, rfl, h6⟩ := cons_of 11 h5
  obtain ⟨x7, l7, rfl, h7⟩ := cons_of 10 h6
  obtain ⟨x8, l8, rfl, h8⟩ := cons_of 9 h7
  obtain ⟨x9, l9, rfl, h9⟩ := cons_of 8 h8
  obtain ⟨x10, l10, rfl, h10⟩ := cons_of 7 h9
  obtain ⟨x11, l11, rfl, h11⟩ := cons_of 6 h10
  obtain ⟨x12, l12, rfl, h12⟩ := cons_of 5 h11
  obtain ⟨x13, l13, rfl, h13⟩ := cons_of 4 h12
  obtain ⟨x14, l14, rfl, h14⟩ := cons_of 3 h13
  obtain ⟨x15, l15, rfl, h15⟩ := cons_of 2 h14
  obtain ⟨x16, l16, rfl, h16⟩ := cons_of 1 h15
  obtain ⟨x17, l17, rfl, h17⟩ := cons_of 0 h16
  exact ⟨x0, x1, x2, x3, x4, x5, x6, x7, x8, x9, x10, x11, x12, x13, x14, x15, x16, x17, l17, rfl⟩
/-- what is put is taken -/
theorem take_put (f : Fr) (h : fputE f = 0) : ftakeE (fbytes f) = 0 ∧ ftakeF (fbytes f) = f := by
  obtain ⟨d0, d1, d2, d3, d4, d5, s0, s1, s2, s3, s4, s5, tag, pri, vid, ty, data⟩ := f
  have hm : fmay ⟨d0, d1, d2, d3, d4, d5, s0, s1, s2, s3, s4, s5, tag, pri, vid, ty, data⟩ = true := by
    unfold fputE at h
    split at h
    · simp at h
    · rename_i hn; simpa using hn
  have hl : flen ⟨d0, d1, d2, d3, d4, d5, s0, s1, s2, s3, s4, s5, tag, pri, vid, ty, data⟩ ≤ 1522 := by
    unfold fputE at h
    split at h
    · simp at h
    · split at h
      · simp at h
      · omega
  have hlen := fbytes_len ⟨d0, d1, d2, d3, d4, d5, s0, s1, s2, s3, s4, s5, tag, pri, vid, ty, data⟩
  cases tag
  · have hb : fbytes ⟨d0, d1, d2, d3, d4, d5, s0, s1, s2, s3, s4, s5, false, pri, vid, ty, data⟩ = d0 :: d1 :: d2 :: d3 :: d4 :: d5 :: s0 :: s1 :: s2 :: s3 :: s4 :: s5 :: UInt8.ofNat (ty.toNat / 256 % 256) :: UInt8.ofNat (ty.toNat % 256) :: data := rfl
    simp [fmay] at hm
    obtain ⟨rfl, rfl, hty⟩ := hm
    have ht : ftag (fbytes ⟨d0, d1, d2, d3, d4, d5, s0, s1, s2, s3, s4, s5, false, 0, 0, ty, data⟩) = false := by
      rw [hb]
      unfold ftag
      simp
      intro h1 h2
      apply hty
      have := ty.toNat_lt
      have e := u16_dig ty
      rw [h1, h2] at e
      rw [← e]
      rfl
    have he : ftakeE (fbytes ⟨d0, d1, d2, d3, d4, d5, s0, s1, s2, s3, s4, s5, false, 0, 0, ty, data⟩) = 0 := by
      unfold ftakeE
      rw [if_neg (by rw [hlen]; omega), if_neg (by rw [hlen]; simp [flen]), if_pos ht]
    refine ⟨he, ?_⟩
    unfold ftakeF fofb
    rw [if_pos he, ht, hb]
    simp [u16_dig]
  · have hb : fbytes ⟨d0, d1, d2, d3, d4, d5, s0, s1, s2, s3, s4, s5, true, pri, vid, ty, data⟩ = d0 :: d1 :: d2 :: d3 :: d4 :: d5 :: s0 :: s1 :: s2 :: s3 :: s4 :: s5 :: 129 :: 0 :: UInt8.ofNat ((pri.toNat * 8192 + vid.toNat) / 256 % 256) :: UInt8.ofNat ((pri.toNat * 8192 + vid.toNat) % 256) :: UInt8.ofNat (ty.toNat / 256 % 256) :: UInt8.ofNat (ty.toNat % 256) :: data := rfl
    simp [fmay] at hm
    have ht : ftag (fbytes ⟨d0, d1, d2, d3, d4, d5, s0, s1, s2, s3, s4, s5, true, pri, vid, ty, data⟩) = true := by
      rw [hb]; rfl
    have h14 : (UInt8.ofNat ((pri.toNat * 8192 + vid.toNat) / 256 % 256)).toNat = pri.toNat * 32 + vid.toNat / 256 := by simp; omega
    have h15 : (UInt8.ofNat ((pri.toNat * 8192 + vid.toNat) % 256)).toNat = vid.toNat % 256 := by simp; omega
    have he : ftakeE (fbytes ⟨d0, d1, d2, d3, d4, d5, s0, s1, s2, s3, s4, s5, true, pri, vid, ty, data⟩) = 0 := by
      unfold ftakeE
      rw [if_neg (by rw [hlen]; omega), if_neg (by rw [hlen]; simp [flen]; omega), if_neg (by rw [ht]; simp), if_neg (by rw [hlen]; simp [flen]; omega), if_neg (by
        rw [hb]
        simp only [List.getD_cons_succ, List.getD_cons_zero]
        rw [h14]
        omega), if_neg (by rw [hlen]; simp [flen])]
    refine ⟨he, ?_⟩
    unfold ftakeF fofb
    rw [if_pos he, ht, if_pos rfl, hb]
    simp only [List.getD_cons_succ, List.getD_cons_zero, List.drop_succ_cons, List.drop_zero]
    rw [h14, h15, u16_dig]
    have hp : UInt8.ofNat ((pri.toNat * 32 + vid.toNat / 256) / 32) = pri := by
      rw [show (pri.toNat * 32 + vid.toNat / 256) / 32 = pri.toNat by omega]
      simp
    have hv : UInt16.ofNat ((pri.toNat * 32 + vid.toNat / 256) % 16 * 256 + vid.toNat % 256) = vid := by
      rw [show (pri.toNat * 32 + vid.toNat / 256) % 16 * 256 + vid.toNat % 256 = vid.toNat by omega]
      simp
    rw [hp, hv]
/-- bytes that are taken are put as themselves -/
theorem put_take (s : List UInt8) (h : ftakeE s = 0) : fputE (ftakeF s) = 0 ∧ fbytes (ftakeF s) = s := by
  have hF : ftakeF s = fofb s := by unfold ftakeF; rw [if_pos h]
  rw [hF]
  unfold ftakeE at h
  split at h
  · simp at h
  rename_i h0
  split at h
  · simp at h
  rename_i h1
  split at h
  · rename_i ht
    obtain ⟨x0, x1, x2, x3, x4, x5, x6, x7, x8, x9, x10, x11, x12, x13, r, rfl⟩ := list14 (l := s) (by omega)
    unfold fofb
    rw [ht]
    simp only [Bool.false_eq_true, if_false, List.getD_cons_succ, List.getD_cons_zero, List.drop_succ_cons, List.drop_zero]
    have hb : fbytes ⟨x0, x1, x2, x3, x4, x5, x6, x7, x8, x9, x10, x11, false, 0, 0, u16of x12 x13, r⟩ = x0 :: x1 :: x2 :: x3 :: x4 :: x5 :: x6 :: x7 :: x8 :: x9 :: x10 :: x11 :: x12 :: x13 :: r := by
      unfold fbytes fhead Fr.dst Fr.src
      simp only [Bool.false_eq_true, if_false]
      rw [dig_u16]
      rfl
    have hty : u16of x12 x13 ≠ 33024 := by
      intro e
      have e2 := congrArg UInt16.toNat e
      rw [u16of_nat] at e2
      have e3 : (33024 : UInt16).toNat = 33024 := rfl
      have hb1 := x12.toNat_lt
      have hb2 := x13.toNat_lt
      have a1 : x12 = 129 := by apply UInt8.toNat_inj.1; show x12.toNat = 129; omega
      have a2 : x13 = 0 := by apply UInt8.toNat_inj.1; show x13.toNat = 0; omega
      subst a1 a2
      simp [ftag] at ht
    refine ⟨?_, hb⟩
    have hl := fbytes_len ⟨x0, x1, x2, x3, x4, x5, x6, x7, x8, x9, x10, x11, false, 0, 0, u16of x12 x13, r⟩
    rw [hb] at hl
    unfold fputE
    rw [if_neg (by simp [fmay, hty]), if_neg (by omega)]
  rename_i ht
  split at h
  · simp at h
  rename_i h2
  split at h
  · simp at h
  rename_i h3
  split at h
  · simp at h
  rename_i h4
  obtain ⟨x0, x1, x2, x3, x4, x5, x6, x7, x8, x9, x10, x11, x12, x13, x14, x15, x16, x17, r, rfl⟩ := list18 (l := s) (by omega)
  have ht' : ftag (x0 :: x1 :: x2 :: x3 :: x4 :: x5 :: x6 :: x7 :: x8 :: x9 :: x10 :: x11 :: x12 :: x13 :: x14 :: x15 :: x16 :: x17 :: r) = true := by simpa using ht
  unfold fofb
  rw [ht', if_pos rfl]
  simp only [List.getD_cons_succ, List.getD_cons_zero, List.drop_succ_cons, List.drop_zero] at h3 ⊢
  have hx14 := x14.toNat_lt
  have hx15 := x15.toNat_lt
  have hp : (UInt8.ofNat (x14.toNat / 32)).toNat = x14.toNat / 32 := by simp; omega
  have hv : (UInt16.ofNat (x14.toNat % 16 * 256 + x15.toNat)).toNat = x14.toNat % 16 * 256 + x15.toNat := by simp; omega
  have ht2 : x12 = 129 ∧ x13 = 0 := by simpa [ftag] using ht'
  obtain ⟨rfl, rfl⟩ := ht2
  have hb : fbytes ⟨x0, x1, x2, x3, x4, x5, x6, x7, x8, x9, x10, x11, true, UInt8.ofNat (x14.toNat / 32), UInt16.ofNat (x14.toNat % 16 * 256 + x15.toNat), u16of x16 x17, r⟩ = x0 :: x1 :: x2 :: x3 :: x4 :: x5 :: x6 :: x7 :: x8 :: x9 :: x10 :: x11 :: 129 :: 0 :: x14 :: x15 :: x16 :: x17 :: r := by
    unfold fbytes fhead Fr.dst Fr.src
    simp only [if_true]
    rw [dig_u16, hp, hv, show x14.toNat / 32 * 8192 + (x14.toNat % 16 * 256 + x15.toNat) = (u16of x14 x15).toNat by rw [u16of_nat]; omega, dig_u16]
    rfl
  refine ⟨?_, hb⟩
  have hl := fbytes_len ⟨x0, x1, x2, x3, x4, x5, x6, x7, x8, x9, x10, x11, true, UInt8.ofNat (x14.toNat / 32), UInt16.ofNat (x14.toNat % 16 * 256 + x15.toNat), u16of x16 x17, r⟩
  rw [hb] at hl
  unfold fputE
  rw [if_neg (by simp only [fmay, if_true, hp, hv]; simp; omega), if_neg (by omega)]
end Go.Proofs.Ytkmdgpfaaniibaa


/- Frames: small words on their cells. -/
namespace Go.Proofs.Ytkmdgpfaaniibaa
open Go.RowKit
set_option linter.unusedVariables false
set_option linter.unusedSimpArgs false
set_option maxRecDepth 100000

theorem fmay_tag (f : Fr) (h : f.tag = true) : fmay f = (decide (f.pri.toNat ≤ 7) && decide (f.vid.toNat ≤ 4095)) := by unfold fmay; rw [h]; rfl
theorem fmay_bare (f : Fr) (h : f.tag = false) : fmay f = ((f.pri == 0) && ((f.vid == 0) && (f.ty != 33024))) := by unfold fmay; rw [h]; rfl
theorem FrC.dst {w : World} {g : Nat} {f : Fr} (h : FrC w g f) (c : Nat) : Str w (.slice (some ⟨g, 0, none⟩) 6 c) f.dst := by
  refine ⟨_, c, rfl, by simp, fun _ => ⟨_, rfl, fun k u hu => ?_⟩⟩
  match k, hu with
  | 0, hu => cases hu; exact h.c0
  | 1, hu => cases hu; exact h.c1
  | 2, hu => cases hu; exact h.c2
  | 3, hu => cases hu; exact h.c3
  | 4, hu => cases hu; exact h.c4
  | 5, hu => cases hu; exact h.c5
theorem FrC.src {w : World} {g : Nat} {f : Fr} (h : FrC w g f) (c : Nat) : Str w (.slice (some ⟨g, 6, none⟩) 6 c) f.src := by
  refine ⟨_, c, rfl, by simp, fun _ => ⟨_, rfl, fun k u hu => ?_⟩⟩
  match k, hu with
  | 0, hu => cases hu; exact h.c6
  | 1, hu => cases hu; exact h.c7
  | 2, hu => cases hu; exact h.c8
  | 3, hu => cases hu; exact h.c9
  | 4, hu => cases hu; exact h.c10
  | 5, hu => cases hu; exact h.c11
theorem FrC.drewN {w : World} {g : Nat} {f : Fr} (h : FrC w g f) (n : Nat) : FrC (w.drewN n) g f := ⟨h.c0, h.c1, h.c2, h.c3, h.c4, h.c5, h.c6, h.c7, h.c8, h.c9, h.c10, h.c11, h.c12, h.c13, h.c14, h.c15, h.c16⟩
theorem keep1 {w w' : World} {p : Addr} {v : Value} (h : w.cell? p = some v) (hb : Below w.heap.size w w') : w'.cell? p = some v := by
  have hg := World.block_lt_of_cell? w _ h
  rw [hb.cell (p := p) hg]; exact h
theorem keepB {W w w' : World} (hB : Hid (Below W.heap.size W w)) (hb : Below w.heap.size w w') : Hid (Below W.heap.size W w') := Lib.hid (hB.out.trans (hb.mono hB.out.size))
theorem below_drewN {B : Nat} {a w : World} (h : Below B a w) (n : Nat) : Below B a (w.drewN n) := ⟨h.os, h.tape, h.output, h.size, h.block⟩
end Go.Proofs.Ytkmdgpfaaniibaa


/- package cfm: when, first, Put, Head, Of. -/
namespace Go.Proofs.Ytkmdgpfaaniibaa
open Go.RowKit
set_option linter.unusedVariables false
set_option linter.unusedSimpArgs false
set_option maxRecDepth 100000

/-- a message as a value -/
abbrev PdV (p : Pd) (A : Option Addr) (c : Nat) : Value := .agg #[.int .u8 p.l.toNat, .int .u8 p.o.toNat, .int .u8 p.g.toNat, .string ⟨p.x.toArray⟩, .slice A p.t.length c]
/-- the first of numbers that is not 0 -/
def frst : List Int → Int
  | [] => 0
  | e :: l => if e = 0 then frst l else e
theorem frst_zero : ∀ l : List Int, (∀ y ∈ l, y = 0) → frst l = 0 := by
  intro l
  induction l with
  | nil => intro _; rfl
  | cons e l ih =>
    intro h
    unfold frst
    rw [if_pos (h e (by simp))]
    exact ih (fun y hy => h y (by simp [hy]))
theorem frst_hit : ∀ (l : List Int) (k : Nat) (x : Int), l[k]? = some x → (∀ y ∈ l.take k, y = 0) → x ≠ 0 → frst l = x := by
  intro l
  induction l with
  | nil => intro k x h; simp at h
  | cons e l ih =>
    intro k x h h0 hx
    unfold frst
    cases k with
    | zero =>
      simp at h
      subst h
      rw [if_neg hx]
    | succ k =>
      simp at h
      rw [if_pos (h0 e (by simp))]
      exact ih k x h (fun y hy => h0 y (by simp [hy])) hx
def inV (e : Int) : List Value := [.int .i64 e]
theorem in_at {w : World} {A : Option Addr} {L : List Int} {x : Int} {k : Nat} (h : Els 1 inV w A L) (hx : L[k]? = some x) : ∃ b off, A = some ⟨b, off, none⟩ ∧ b < w.heap.size ∧ w.cell? ⟨b, off + k, none⟩ = some (.int .i64 x) := by
  obtain ⟨hk, rfl⟩ := List.getElem?_eq_some_iff.1 hx
  obtain ⟨b, off, e, hlt, hc⟩ := h (by omega)
  exact ⟨b, off, e, hlt, by have := hc k hk 0 _ rfl; simpa using this⟩
theorem ins_new (w : World) (t : TypeId) (l : List Int) (cs : Array Value) (h : cs = (l.map (fun e => Value.int .i64 e)).toArray) : Els 1 inV (w.alloc (.cells cs t)) (some ⟨w.heap.size, 0, none⟩) l := by
  subst h
  intro _
  refine ⟨_, 0, rfl, by simp, fun i hi j v hv => ?_⟩
  match j, hv with
  | 0, hv =>
    simp [inV] at hv
    subst hv
    rw [show 0 + i * 1 + 0 = i by omega, (Blk.new w t _).cell i]
    simp [hi]
theorem pd_frst (p : Pd) : frst [if decide ((7 : Int) < (p.l.toNat : Int)) then 2 else 0, if decide ((255 : Int) < (p.x.length : Int)) then 5 else 0, (tlE p.t : Nat)] = (pdE p : Nat) := by
  unfold pdE
  by_cases h1 : 7 < p.l.toNat
  · have : (7 : Int) < (p.l.toNat : Int) := by omega
    simp [frst, h1, this]
  · have h1' : ¬ (7 : Int) < (p.l.toNat : Int) := by omega
    by_cases h2 : 255 < p.x.length
    · have : (255 : Int) < (p.x.length : Int) := by omega
      simp [frst, h1, h1', h2, this]
    · have h2' : ¬ (255 : Int) < (p.x.length : Int) := by omega
      simp only [frst, h1, h1', h2, h2', decide_false, if_false, Bool.false_eq_true, if_true]
      split
      · rename_i h; rw [h]
      · rfl
theorem byt_four (w : World) (t : TypeId) (a b c d : UInt8) : Byt (w.alloc (.cells #[.int .u8 a.toNat, .int .u8 b.toNat, .int .u8 c.toNat, .int .u8 d.toNat] t)) (some ⟨w.heap.size, 0, none⟩) [a, b, c, d] := by
  intro _
  refine ⟨_, rfl, fun j u hu => ?_⟩
  have hadd : (⟨w.heap.size, 0, none⟩ : Addr).add j = ⟨w.heap.size, j, none⟩ := by unfold Addr.add; split <;> simp_all
  rw [hadd, (Blk.new w t _).cell j]
  simpa [bvals, bval] using hu
theorem conv_four (w : World) (a b c d : UInt8) :
    (convert 53 9 (.slice (some ⟨w.heap.size, 0, none⟩) 4 4)).run Try.prog (w.alloc (.cells #[.int .u8 a.toNat, .int .u8 b.toNat, .int .u8 c.toNat, .int .u8 d.toNat] 5)) = .ok (.string ⟨#[a, b, c, d]⟩) (w.alloc (.cells #[.int .u8 a.toNat, .int .u8 b.toNat, .int .u8 c.toNat, .int .u8 d.toNat] 5)) :=
  Str.conv (l := [a, b, c, d]) ⟨some ⟨w.heap.size, 0, none⟩, 4, rfl, (fun h => nomatch h), byt_four w 5 a b c d⟩
theorem byteC (l : List UInt8) (i : Nat) (h : i < (⟨l.toArray⟩ : ByteArray).size) : (⟨l.toArray⟩ : ByteArray)[i]'h = l.getD i 0 := by
  have h' : i < l.length := h
  show l.toArray[i] = _
  rw [List.getElem_toArray, List.getD_eq_getElem?_getD, List.getElem?_eq_getElem h']
  rfl
end Go.Proofs.Ytkmdgpfaaniibaa


/- Layer 13: checks as values, held against each other, as arguments. -/
namespace Go.Proofs.Ytkmdgpfaaniibaa
open Go.ChangeShapes Go.WideShapes Go.ChangeAt Go.RowKit
set_option linter.unusedVariables false
set_option linter.unusedSimpArgs false
set_option maxRecDepth 100000

/-- a check as a value -/
abbrev CkV (c : Ck) : Value := .agg #[.int .u8 c.l.toNat, .bool c.r, .int .u8 c.i.toNat, .int .u32 c.q.toNat, .int .u16 c.m.toNat, .string ⟨c.a.toArray⟩]
theorem ck_same (x y : Ck) : ((x.l == y.l) && ((x.r == y.r) && ((x.i == y.i) && ((x.q == y.q) && ((x.m == y.m) && ((x.a == y.a) && true)))))) = decide (x = y) := by
  obtain ⟨a, b, c, d, e, f⟩ := x
  obtain ⟨a', b', c', d', e', f'⟩ := y
  rw [Bool.eq_iff_iff]
  simp
theorem run_eqCk (x y : Ck) (w : World) : (Op.equalIn 10000 44 (CkV x) (CkV y)).run Try.prog w = .ok (decide (x = y)) w := by
  have h0 := run_equalIn_int (P := Try.prog) w 9998 5 .u8 .u8 (x.l.toNat : Int) (y.l.toNat : Int) Try.underlying5
  have h1 := run_equalIn_bool' (P := Try.prog) w 9998 4 x.r y.r Try.underlying4
  have h2 := run_equalIn_int (P := Try.prog) w 9998 5 .u8 .u8 (x.i.toNat : Int) (y.i.toNat : Int) Try.underlying5
  have h3 := run_equalIn_int (P := Try.prog) w 9998 38 .u32 .u32 (x.q.toNat : Int) (y.q.toNat : Int) Try.underlying38
  have h4 := run_equalIn_int (P := Try.prog) w 9998 22 .u16 .u16 (x.m.toNat : Int) (y.m.toNat : Int) Try.underlying22
  have h5 := run_equalIn_string (P := Try.prog) w 9998 9 ⟨x.a.toArray⟩ ⟨y.a.toArray⟩ Try.underlying9
  rw [tl_eqI] at h0 h2
  rw [ck_u32] at h3
  rw [ck_u16] at h4
  rw [tl_strbeq] at h5
  rw [run_equalIn_struct w 9999 44 _ _ (by rw [Program.fieldsOf, Try.underlying44]) (by kernel_rfl)]
  simp only [Program.fieldsOf, Try.underlying44]
  rw [← ck_same x y]
  refine eqs_step (by decide) (by kernel_rfl) (by kernel_rfl) h0 ?_
  refine eqs_step (by decide) (by kernel_rfl) (by kernel_rfl) h1 ?_
  refine eqs_step (by decide) (by kernel_rfl) (by kernel_rfl) h2 ?_
  refine eqs_step (by decide) (by kernel_rfl) (by kernel_rfl) h3 ?_
  refine eqs_step (by decide) (by kernel_rfl) (by kernel_rfl) h4 ?_
  refine eqs_step (by decide) (by kernel_rfl) (by kernel_rfl) h5 ?_
  exact eqs_nil
/-- a check as an argument -/
theorem open_ckR {H : Type} {enc : TypeId × Value → H} {W : World} {base : Nat} {v : Value} {d : DataW H} {pl : List MemPlace} (o : Value.okWide Try.prog W .any base 40 v) (h : DataW.Trod enc Try.prog W 0 (fun _ => true) true 40 v d pl) :
    ∃ c : Ck, v = CkV c := by
  have hs := Try.underlying40
  obtain ⟨l, fuel, x, rfl, hl, hx⟩ := open_struct hs o h
  obtain ⟨n0, e0, w0⟩ := trod_fldInt hs hx 0 _ rfl (k := .u8) Try.underlying5 (by kernel_rfl)
  obtain ⟨r1, e1⟩ := trod_fldBool hs hx 1 _ rfl Try.underlying4 (by kernel_rfl)
  obtain ⟨n2, e2, w2⟩ := trod_fldInt hs hx 2 _ rfl (k := .u8) Try.underlying5 (by kernel_rfl)
  obtain ⟨n3, e3, w3⟩ := trod_fldInt hs hx 3 _ rfl (k := .u32) Try.underlying38 (by kernel_rfl)
  obtain ⟨n4, e4, w4⟩ := trod_fldInt hs hx 4 _ rfl (k := .u16) Try.underlying22 (by kernel_rfl)
  obtain ⟨f5, y5, h5'⟩ := trod_fld hs hx 5 _ rfl
  have h5 : DataW.trod enc Try.prog W 0 (fun _ => true) true f5 9 ((l.drop 5).take (Try.prog.cellsOf 9)) = some y5 := h5'
  replace e0 : l[0]? = some (.int .u8 n0) := e0
  replace e1 : l[1]? = some (.bool r1) := e1
  replace e2 : l[2]? = some (.int .u8 n2) := e2
  replace e3 : l[3]? = some (.int .u32 n3) := e3
  replace e4 : l[4]? = some (.int .u16 n4) := e4
  clear h5'
  have c5 : Try.prog.cellsOf 9 = 1 := by kernel_rfl
  have hl6 : l.length = 6 := hl.trans (by kernel_rfl)
  match l, hl6 with
  | [u0, u1, u2, u3, u4, u5], _ =>
    simp at e0 e1 e2 e3 e4
    subst e0 e1 e2 e3 e4
    obtain ⟨v0, rfl⟩ := u8_ofL w0
    obtain ⟨v2, rfl⟩ := u8_ofL w2
    obtain ⟨v3, rfl⟩ := u32_ofC w3
    obtain ⟨v4, rfl⟩ := u16_ofC w4
    simp only [c5, List.drop_succ_cons, List.drop_zero, List.take_succ_cons, List.take_zero] at h5
    obtain ⟨s, es, _, _⟩ := DataW.trod_string Try.underlying9 h5
    simp at es
    subst es
    obtain ⟨⟨X⟩⟩ := s
    exact ⟨⟨v0, r1, v2, v3, v4, X⟩, rfl⟩
/-- a check as an argument -/
theorem open_ckP {H : Type} {enc : TypeId × Value → H} {W : World} {base : Nat} {v : Value} {d : DataW H} {pl : List MemPlace} (o : Value.okWide Try.prog W .any base 44 v) (h : DataW.Trod enc Try.prog W 0 (fun _ => true) true 44 v d pl) :
    ∃ c : Ck, v = CkV c := by
  have hs := Try.underlying44
  obtain ⟨l, fuel, x, rfl, hl, hx⟩ := open_struct hs o h
  obtain ⟨n0, e0, w0⟩ := trod_fldInt hs hx 0 _ rfl (k := .u8) Try.underlying5 (by kernel_rfl)
  obtain ⟨r1, e1⟩ := trod_fldBool hs hx 1 _ rfl Try.underlying4 (by kernel_rfl)
  obtain ⟨n2, e2, w2⟩ := trod_fldInt hs hx 2 _ rfl (k := .u8) Try.underlying5 (by kernel_rfl)
  obtain ⟨n3, e3, w3⟩ := trod_fldInt hs hx 3 _ rfl (k := .u32) Try.underlying38 (by kernel_rfl)
  obtain ⟨n4, e4, w4⟩ := trod_fldInt hs hx 4 _ rfl (k := .u16) Try.underlying22 (by kernel_rfl)
  obtain ⟨f5, y5, h5'⟩ := trod_fld hs hx 5 _ rfl
  have h5 : DataW.trod enc Try.prog W 0 (fun _ => true) true f5 9 ((l.drop 5).take (Try.prog.cellsOf 9)) = some y5 := h5'
  replace e0 : l[0]? = some (.int .u8 n0) := e0
  replace e1 : l[1]? = some (.bool r1) := e1
  replace e2 : l[2]? = some (.int .u8 n2) := e2
  replace e3 : l[3]? = some (.int .u32 n3) := e3
  replace e4 : l[4]? = some (.int .u16 n4) := e4
  clear h5'
  have c5 : Try.prog.cellsOf 9 = 1 := by kernel_rfl
  have hl6 : l.length = 6 := hl.trans (by kernel_rfl)
  match l, hl6 with
  | [u0, u1, u2, u3, u4, u5], _ =>
    simp at e0 e1 e2 e3 e4
    subst e0 e1 e2 e3 e4
    obtain ⟨v0, rfl⟩ := u8_ofL w0
    obtain ⟨v2, rfl⟩ := u8_ofL w2
    obtain ⟨v3, rfl⟩ := u32_ofC w3
    obtain ⟨v4, rfl⟩ := u16_ofC w4
    simp only [c5, List.drop_succ_cons, List.drop_zero, List.take_succ_cons, List.take_zero] at h5
    obtain ⟨s, es, _, _⟩ := DataW.trod_string Try.underlying9 h5
    simp at es
    subst es
    obtain ⟨⟨X⟩⟩ := s
    exact ⟨⟨v0, r1, v2, v3, v4, X⟩, rfl⟩
end Go.Proofs.Ytkmdgpfaaniibaa


/- package maid's isName: a range over a string. -/
namespace Go.Proofs.Ytkmdgpfaaniibaa
open Go.RowKit
set_option linter.unusedVariables false
set_option linter.unusedSimpArgs false
set_option maxRecDepth 100000

theorem byteM (l : List UInt8) (i : Nat) (h : i < (⟨l.toArray⟩ : ByteArray).size) : (⟨l.toArray⟩ : ByteArray)[i]'h = l.getD i 0 := by
  have hi : i < l.length := h
  show l[i]'hi = _
  simp [List.getD, hi]
theorem all_step {l : List UInt8} {k : Nat} (h : k < l.length) (h1 : (l.take k).all nmB = true) (h2 : nmB (l.getD k 0) = true) : (l.take (k + 1)).all nmB = true := by
  have e : l.take (k + 1) = l.take k ++ [l.getD k 0] := by
    rw [← List.take_append_getElem h]
    simp [List.getD, h]
  rw [e, List.all_append, h1]
  simpa using h2
theorem all_not {l : List UInt8} {k : Nat} (h : k < l.length) (h2 : nmB (l.getD k 0) = false) : l.all nmB = false := by
  rw [List.all_eq_false]
  refine ⟨l.getD k 0, ?_, by rw [h2]; decide⟩
  simp [List.getD, h]
set_option maxHeartbeats 1000000 in
theorem isname_any (l : List UInt8) (w : World) :
    Calls Try.prog 81 #[.string ⟨l.toArray⟩] w fun e w' => e = .returned (.bool (isn l)) ∧ ∃ pos, w' = w.iter ⟨l.toArray⟩ pos := by
  obtain ⟨s, hs⟩ : ∃ s : ByteArray, s = ⟨l.toArray⟩ := ⟨_, rfl⟩
  have hsz : s.size = l.length := by rw [hs]; rfl
  have hat : ∀ i (h : i < s.size), s[i]'h = l.getD i 0 := by subst hs; exact byteM l
  rw [← hs]
  have HS := Lib.hid hs
  clear hs
  go_enter Try.func81, Try.ntmps81
  go_wp2
  go_loopw [] (fun wr => ∃ pos : Nat, wr = w.iter s pos ∧ Hid (pos ≤ l.length ∧ (l.take pos).all nmB = true)) (fun wr => s.size - wr.iterPos w.heap.size)
  case atStart => exact ⟨0, rfl, Lib.hid ⟨Nat.zero_le _, by simp⟩⟩
  case round =>
    obtain ⟨pos, rfl, HP⟩ := hrel
    by_cases hp : pos < s.size
    · obtain ⟨x, hx⟩ : ∃ x, l.getD pos 0 = x := ⟨_, rfl⟩
      have hpl : pos < l.length := by rw [← hsz]; exact hp
      by_cases hb : nmB x = true
      · have h12 : 32 ≤ x.toNat ∧ x.toNat ≤ 126 := by simpa [nmB] using hb
        have hnx : ∀ ty, (Instr.next (.pointer (some ⟨w.heap.size, 0, none⟩)) true ty).run Try.prog (w.iter s pos) = .ok (.tuple #[.bool true, .int .i64 pos, .int .i32 x.toNat]) (w.iter s (pos + 1)) := fun ty => by
          rw [run_next_ascii w s pos ty hp (by rw [hat, hx]; omega), hat, hx]
        have d1 : ¬ (x.toNat : Int) < 32 := by omega
        have d2 : ¬ (126 : Int) < (x.toNat : Int) := by omega
        have HQ : Hid (pos + 1 ≤ l.length ∧ (l.take (pos + 1)).all nmB = true) := Lib.hid ⟨hpl, all_step hpl HP.out.2 (by rw [hx]; exact hb)⟩
        go_wp2
        go_roundw
        case rel => exact ⟨pos + 1, rfl, HQ⟩
        case measure => simp; omega
      · have hbf : nmB x = false := by simpa using hb
        have hall : isn l = false := by unfold isn; rw [all_not hpl (by rw [hx]; exact hbf)]; rfl
        have HA := Lib.hid hall
        clear hall hb
        by_cases ha : x.toNat < 128
        · have hnx : ∀ ty, (Instr.next (.pointer (some ⟨w.heap.size, 0, none⟩)) true ty).run Try.prog (w.iter s pos) = .ok (.tuple #[.bool true, .int .i64 pos, .int .i32 x.toNat]) (w.iter s (pos + 1)) := fun ty => by
            rw [run_next_ascii w s pos ty hp (by rw [hat, hx]; omega), hat, hx]
          by_cases d1 : (x.toNat : Int) < 32
          · go_wp2
            go_ret
            exact ⟨by rw [HA.out]; rfl, _, rfl⟩
          · have d2 : (126 : Int) < (x.toNat : Int) := by
              have : ¬ (32 ≤ x.toNat ∧ x.toNat ≤ 126) := by intro h; simp [nmB, h] at hbf
              omega
            go_wp2
            go_ret
            exact ⟨by rw [HA.out]; rfl, _, rfl⟩
        · have hh := decode_high s pos hp (by rw [hat, hx]; omega)
          have hnx : ∀ ty, (Instr.next (.pointer (some ⟨w.heap.size, 0, none⟩)) true ty).run Try.prog (w.iter s pos) = _ := fun ty => run_next_any w s pos ty hp
          obtain ⟨q, hq⟩ : ∃ q, Utf8.decode s pos = q := ⟨_, rfl⟩
          rw [hq] at hnx hh
          have d1 : ¬ (q.1 : Int) < 32 := by omega
          have d2 : (126 : Int) < (q.1 : Int) := by omega
          clear hh hq
          go_wp2
          go_ret
          exact ⟨by rw [HA.out]; rfl, _, rfl⟩
    · have hnx : ∀ ty, (Instr.next (.pointer (some ⟨w.heap.size, 0, none⟩)) true ty).run Try.prog (w.iter s pos) = _ := fun ty => run_next_end w s pos ty hp
      have hpe : pos = l.length := by have := HP.out.1; omega
      have hall := HP.out.2
      rw [hpe, List.take_length] at hall
      have HA := Lib.hid hall
      have hne : (l.isEmpty) = decide (s.size = 0) := by
        rw [hsz]
        cases l <;> simp
      clear hall hpe
      go_wp2
      go_ret
      refine ⟨?_, _, rfl⟩
      unfold isn
      rw [HA.out]
      rw [HS.out]
      cases l <;> simp
theorem below_iter (w : World) (s : ByteArray) (pos : Nat) : Below w.heap.size w (w.iter s pos) := (Below.refl _ _).alloc (Nat.le_refl _) _
end Go.Proofs.Ytkmdgpfaaniibaa


/- Layer 10: the document's own name and Put. -/
namespace Go.Proofs.Ytkmdgpfaaniibaa
open Go.RowKit
set_option linter.unusedVariables false
set_option linter.unusedSimpArgs false
set_option maxRecDepth 100000

theorem refname_any (l : List UInt8) (none_ : Bool) (w : World) (hlm : l.length ≤ 1000000) :
    Calls Try.prog 41 #[.string ⟨l.toArray⟩, .bool none_] w fun e w' => e = .returned (.bool (l.all nmB && (none_ || !l.isEmpty))) ∧ w = w' := by
  obtain ⟨s, hs⟩ : ∃ s : ByteArray, s = ⟨l.toArray⟩ := ⟨_, rfl⟩
  have hsz : s.size = l.length := by rw [hs]; rfl
  have hat : ∀ i (h : i < s.size), s[i]'h = l.getD i 0 := by subst hs; exact byteM l
  rw [← hs]
  have HS := Lib.hid hs
  have HAT := Lib.hid hat
  clear hs hat
  go_enter Try.func41, Try.ntmps41
  go_wp2
  go_loop [5] (fun v => ∃ pos : Nat, v = .int .i64 pos ∧ Hid (pos ≤ l.length ∧ (l.take pos).all nmB = true)) (fun v => l.length - (intOf v).toNat)
  case atStart => exact ⟨0, rfl, Lib.hid ⟨Nat.zero_le _, by simp⟩⟩
  case round =>
    obtain ⟨pos, rfl, HP⟩ := hrel
    by_cases hp : pos < s.size
    · obtain ⟨x, hx⟩ : ∃ x, l.getD pos 0 = x := ⟨_, rfl⟩
      have hpl : pos < l.length := by rw [← hsz]; exact hp
      have hxx := HAT.out pos hp
      rw [hx] at hxx
      by_cases hb : nmB x = true
      · have h12 : 32 ≤ x.toNat ∧ x.toNat ≤ 126 := by simpa [nmB] using hb
        have d1 : ¬ (x.toNat : Int) < 32 := by omega
        have d2 : ¬ (126 : Int) < (x.toNat : Int) := by omega
        have HQ : Hid (pos + 1 ≤ l.length ∧ (l.take (pos + 1)).all nmB = true) := Lib.hid ⟨hpl, all_step hpl HP.out.2 (by rw [hx]; exact hb)⟩
        go_wp2
        exact ⟨⟨pos + 1, by go_num, HQ⟩, by simp [intOf]; omega⟩
      · have hbf : nmB x = false := by simpa using hb
        have hall : l.all nmB = false := all_not hpl (by rw [hx]; exact hbf)
        have HA := Lib.hid hall
        clear hall hb
        by_cases d1 : (x.toNat : Int) < 32
        · go_wp2
          go_ret
          exact ⟨by rw [HA.out]; rfl, rfl⟩
        · have d2 : (126 : Int) < (x.toNat : Int) := by
            have : ¬ (32 ≤ x.toNat ∧ x.toNat ≤ 126) := by intro h; simp [nmB, h] at hbf
            omega
          go_wp2
          go_ret
          exact ⟨by rw [HA.out]; rfl, rfl⟩
    · have hpe : pos = l.length := by have := HP.out.1; omega
      have hall := HP.out.2
      rw [hpe, List.take_length] at hall
      have HA := Lib.hid hall
      clear hall hpe
      cases none_
      · by_cases hl : l = []
        · have h0 : s.size = 0 := by rw [hsz, hl]; rfl
          have HL := Lib.hid hl
          clear hl
          go_wp2
          go_ret
          exact ⟨by rw [HL.out]; rfl, rfl⟩
        · have h0 : decide (0 < l.length) = true := by simpa using List.length_pos_iff.2 hl
          have he : l.isEmpty = false := by simpa using hl
          have HE := Lib.hid he
          clear hl he
          go_wp2
          go_ret
          exact ⟨by rw [HA.out, HE.out]; first | rfl | (simp only [h0]; rfl), rfl⟩
      · go_wp2
        go_ret
        exact ⟨by rw [HA.out]; rfl, rfl⟩
end Go.Proofs.Ytkmdgpfaaniibaa


/- The document's reader (viaductref01): Text, Num. -/
namespace Go.Proofs.Ytkmdgpfaaniibaa
open Go.RowKit
set_option linter.unusedVariables false
set_option linter.unusedSimpArgs false
set_option maxRecDepth 100000

end Go.Proofs.Ytkmdgpfaaniibaa


/- The document's Num: a number's bytes as a text. -/
namespace Go.Proofs.Ytkmdgpfaaniibaa
open Go.RowKit
set_option linter.unusedVariables false
set_option linter.unusedSimpArgs false
set_option maxRecDepth 100000

theorem bcell {W w1 : World} (hb : Below W.heap.size W w1) : (∀ b o, b < W.heap.size → w1.cell? ⟨b, o, none⟩ = W.cell? ⟨b, o, none⟩) ∧ (∀ b o, b < W.heap.size → w1.frozen? ⟨b, o, none⟩ = W.frozen? ⟨b, o, none⟩) :=
  ⟨fun b o h => hb.cell (p := ⟨b, o, none⟩) h, fun b o h => hb.frozen (p := ⟨b, o, none⟩) h⟩
end Go.Proofs.Ytkmdgpfaaniibaa


/- Regions that draw their order, whose own operations only read and whose calls change no old block: one walk, in the text's order, whatever the guards. -/
namespace Go.Proofs.Ytkmdgpfaaniibaa
open Go.RowKit
set_option linter.unusedVariables false
set_option linter.unusedSimpArgs false
set_option maxRecDepth 100000

/-- a world in which all old blocks are as they were -/
structure BelW (w : World) where
  «to» : World
  h : Below w.heap.size w «to»
instance (w : World) : Inhabited (BelW w) := ⟨⟨w, Below.refl _ _⟩⟩
theorem BelW.cell {w : World} (p : BelW w) {a : Addr} {v : Value} (h : w.cell? a = some v) : p.to.cell? a = some v :=
  (p.h.cell (World.block_lt_of_cell? w _ h)).trans h
theorem BelW.calls {P : Program} {f : FuncId} {args : Array Value} {w : World} {v : Value} {p : BelW w} (h : Calls P f args p.to fun e w' => e = .returned v ∧ Below p.to.heap.size p.to w') :
    Calls P f args p.to fun e w'' => e = .returned v ∧ ∃ q : BelW w, w'' = q.to :=
  h.mono fun _ w'' ⟨he, hb⟩ => ⟨he, ⟨w'', p.h.trans (hb.mono p.h.size)⟩, rfl⟩
theorem BelW.callsE {P : Program} {f : FuncId} {args : Array Value} {w : World} {v : Value} {p : BelW w} (h : Calls P f args p.to fun e w' => e = .returned v ∧ p.to = w') :
    Calls P f args p.to fun e w'' => e = .returned v ∧ ∃ q : BelW w, w'' = q.to :=
  h.mono fun _ w'' ⟨he, hb⟩ => ⟨he, p, hb.symm⟩
theorem belw_out {w w' : World} (h : ∃ p : BelW w, w' = p.to) : Below w.heap.size w w' := by
  obtain ⟨p, rfl⟩ := h
  exact p.h
theorem wp_region_quiet_below {P : Program} {id : Nat} {Q : Exit → Act → World → Prop} {a : Act} {w : World} {l : List Oper} (hm : P.follows .mixedOrders = true) (hB : Region.lexB .any l.toArray = true)
    (h : wpQuiet P l.toArray (fun w' => ∃ p : BelW w, w' = p.to) (fun a' => ∀ w', (∃ p : BelW w, w' = p.to) → Q .normal a' w') l a) : (Code.region id l.toArray true).wp P Q a w :=
  wp_region_quiet (C := fun w' => ∃ p : BelW w, w' = p.to) hm hB ⟨⟨w.drew, (Below.refl _ w).drew⟩, rfl⟩ (by simpa using h)
end Go.Proofs.Ytkmdgpfaaniibaa


/- Layer 18, the program: maps from numbers to what is heard of them. -/
namespace Go.Proofs.Ytkmdgpfaaniibaa
open Go.RowKit
open Go.Maps (Keyed)
set_option linter.unusedVariables false
set_option linter.unusedSimpArgs false
set_option maxRecDepth 100000

/-- another one: its number, for how many ticks it lasts yet, whether it tells of a defect -/
structure Vn where
  v : UInt16
  m : Nat
  u : Bool
def vhas (L : List Vn) (v : UInt16) : Bool := L.any fun x => x.v == v
def vfind (L : List Vn) (v : UInt16) : Option Vn := L.find? fun x => x.v == v
def vm (L : List Vn) (v : UInt16) : Nat := match vfind L v with | some x => x.m | none => 0
def vu (L : List Vn) (v : UInt16) : Bool := match vfind L v with | some x => x.u | none => false
def vdel (L : List Vn) (v : UInt16) : List Vn := L.filter fun x => !(x.v == v)
def vins (x : Vn) : List Vn → List Vn
  | [] => [x]
  | y :: r => if x.v.toNat < y.v.toNat then x :: y :: r else y :: vins x r
def vput (L : List Vn) (x : Vn) : List Vn := vins x (vdel L x.v)
/-- rising -/
def Ris (L : List Vn) : Prop := L.Pairwise fun x y => x.v.toNat < y.v.toNat
theorem vins_mem {x y : Vn} : ∀ {L : List Vn}, y ∈ vins x L ↔ y = x ∨ y ∈ L
  | [] => by simp [vins]
  | z :: r => by
    unfold vins
    split
    · simp
    · simp [vins_mem (L := r)]
      constructor <;> (rintro (h | h | h) <;> simp [h])
theorem vins_ris {x : Vn} : ∀ {L : List Vn}, Ris L → (∀ y ∈ L, y.v ≠ x.v) → Ris (vins x L)
  | [], _, _ => by simp [vins, Ris]
  | y :: r, h, hn => by
    obtain ⟨h1, h2⟩ := List.pairwise_cons.1 h
    unfold vins
    split
    · rename_i hb
      exact List.pairwise_cons.2 ⟨fun q hq => by
        rcases List.mem_cons.1 hq with rfl | hq
        · exact hb
        · exact Nat.lt_trans hb (h1 q hq), h⟩
    · rename_i hb
      refine List.pairwise_cons.2 ⟨fun q hq => ?_, vins_ris h2 (fun z hz => hn z (by simp [hz]))⟩
      rcases vins_mem.1 hq with rfl | hq
      · have := hn y (by simp)
        have : y.v.toNat ≠ q.v.toNat := fun e => this (UInt16.toNat_inj.1 e)
        omega
      · exact h1 q hq
theorem vdel_ris {L : List Vn} (v : UInt16) (h : Ris L) : Ris (vdel L v) := List.Pairwise.filter _ h
theorem vput_ris {L : List Vn} (x : Vn) (h : Ris L) : Ris (vput L x) := vins_ris (vdel_ris _ h) (fun y hy => by
  have := (List.mem_filter.1 hy).2
  simpa using this)
theorem vins_len (x : Vn) : ∀ L : List Vn, (vins x L).length = L.length + 1
  | [] => rfl
  | y :: r => by
    unfold vins
    split
    · simp
    · simp [vins_len x r]
theorem vdel_le (L : List Vn) (v : UInt16) : (vdel L v).length ≤ L.length := List.length_filter_le _ _
theorem vdel_lt {L : List Vn} {v : UInt16} (h : vhas L v = true) : (vdel L v).length < L.length := by
  unfold vdel
  refine List.length_filter_lt_length_iff_exists.2 ?_
  obtain ⟨x, hx, hv⟩ := List.any_eq_true.1 h
  exact ⟨x, hx, by simp [hv]⟩
theorem vput_le {L : List Vn} {x : Vn} (h : vhas L x.v = true ∨ L.length < 8) (h8 : L.length ≤ 8) : (vput L x).length ≤ 8 := by
  unfold vput
  rw [vins_len]
  rcases h with h | h
  · have := vdel_lt h; omega
  · have := vdel_le L x.v; omega
theorem vfind_none {L : List Vn} {v : UInt16} : vfind L v = none ↔ vhas L v = false := by
  unfold vfind vhas
  rw [List.find?_eq_none, List.any_eq_false]
theorem vm_none {L : List Vn} {v : UInt16} (h : vhas L v = false) : vm L v = 0 := by unfold vm; rw [vfind_none.2 h]
theorem vu_none {L : List Vn} {v : UInt16} (h : vhas L v = false) : vu L v = false := by unfold vu; rw [vfind_none.2 h]

/-- as a map reads -/
abbrev D0 := DataW Unit
def encS (m : Int) (u : Bool) : D0 := .agg [.lit (.int .i64 m), .lit (.bool u)]
def setsR : Value → Option (D0 × List MemPlace)
  | .agg ⟨[.int .i64 m, .bool u]⟩ => some (encS m u, [])
  | _ => none
theorem setsR_mk (m : Int) (u : Bool) : setsR (.agg #[.int .i64 m, .bool u]) = some (encS m u, []) := rfl
theorem setsR_inv {v : Value} {y : D0 × List MemPlace} (h : setsR v = some y) : ∃ m u, v = .agg #[.int .i64 m, .bool u] ∧ y = (encS m u, []) := by
  unfold setsR at h
  split at h
  · cases h; exact ⟨_, _, rfl, rfl⟩
  · cases h
theorem encS_inj {a c : Int} {b d : Bool} (h : encS a b = encS c d) : a = c ∧ b = d := by
  unfold encS at h
  simp only [DataW.agg.injEq, List.cons.injEq, DataW.lit.injEq, Lit.int.injEq, Lit.bool.injEq, and_true, true_and] at h
  exact h
def kL (v : UInt16) : Lit := .int .u16 v.toNat
def encE (x : Vn) : Lit × D0 := (kL x.v, encS x.m x.u)
def encL (L : List Vn) : D0 := .map (L.map encE)
theorem kL_same (a b : UInt16) : (kL a).sameKey (kL b) = (a == b) := by
  unfold kL Lit.sameKey
  rw [Bool.eq_iff_iff]
  simp only [true_and, decide_eq_true_eq, beq_iff_eq]
  exact ⟨fun e => UInt16.toNat_inj.1 (by omega), fun e => by rw [e]⟩
theorem kL_before (a b : UInt16) : (kL a).before (kL b) = decide (a.toNat < b.toNat) := by
  unfold kL Lit.before
  simp
theorem insert_enc (x : Vn) : ∀ L : List Vn, DataW.insert (encE x) (L.map encE) = (vins x L).map encE
  | [] => rfl
  | y :: r => by
    simp only [List.map_cons, DataW.insert, vins]
    rw [show (encE x).1.before (encE y).1 = decide (x.v.toNat < y.v.toNat) from kL_before _ _]
    by_cases h : x.v.toNat < y.v.toNat
    · simp [h]
    · simp [h, insert_enc x r]
theorem filter_enc (v : UInt16) (L : List Vn) : (L.map encE).filter (fun p => !p.1.sameKey (kL v)) = (vdel L v).map encE := by
  unfold vdel
  rw [List.filter_map]
  congr 1
  apply List.filter_congr
  intro x _
  simp only [Function.comp, encE, kL_same]
theorem put_enc (L : List Vn) (x : Vn) : (encL L).put (kL x.v) (encS x.m x.u) = encL (vput L x) := by
  show DataW.map (DataW.insert (encE x) _) = _
  rw [filter_enc, insert_enc]
  rfl
theorem del_enc (L : List Vn) (v : UInt16) : (encL L).del (kL v) = encL (vdel L v) := by
  show DataW.map _ = _
  rw [filter_enc]
  rfl
theorem has_enc (L : List Vn) (v : UInt16) : Maps.has (encL L) (kL v) = vhas L v := by
  unfold encL vhas
  rw [Maps.has_eq, List.any_map]
  congr 1
  funext x
  simp only [Function.comp, encE, kL_same]
theorem at_enc (L : List Vn) (v : UInt16) : (encL L).atKey (kL v) (encS 0 false) = encS (vm L v) (vu L v) := by
  unfold encL DataW.atKey vm vu vfind
  simp only [List.find?_map]
  have : ((fun p : Lit × D0 => p.1.sameKey (kL v)) ∘ encE) = fun x => x.v == v := by funext x; simp only [Function.comp, encE, kL_same]
  rw [this]
  cases L.find? (fun x => x.v == v) <;> rfl
theorem size_enc (L : List Vn) : Maps.size (encL L) = L.length := by simp [encL, Maps.size]
theorem key_ok (v : UInt16) : (Lit.int .u16 (v.toNat : Int)).wf = true := by
  have h := v.toNat_lt
  have h' : v.toNat < 65536 := by simpa using h
  simp [Lit.wf, IntKind.has, IntKind.min, IntKind.max, IntKind.signed, IntKind.bits]
  omega
theorem key_law : Keyed Try.prog 22 := Maps.int_keyed Try.underlying22
theorem key_at (v : UInt16) : keyOf Try.prog 22 (.int .u16 v.toNat) = some (kL v) := Maps.keyOf_int_mk Try.underlying22 (key_ok v)
theorem map_und : Try.prog.underlying 58 = some (.map 22 63) := Try.underlying58
theorem sets_zero (w : World) : (zeroValue 63).run Try.prog w = .ok (.agg #[.int .i64 0, .bool false]) w := by kernel_rfl

/-- block b is a map that reads as L -/
def Vmap (w : World) (b : Nat) (L : List Vn) : Prop := w.ownsMap Try.prog 22 setsR b L.length (encL L)
section
variable {w w' : World} {b n : Nat} {L : List Vn}
theorem Vmap.of (h : w.ownsMap Try.prog 22 setsR b n (encL L)) : Vmap w b L := by
  obtain ⟨es, clock, hb, F, hs, hD⟩ := h
  refine ⟨es, clock, hb, F, ?_, hD⟩
  have h1 := congrArg Maps.size hD
  rw [size_enc] at h1
  simp only [Maps.size, length_sorted, List.length_map, Array.length_toList] at h1
  omega
theorem Vmap.lt (h : Vmap w b L) : b < w.heap.size := World.ownsMap.lt h
theorem Vmap.chg {S : Nat → Prop} (h : Vmap w b L) (hc : Chg S w w') (hn : ¬ S b) : Vmap w' b L := by
  have hl := h.lt
  obtain ⟨es, clock, hb, r⟩ := h
  exact ⟨es, clock, (hc.block b hl hn).trans hb, r⟩
theorem Vmap.made (w : World) : Vmap (w.alloc (.map #[] 0)) w.heap.size [] := World.ownsMap_made w _ _ _
theorem Vmap.put (h : Vmap w b L) (hl : L.length ≤ 8) (x : Vn) : ∃ w', (Instr.mapUpdate 58 (.map (some b)) (.int .u16 x.v.toNat) (.agg #[.int .i64 x.m, .bool x.u])).run Try.prog w = .ok () w' ∧ Vmap w' b (vput L x) ∧ w.mapTurned w' b := by
  obtain ⟨w', hr, ho, ht⟩ := World.ownsMap.store h key_law map_und (by unfold maxLen; omega) (key_at x.v) (setsR_mk _ _)
  rw [put_enc] at ho
  exact ⟨w', hr, Vmap.of ho, ht⟩
theorem Vmap.del (h : Vmap w b L) (v : UInt16) (ty : TypeId) : ∃ w', (Builtin.delete_ #[58, 22] ty #[.map (some b), .int .u16 v.toNat]).run Try.prog w = .ok (.tuple #[]) w' ∧ Vmap w' b (vdel L v) ∧ w.mapTurned w' b := by
  obtain ⟨w', hr, ho, ht⟩ := World.ownsMap.drop h key_law map_und (key_at v) ty
  rw [del_enc] at ho
  exact ⟨w', hr, Vmap.of ho, ht⟩
theorem Vmap.not_blk {t : TypeId} {cs : Array Value} (h : Vmap w b L) {g : Nat} (hg : Blk w g t cs) : b ≠ g := by
  rintro rfl
  obtain ⟨es, clock, hb, _⟩ := h
  rw [show w.heap[b]? = _ from hg] at hb
  cases hb
end

/-- the map of a table reads as L -/
def Vof (w : World) (mb : Option Nat) (L : List Vn) : Prop := match mb with | none => L = [] | some b => Vmap w b L
section
variable {w w' : World} {mb : Option Nat} {L : List Vn}
theorem Vof.chg {S : Nat → Prop} (h : Vof w mb L) (hc : Chg S w w') (hn : ∀ b, mb = some b → ¬ S b) : Vof w' mb L := by
  cases mb with
  | none => exact h
  | some b => exact Vmap.chg h hc (hn b rfl)
theorem Vof.run (h : Vof w mb L) (v : UInt16) (c : Bool) : (Instr.lookup 58 (.map mb) (.int .u16 v.toNat) c).run Try.prog w = .ok (if c then .tuple #[.agg #[.int .i64 (vm L v), .bool (vu L v)], .bool (vhas L v)] else .agg #[.int .i64 (vm L v), .bool (vu L v)]) w := by
  cases mb with
  | none =>
    obtain rfl : L = [] := h
    exact Maps.look_nil c key_law map_und (sets_zero w) (key_at v)
  | some b =>
    have h' : w.ownsMap Try.prog 22 setsR b L.length (encL L) := h
    cases c with
    | true =>
      obtain ⟨x, ps, hr, hx⟩ := h'.look_ok key_law map_und (sets_zero w) (setsR_mk 0 false) (key_at v)
      rw [at_enc] at hx
      rw [has_enc] at hr
      obtain ⟨m, u, rfl, he⟩ := setsR_inv hx
      simp only [Prod.mk.injEq, and_true] at he
      obtain ⟨rfl, rfl⟩ := encS_inj he.1
      exact hr
    | false =>
      obtain ⟨x, ps, hr, hx⟩ := h'.lookup key_law map_und (sets_zero w) (setsR_mk 0 false) (key_at v)
      rw [at_enc] at hx
      obtain ⟨m, u, rfl, he⟩ := setsR_inv hx
      simp only [Prod.mk.injEq, and_true] at he
      obtain ⟨rfl, rfl⟩ := encS_inj he.1
      exact hr
theorem Vof.len (h : Vof w mb L) (ty : TypeId) : (Builtin.len_ #[58] ty #[.map mb]).run Try.prog w = .ok (.int .i64 L.length) w := by
  cases mb with
  | none =>
    obtain rfl : L = [] := h
    exact Maps.len_nil map_und ty
  | some b =>
    have := World.ownsMap.len h map_und ty
    rw [size_enc] at this
    exact this
theorem Vof.lt {b : Nat} (h : Vof w (some b) L) : b < w.heap.size := Vmap.lt h
end

/-- one that is there, changed -/
theorem vdel_id {L : List Vn} {v : UInt16} (h : ∀ y ∈ L, y.v ≠ v) : vdel L v = L := by
  unfold vdel
  rw [List.filter_eq_self]
  intro y hy
  simpa using h y hy
theorem vins_lt (x : Vn) {L : List Vn} (h : ∀ y ∈ L, x.v.toNat < y.v.toNat) : vins x L = x :: L := by
  cases L with
  | nil => rfl
  | cons y r => unfold vins; rw [if_pos (h y (by simp))]
theorem vput_there {x : Vn} : ∀ {L : List Vn}, Ris L → vhas L x.v = true → vput L x = L.map fun y => if y.v = x.v then x else y
  | [], _, h => by simp [vhas] at h
  | y :: r, hr, h => by
    obtain ⟨h1, h2⟩ := List.pairwise_cons.1 hr
    by_cases e : y.v = x.v
    · have hn : ∀ z ∈ r, z.v ≠ x.v := fun z hz e' => by have := h1 z hz; rw [e, e'] at this; omega
      have : vdel (y :: r) x.v = r := by
        show List.filter _ _ = _
        rw [List.filter_cons, if_neg (by simp [e])]
        exact vdel_id hn
      unfold vput
      rw [this, vins_lt x (fun z hz => by rw [← e]; exact h1 z hz)]
      rw [List.map_cons, if_pos e]
      congr 1
      symm
      refine (List.map_congr_left fun z hz => ?_).trans (List.map_id r)
      rw [if_neg (hn z hz)]; rfl
    · have h' : vhas r x.v = true := by
        unfold vhas at h ⊢
        rw [List.any_cons] at h
        simpa [e] using h
      have hlt : ¬ x.v.toNat < y.v.toNat := by
        obtain ⟨z, hz, hv⟩ := List.any_eq_true.1 h'
        have := h1 z hz
        rw [eq_of_beq hv] at this
        omega
      have : vdel (y :: r) x.v = y :: vdel r x.v := by
        show List.filter _ _ = _
        rw [List.filter_cons, if_pos (by simp [e])]
        rfl
      have ih := vput_there h2 h'
      unfold vput at ih ⊢
      rw [this, List.map_cons, if_neg e, ← ih]
      conv => lhs; unfold vins
      rw [if_neg hlt]
theorem vhas_iff {L : List Vn} {v : UInt16} : vhas L v = true ↔ v ∈ L.map (·.v) := by
  unfold vhas
  rw [List.any_eq_true, List.mem_map]
  constructor
  · rintro ⟨x, hx, h⟩; exact ⟨x, hx, eq_of_beq h⟩
  · rintro ⟨x, hx, h⟩; exact ⟨x, hx, by simp [h]⟩
theorem vfind_mem {L : List Vn} {x : Vn} (hr : Ris L) (hx : x ∈ L) : vfind L x.v = some x := by
  unfold vfind
  induction L with
  | nil => cases hx
  | cons y r ih =>
    obtain ⟨h1, h2⟩ := List.pairwise_cons.1 hr
    rw [List.find?_cons]
    rcases List.mem_cons.1 hx with rfl | hx
    · simp
    · have : (y.v == x.v) = false := by
        have := h1 x hx
        simp only [beq_eq_false_iff_ne]
        intro e; rw [e] at this; omega
      rw [this]
      exact ih h2 hx
theorem vm_mem {L : List Vn} {x : Vn} (hr : Ris L) (hx : x ∈ L) : vm L x.v = x.m := by unfold vm; rw [vfind_mem hr hx]
theorem vu_mem {L : List Vn} {x : Vn} (hr : Ris L) (hx : x ∈ L) : vu L x.v = x.u := by unfold vu; rw [vfind_mem hr hx]
theorem vput_keys {L : List Vn} {x : Vn} (hr : Ris L) (h : vhas L x.v = true) : (vput L x).map (·.v) = L.map (·.v) := by
  rw [vput_there hr h, List.map_map]
  refine List.map_congr_left fun y _ => ?_
  show (if y.v = x.v then x else y).v = y.v
  split
  · rename_i e; exact e.symm
  · rfl
/-- a map under way: a store at a key that is there keeps the way -/
theorem ranges_store {w : World} {b r n : Nat} {D : D0} {left : Lit → Bool} {cnt : Nat} (h : w.ranges Try.prog 22 setsR b r n D left cnt) (hn : n < maxLen) {key val : Value} {kl : Lit} {d : D0} {ps : List MemPlace}
    (hkey : keyOf Try.prog 22 key = some kl) (hthere : Maps.has D kl = true) (hv : setsR val = some (d, ps)) :
    ∃ w', (Instr.mapUpdate 58 (.map (some b)) key val).run Try.prog w = .ok () w' ∧ w'.ranges Try.prog 22 setsR b r n (D.put kl d) left cnt ∧ w.mapTurned w' b := by
  have hne := h.ne
  obtain ⟨es, clock, since, seen, c0, hb, F, hs, rfl, hr, hold, rfl, hl1, hl2, hsc, hsk⟩ := h
  obtain ⟨es1, clock1, hrun1, F1, hput, _⟩ := Maps.fit_store (R' := setsR) key_law map_und hb F (Nat.lt_of_le_of_lt hs hn) (fun _ _ _ _ hz => hz) hkey hv
  rcases key_law.find w hkey es.toList F.keys with ⟨h1, h2⟩ | ⟨j, e0, h1, h2, h3⟩
  · exfalso
    obtain ⟨p, hp, hpk⟩ := List.any_eq_true.1 hthere
    obtain ⟨x, hx, rfl⟩ := List.mem_map.1 (mem_sorted.1 hp)
    obtain ⟨y, hy⟩ := F.reads x hx
    refine h2 x hx ?_
    rw [WideElems.rg_of hy] at hpk
    have e := WideAt.sameKey_eq hpk
    exact key_law.inj (e ▸ WideElems.rd_key hy) hkey
  · have hj : es[j]? = some e0 := by simpa using h2
    have hrun : (Instr.mapUpdate 58 (.map (some b)) key val).run Try.prog w = .ok () (ChangeMaps.setBlock w b (.map (es.modify j (fun e' => { e' with key := key, val := val })) clock)) := by
      simp [Instr.mapUpdate, run_underlying map_und, MapKept.run_getObj_map hb, key_law.check w false hkey, h1, hj, h3, key_law.stays w hkey, MapKept.run_setObj_map _ hb, Result.andThen, ChangeMaps.setBlock]
    have heq : ChangeMaps.setBlock w b (.map es1 clock1) = ChangeMaps.setBlock w b (.map (es.modify j (fun e' => { e' with key := key, val := val })) clock) := by
      rw [hrun1] at hrun
      injection hrun
    have hblk : (Obj.map es1 clock1) = .map (es.modify j (fun e' => { e' with key := key, val := val })) clock := by
      have a1 := ChangeMaps.heap_setBlock_same hb (.map es1 clock1)
      have a2 := ChangeMaps.heap_setBlock_same hb (.map (es.modify j (fun e' => { e' with key := key, val := val })) clock)
      rw [heq, a2] at a1
      exact (Option.some.inj a1).symm
    injection hblk with e1 e2
    subst e1
    rw [e2] at F1
    have hlist : (es.modify j (fun e' => { e' with key := key, val := val })).toList = es.toList.set j { e0 with key := key, val := val } := by
      rw [Array.toList_modify]
      refine List.ext_getElem? fun i => ?_
      rw [List.getElem?_modify, List.getElem?_set]
      have hjl : j < es.toList.length := (List.getElem?_eq_some_iff.1 h2).1
      by_cases e : j = i
      · subst e
        rw [h2, if_pos hjl]; simp
      · simp [e]
    have born : (es.modify j (fun e' => { e' with key := key, val := val })).toList.map MapEntry.born = es.toList.map MapEntry.born := by
      rw [hlist, List.map_set]
      refine List.ext_getElem? fun i => ?_
      rw [List.getElem?_set]
      have hjl : j < es.toList.length := (List.getElem?_eq_some_iff.1 h2).1
      by_cases e : j = i
      · subst e
        rw [if_pos rfl, if_pos (by simpa using hjl), List.getElem?_map, h2]
        rfl
      · rw [if_neg e]
    have who : ∀ x ∈ (es.modify j (fun e' => { e' with key := key, val := val })).toList, ∃ x0 ∈ es.toList, x0.born = x.born ∧ x0.key = x.key := by
      intro x hx
      rw [hlist] at hx
      obtain ⟨i, hi, ex⟩ := List.getElem_of_mem hx
      rw [List.getElem_set] at ex
      split at ex
      · refine ⟨e0, List.mem_of_getElem? h2, by rw [← ex], by rw [← ex]; exact h3⟩
      · exact ⟨x, ex ▸ List.getElem_mem _, rfl, rfl⟩
    have who' : ∀ x ∈ es.toList, ∃ x' ∈ (es.modify j (fun e' => { e' with key := key, val := val })).toList, x'.key = x.key := by
      intro x hx
      obtain ⟨i, hi, ex⟩ := List.getElem_of_mem hx
      rw [hlist]
      by_cases e : j = i
      · subst e
        refine ⟨{ e0 with key := key, val := val }, List.mem_iff_getElem?.2 ⟨j, by rw [List.getElem?_set, if_pos rfl, if_pos hi]⟩, ?_⟩
        rw [List.getElem?_eq_getElem hi, ex] at h2
        cases h2
        exact h3.symm
      · exact ⟨x, List.mem_iff_getElem?.2 ⟨i, by rw [List.getElem?_set, if_neg e, List.getElem?_eq_getElem hi, ex]⟩, rfl⟩
    have rgk : ∀ (a : Array MapEntry) (ck : Nat), WideElems.Fit Try.prog 22 setsR a ck → ∀ x ∈ a.toList, keyOf Try.prog 22 x.key = some (WideElems.rg Try.prog 22 setsR x).1 := by
      intro a ck Fa x hx
      obtain ⟨y, hy⟩ := Fa.reads x hx
      rw [WideElems.rg_of hy]
      exact WideElems.rd_key hy
    have rgq : ∀ x ∈ (es.modify j (fun e' => { e' with key := key, val := val })).toList, ∀ x0 ∈ es.toList, x0.key = x.key → (WideElems.rg Try.prog 22 setsR x).1 = (WideElems.rg Try.prog 22 setsR x0).1 := by
      intro x hx x0 hx0 e
      have q1 := rgk _ _ F1 x hx
      have q2 := rgk _ _ F x0 hx0
      rw [e, q1] at q2
      exact Option.some.inj q2
    refine ⟨_, hrun, ⟨_, clock, since, seen, c0, ChangeMaps.heap_setBlock_same hb _, F1, by simpa using hs, by rw [DataW.put_eq, hput], (ChangeMaps.heap_setBlock_other hb _ hne).trans hr, ?_, ?_, ?_, ?_, hsc, hsk⟩, ⟨es, clock, _, clock, hb, rfl⟩⟩
    · intro x hx
      obtain ⟨x0, hx0, eb, _⟩ := who x hx
      rw [← eb]
      exact hold x0 hx0
    · have e1 : ∀ a : Array MapEntry, (leftOf a seen).size = ((a.toList.map MapEntry.born).filter fun e => !seen.contains e).length := fun a => by
        unfold leftOf
        rw [← Array.length_toList, Array.toList_filter, List.filter_map, List.length_map]
        rfl
      rw [e1, e1, born]
    · intro x hx
      obtain ⟨x0, hx0, eb, ek⟩ := who x hx
      rw [rgq x hx x0 hx0 ek, ← eb]
      exact hl1 x0 hx0
    · intro kl' hkl'
      obtain ⟨x0, hx0, rfl⟩ := hl2 kl' hkl'
      obtain ⟨x', hx', ek⟩ := who' x0 hx0
      exact ⟨x', hx', rgq x' hx' x0 hx0 ek.symm⟩
end Go.Proofs.Ytkmdgpfaaniibaa


/- Layer 18, the program: maps.Keys; slices.AppendSeq, slices.Collect at uint16. -/
namespace Go.Proofs.Ytkmdgpfaaniibaa
open Go.RowKit Go.Shelf
set_option linter.unusedVariables false
set_option linter.unusedSimpArgs false
set_option maxRecDepth 100000
attribute [local go_sem] Oper.semAt_some

/-- the numbers -/
def vks (L : List Vn) : List Int := L.map fun x => (x.v.toNat : Int)
theorem vks_len (L : List Vn) : (vks L).length = L.length := by simp [vks]
theorem vks_ris {L : List Vn} (h : Ris L) : (vks L).Pairwise (· < ·) := by
  unfold vks
  rw [List.pairwise_map]
  exact h.imp fun h => by omega
theorem has_u (L : List Vn) (x : Int) : Maps.has (encL L) (.int .u16 x) = true ↔ x ∈ vks L := by
  unfold encL vks
  rw [Maps.has_eq, List.any_map, List.any_eq_true, List.mem_map]
  constructor
  · rintro ⟨y, hy, h⟩
    refine ⟨y, hy, ?_⟩
    simpa [Function.comp, encE, kL, Lit.sameKey] using h
  · rintro ⟨y, hy, h⟩
    refine ⟨y, hy, ?_⟩
    simp [Function.comp, encE, kL, Lit.sameKey, h]
/-- no key twice; a key has come just where the map has it and it is no longer to come -/
def CollU (L : List Vn) (left : Lit → Bool) (ss : List Int) : Prop := ss.Nodup ∧ ∀ x, x ∈ ss ↔ (x ∈ vks L ∧ left (.int .u16 x) = false)
theorem CollU.start (L : List Vn) : CollU L (Maps.has (encL L)) [] := ⟨List.nodup_nil, fun x => by
  have := has_u L x
  cases h : Maps.has (encL L) (.int .u16 x) <;> simp [h] at this <;> simp [this]⟩
theorem CollU.step {L : List Vn} {left : Lit → Bool} {ss : List Int} (h : CollU L left ss) {x : Int} {y : D0} (hlk : left (.int .u16 x) = true) (hat : ∀ zd, (encL L).atKey (.int .u16 x) zd = y) : CollU L (fun z => left z && !z.sameKey (.int .u16 x)) (ss ++ [x]) := by
  have hhas : x ∈ vks L := (has_u L x).1 (Maps.has_true_of_atKey hat)
  have hnew : x ∉ ss := fun hx => by have := ((h.2 x).1 hx).2; rw [hlk] at this; cases this
  refine ⟨List.nodup_append.2 ⟨h.1, by simp, fun a ha b hb => by simp at hb; subst hb; exact fun e => hnew (e ▸ ha)⟩, fun y => ?_⟩
  by_cases hy : y = x
  · subst hy; simp [hhas, Lit.sameKey]
  · simp [h.2 y, hy, Lit.sameKey]
theorem CollU.perm {L : List Vn} {left : Lit → Bool} {ss : List Int} (h : CollU L left ss) (hr : Ris L) (hl : ∀ kl, left kl = false) : ss.Perm (vks L) :=
  (List.perm_ext_iff_of_nodup h.1 ((vks_ris hr).imp fun h => by omega)).2 fun x => by rw [h.2 x, hl]; simp

set_option maxRecDepth 100000 in
set_option maxHeartbeats 1000000 in
theorem keysU1_in (F : Fence) (n : Nat) (hF : F.fn 47) (hro : F.round = none) (hn : 1 ≤ n) (l Bm b : Nat) (L : List Vn) (hr : Ris L) (J Jx : List Int → World → Prop)
    (hY : ∀ pre x W, J pre W → pre.length < L.length → YieldAt F (n - 1) Try.prog l #[.int .u16 x] W fun e W' =>
      (e = .returned (.bool true) ∧ J (pre ++ [x]) W' ∧ KeepsWalks W W') ∨ (e = .returned (.bool false) ∧ Jx (pre ++ [x]) W'))
    (W : World) (hJ : AbidesFrom W.heap.size J) (hm : W.cell? ⟨Bm, 0, none⟩ = some (.map (some b))) (hown : Vmap W b L) (h0 : J [] W) :
    CallsIn F n Try.prog 47 #[.func (.yield l) #[] #[], .pointer (some ⟨Bm, 0, none⟩)] W fun e W' => (∃ v, e = .returned v) ∧
      ((∃ ss : List Int, ss.Perm (vks L) ∧ J ss W') ∨ (∃ pre : List Int, True ∧ Jx pre W')) := by
  have hown' : W.ownsMap Try.prog 22 setsR b L.length (encL L) := hown
  refine callsIn_of_wp Try.func47 rfl hF ?_ hro
  simp only [Try.ntmps47, List.size_toArray, List.length_cons, List.length_nil, Nat.reduceAdd, Nat.reduceSub, Array.replicate_succ, Array.replicate_zero, List.push_toArray, List.append_toArray, List.nil_append, List.cons_append]
  gi_wp2_with (first
    | (gi_at_range; refine wpListIn_range_own _ rfl _ 58 rfl 22 63 key_law map_und _ b L.length _ rfl hown' ?_; intro w0 hrg0 hg0 hs0)
    | gi_in)
  go_frame
  gi_loopw [3] (fun _ wr => ∃ (left : Lit → Bool) (cnt : Nat) (ss : List Int), wr.ranges Try.prog 22 setsR b W.heap.size L.length (encL L) left cnt ∧ ss.length + cnt ≤ L.length ∧ CollU L left ss ∧ J ss wr)
    (fun _ wr => wr.rangeLeft b W.heap.size)
  case atStart =>
    exact ⟨_, _, [], hrg0, by simp [size_enc], CollU.start L, hJ [] W w0 none h0 hg0 (fun r e => by cases e)⟩
  case round =>
    obtain ⟨left, cnt, ss, hrg, hcs, hC, hJs⟩ := hrel
    gi_wp2_with (first
      | (gi_at_next; refine wpListIn_next_ranges _ rfl _ rfl 22 key_law setsR (Value.int .u16) id (fun key kl hk => by obtain ⟨x, hx, _⟩ := Maps.keyOf_int_inv Try.underlying22 hk; exact ⟨x, hx⟩) (fun v _ _ => ⟨v, rfl⟩) b W.heap.size L.length _ _ _ rfl hrg ?_ ?_)
      | gi_in)
    · intro hc0 hl0
      gi_wp2
      go_end0
      exact ⟨⟨_, rfl⟩, .inl ⟨ss, hC.perm hr hl0, hJs⟩⟩
    · intro x c kl yd yp w2 cnt2 hkey hlk hv hat hrg2 hlt hg2 hs2 hen
      obtain ⟨x', ex, rfl, _⟩ := Maps.keyOf_int_inv Try.underlying22 hkey
      obtain rfl : x = x' := by simpa using ex
      have hJ2 : J ss w2 := hJ ss wr w2 (some W.heap.size) hJs hg2 (fun r e => by cases e; exact ⟨Nat.le_refl _, hrg.iter_walk⟩)
      obtain ⟨fn, tmps, assign, body, hy, hR⟩ := hY ss x w2 hJ2 (by omega)
      clear hs2
      gi_wp2
      refine hR.mono ?_
      have hC2 := hC.step hlk hat
      rintro e W3 (⟨rfl, hJ3, hk3⟩ | ⟨rfl, hJx3⟩)
      · gi_wp2
        have hrg3 := hrg2.of_walks hk3
        go_roundw
        case rel => exact ⟨_, cnt2, ss ++ [x], hrg3, by simp; omega, hC2, hJ3⟩
        case measure => rw [hrg3.left_eq, hrg.left_eq]; exact hlt
      · gi_wp2
        refine bodyPost_ret (results_none rfl _ _ _) rfl ?_
        exact ⟨⟨_, rfl⟩, .inr ⟨ss ++ [x], trivial, hJx3⟩⟩

set_option maxRecDepth 100000 in
set_option maxHeartbeats 1000000 in
theorem keysU1_nil_in (F : Fence) (n : Nat) (hF : F.fn 47) (hro : F.round = none) (l Bm : Nat) (J : List Int → World → Prop) (W : World) (hJ : AbidesFrom W.heap.size J)
    (hm : W.cell? ⟨Bm, 0, none⟩ = some (.map none)) (h0 : J [] W) :
    CallsIn F n Try.prog 47 #[.func (.yield l) #[] #[], .pointer (some ⟨Bm, 0, none⟩)] W fun e W' => (∃ v, e = .returned v) ∧ J [] W' := by
  refine callsIn_of_wp Try.func47 rfl hF ?_ hro
  simp only [Try.ntmps47, List.size_toArray, List.length_cons, List.length_nil, Nat.reduceAdd, Nat.reduceSub, Array.replicate_succ, Array.replicate_zero, List.push_toArray, List.append_toArray, List.nil_append, List.cons_append]
  have hrg := run_range_nilMap (P := Try.prog) W 58 22 63 map_und
  have hnx : ∀ ty, (Instr.next (.pointer (some ⟨W.heap.size, 0, none⟩)) false ty).run Try.prog (W.alloc (.mapIter none 0 #[] 0)) = _ := fun ty => run_next_nilMap _ ty 0 0 #[]
  gi_wp2
  refine wpIn_loop_rounds 1 ?_
  rw [roundsIn_succ]
  gi_wp2
  go_end0
  exact ⟨⟨_, rfl⟩, hJ [] W _ none h0 (World.grownBy_alloc W _ none) (fun r e => by cases e)⟩

/-- what maps.Keys hands back gives the numbers, each once -/
theorem keysU_stops (F : Fence) (n : Nat) (hF : F.fn 47) (hro : F.round = none) (hn : 1 ≤ n) (Bm : Nat) (mb : Option Nat) (L : List Vn) (hr : Ris L) (w : World) (hBm : Bm < w.heap.size)
    (hm : w.cell? ⟨Bm, 0, none⟩ = some (.map mb)) (hv : Vof w mb L) :
    SeqStopsK F n Try.prog 47 #[.pointer (some ⟨Bm, 0, none⟩)] (fun x : Int => #[.int .u16 x]) KeepsWalks (fun ss => ss.Perm (vks L)) (fun _ => True) L.length w := fun l J Jx W hW hJ hJx hY h0 => by
  have hm' := (hW.cell (p := ⟨Bm, 0, none⟩) hBm).trans hm
  cases mb with
  | none =>
    obtain rfl : L = [] := hv
    exact (keysU1_nil_in F n hF hro l Bm J W hJ hm' h0).mono fun e W' ⟨he, hj⟩ => ⟨he, .inl ⟨[], .refl _, hj⟩⟩
  | some b =>
    have hv' : Vmap W b L := by
      have hl := Vmap.lt hv
      obtain ⟨es, clock, hb, r⟩ := hv
      exact ⟨es, clock, (hW.block b hl).trans hb, r⟩
    exact keysU1_in F n hF hro hn l Bm b L hr J Jx hY W hJ hm' hv' h0

set_option maxHeartbeats 1000000 in
/-- maps.Keys: the map is boxed; the function value captures the box -/
theorem keysU_any {w : World} (mb : Option Nat) :
    Calls Try.prog 40 #[.map mb] w fun e w' => e = .returned (.func (.func 47) #[] #[.pointer (some ⟨w.heap.size, 0, none⟩)]) ∧ w' = w.alloc (.cells #[.map mb] 58) := by
  go_enter Try.func40, Try.ntmps40
  go_wp2
  go_ret
  exact ⟨rfl, rfl⟩

theorem infoU : (Try.prog.info? 22).map (fun i => (i.zero, i.size, i.bytes)) = some (some (.int .u16 0), 1, 2) := by kernel_rfl
set_option maxRecDepth 100000 in
set_option maxHeartbeats 2000000 in
/-- slices.AppendSeq(nil, seq) at uint16 -/
theorem appendSeqU_in (F : Fence) (n : Nat) (hF : F.fn 53) (hro : F.round = none) (hn : 3 ≤ n) (gf : Nat) (lb : Array Value) (hFg : F.fn gf) (eg : ∀ args w, (callFunc gf args).run Try.prog w = .ok (.enter gf args) w) (w : World) (S : List Int → Prop) (N : Nat) (hN : N ≤ 1000)
    (hseq : SeqStopsK F (n - 1) Try.prog gf lb (fun x : Int => #[.int .u16 x]) KeepsWalks S (fun _ => True) N w) :
    CallsIn F n Try.prog 53 #[.slice none 0 0, .func (.func gf) #[] lb] w fun e W' => ∃ v ys, S ys ∧ e = .returned v ∧ W'.ownsRow w.heap.size 22 1 v ys.length (ys.map (Value.int .u16)) ∧ (v = .slice none 0 0 ↔ ys = []) ∧ Below w.heap.size w W' := by
  have h1 : 1 ≤ n := by omega
  obtain ⟨i0, hi, hz0, hz1, hz2⟩ := info_parts infoU
  refine callsIn_of_wp_marks Try.func53 rfl hF ?_ hro
  simp only [Try.ntmps53, List.size_toArray, List.length_cons, List.length_nil, Nat.reduceAdd, Nat.reduceSub, Array.replicate_succ, Array.replicate_zero, List.push_toArray, List.append_toArray, List.nil_append, List.cons_append]
  gi_wp2
  have bO := Boxed.new w 25 (.slice none 0 0)
  have hB0 : Below w.heap.size w (w.alloc (.cells #[.slice none 0 0] 25)) := (Below.refl _ w).alloc (Nat.le_refl _) _
  refine wpIn_rangeFunc_ownF hro h1 (gf := gf) (lb := lb) rfl hFg eg
    hseq walksK_t walksK_b hB0 (fun _ => rfl)
    (fun pre W => (∃ v, Boxed W w.heap.size 25 v ∧ W.ownsRow w.heap.size 22 1 v pre.length (pre.map (Value.int .u16)) ∧ (v = .slice none 0 0 ↔ pre = [])) ∧ Below w.heap.size w W)
    (fun _ _ _ => False)
    (OwnFrom.and (Own.from (holdsRow_own w.heap.size w.heap.size 25 22 1 (fun pre : List Int => pre.length) (fun pre => pre.map (Value.int .u16)) (fun pre v => v = .slice none 0 0 ↔ pre = [])) _) (ownFrom_below (Nat.le_refl _) (by simp)))
    (fun _ _ _ _ _ hs _ _ => hs)
    ⟨⟨_, bO, World.ownsRow_nil _ _ _ _, by simp⟩, hB0⟩
    (fun x => { tmps := #[.slice none 0 0, .func (.func gf) #[] lb, .pointer (some ⟨w.heap.size, 0, none⟩), undef, .slice none 0 0, .int .u16 x, .func (.func gf) #[] lb, .int .u16 x, undef, undef, undef, undef, undef], defers := [] })
    ?assign ?body ?done ?stop
  case assign =>
    intro l x W K hK
    gi_wp2
    exact hK
  case body =>
    rintro l pre x W ⟨⟨v, hv, hrow, hnil⟩, hB⟩ hlt
    have hc := hv.cell
    have hsz := hB.size
    gi_wp2_with (gi_at_builtin; refine wpListIn_append_own _ rfl _ _ 25 rfl w.heap.size 22 i0 (.int .u16 0) 1 2 Try.underlying25 hi hz0 hz1 hz2 rfl (by decide) _ _ _ rfl (hrow.alloc _) ⟨W.heap.size, 0, none⟩ 1 1 [.int .u16 x] rfl rfl (cell_one_new _ _ _) (by simp [Value.oneCell']) (by simp only [maxLen]; omega) (by omega) (by simp; omega) ?_; intro v' w1 hown' hgrow _; obtain ⟨g', cap', rfl⟩ := ownsRow_succ hown'; obtain ⟨hv1, hv2, hr2, hk2, hb2⟩ := hv.appended (by decide) hrow hB.size (Nat.le_refl _) hown' hgrow; have hc1 := hv1.cell; have hf1 := hv1.frozen)
    exact ⟨hk2, hk2.walks, ⟨_, hv2, by simpa using hr2, by simp⟩, hB.trans hb2⟩
  case done =>
    rintro D ys W hD hS ⟨⟨v, hv, hrow, hnil⟩, hB⟩ hK
    have hc := hv.cell
    gi_wp2
    refine ⟨by simp, .inl ⟨_, _, rfl, run_takeDeferred hK, ?_⟩⟩
    exact ⟨_, results_tmp rfl _ _ _, v, ys, hS, rfl, ownsRow_putObj hrow _ hK rfl, hnil, hB.trans (belowK_b (w := w) (Nat.le_refl _) W D _ _ (by simp at hD; omega) hK rfl rfl)⟩
  case stop =>
    rintro D c pre W _ _ h _
    exact h.elim

set_option maxHeartbeats 1000000 in
/-- slices.Collect(seq) at uint16 -/
theorem collectU_in (F : Fence) (n : Nat) (hC : F.fn 45) (hF : F.fn 53) (hro : F.round = none) (hn : 4 ≤ n) (gf : Nat) (lb : Array Value) (hFg : F.fn gf) (eg : ∀ args w, (callFunc gf args).run Try.prog w = .ok (.enter gf args) w) (w : World) (S : List Int → Prop) (N : Nat) (hN : N ≤ 1000)
    (hseq : SeqStopsK F (n - 1 - 1) Try.prog gf lb (fun x : Int => #[.int .u16 x]) KeepsWalks S (fun _ => True) N w) :
    CallsIn F n Try.prog 45 #[.func (.func gf) #[] lb] w fun e W' => ∃ v ys, S ys ∧ e = .returned v ∧ W'.ownsRow w.heap.size 22 1 v ys.length (ys.map (Value.int .u16)) ∧ (v = .slice none 0 0 ↔ ys = []) ∧ Below w.heap.size w W' := by
  have h1 : 1 ≤ n := by omega
  refine callsIn_of_wp Try.func45 rfl hC ?_ hro
  simp only [Try.ntmps45, List.size_toArray, List.length_cons, List.length_nil, Nat.reduceAdd, Nat.reduceSub, Array.replicate_succ, Array.replicate_zero, List.push_toArray, List.append_toArray, List.nil_append, List.cons_append]
  gi_wp2_with (gi_at_call 53; refine (appendSeqU_in F (n - 1) hF hro (by omega) gf lb hFg eg _ S N hN hseq).mono ?_; rintro e w' ⟨v, ys, hS, rfl, hrow, hnil, hb⟩)
  go_ret
  exact ⟨v, ys, hS, rfl, hrow, hnil, hb⟩
/-- slices.Collect(maps.Keys(m)), the second call -/
theorem collectU_any (mb : Option Nat) (L : List Vn) (hr : Ris L) (h8 : L.length ≤ 8) (Bm : Nat) (w : World) (hBm : Bm < w.heap.size) (hm : w.cell? ⟨Bm, 0, none⟩ = some (.map mb)) (hv : Vof w mb L) :
    Calls Try.prog 45 #[.func (.func 47) #[] #[.pointer (some ⟨Bm, 0, none⟩)]] w fun e W' => ∃ v ys, ys.Perm (vks L) ∧ e = .returned v ∧ W'.ownsRow w.heap.size 22 1 v ys.length (ys.map (Value.int .u16)) ∧ (v = .slice none 0 0 ↔ ys = []) ∧ Below w.heap.size w W' :=
  callsIn_wide.1 (collectU_in Fence.wide 6 trivial trivial rfl (by omega) 47 #[.pointer (some ⟨Bm, 0, none⟩)] trivial (enters_of Try.func47 (by kernel_rfl) rfl) w _ L.length (by omega)
    (keysU_stops Fence.wide 4 trivial rfl (by omega) Bm mb L hr w hBm hm hv))
end Go.Proofs.Ytkmdgpfaaniibaa


/- slices.Sort at uint16, twelve elements or fewer. -/
namespace Go.Proofs.Ytkmdgpfaaniibaa
open Go.RowKit
set_option linter.unusedVariables false
set_option linter.unusedSimpArgs false
set_option maxRecDepth 100000

/-- the row at g holds these -/
def HoldU (w : World) (g : Nat) (zs : List Int) : Prop := ∀ k x, zs[k]? = some x → w.cell? ⟨g, k, none⟩ = some (.int .u16 x) ∧ w.frozen? ⟨g, k, none⟩ = false
theorem HoldU.drew {w : World} {g : Nat} {zs : List Int} (h : HoldU w g zs) (n : Nat) : HoldU (w.drewN n) g zs := h
theorem HoldU.put {w : World} {g : Nat} {zs : List Int} (h : HoldU w g zs) {j : Nat} (hj : j < zs.length) (x : Int) : HoldU (w.setCell ⟨g, j, none⟩ (.int .u16 x)) g (zs.set j x) := by
  intro k y hk
  rw [List.getElem?_set] at hk
  rw [World.frozen?_setCell]
  by_cases e : j = k
  · subst e
    rw [if_pos rfl, if_pos hj] at hk
    cases hk
    obtain ⟨h1, h2⟩ := h j zs[j] (List.getElem?_eq_getElem hj)
    exact ⟨World.cell?_setCell_same' _ _ _ (by rw [h1]; rfl), h2⟩
  · rw [if_neg e] at hk
    obtain ⟨h1, h2⟩ := h k y hk
    refine ⟨?_, h2⟩
    rw [World.cell?_setCell_other]
    · exact h1
    · intro e'; exact e (by simpa using e'.symm)
def zg (zs : List Int) (k : Nat) : Int := zs.getD k 0
/-- sorted up to i -/
def SoTo (i : Nat) (zs : List Int) : Prop := ∀ x y, x < y → y < i → zg zs x ≤ zg zs y
/-- sorted up to i, but for what stands at j, which is no more than what is behind it -/
structure InsI (i j : Nat) (zs : List Int) : Prop where
  a : ∀ x y, x < y → y ≤ i → x ≠ j → y ≠ j → zg zs x ≤ zg zs y
  b : ∀ y, j < y → y ≤ i → zg zs j ≤ zg zs y
theorem InsI.start {i : Nat} {zs : List Int} (h : SoTo i zs) : InsI i i zs := ⟨fun x y h1 h2 _ h4 => h x y h1 (by omega), fun y h1 h2 => by omega⟩
theorem zg_get {zs : List Int} {k : Nat} (h : k < zs.length) : zs[k]? = some (zg zs k) := by
  unfold zg
  rw [List.getD_eq_getElem?_getD, List.getElem?_eq_getElem h]; rfl
/-- two neighbours, the other way round -/
def swp (zs : List Int) (j : Nat) : List Int := (zs.set j (zg zs (j - 1))).set (j - 1) (zg zs j)
theorem swp_len (zs : List Int) (j : Nat) : (swp zs j).length = zs.length := by simp [swp]
theorem swp_get {zs : List Int} {j : Nat} (h0 : 0 < j) (hj : j < zs.length) (k : Nat) : zg (swp zs j) k = if k = j - 1 then zg zs j else if k = j then zg zs (j - 1) else zg zs k := by
  unfold zg swp
  simp only [List.getD_eq_getElem?_getD, List.getElem?_set, List.length_set]
  by_cases h1 : k = j - 1
  · subst h1
    rw [if_pos rfl, if_pos (by omega), if_pos rfl]
    rfl
  · rw [if_neg (by omega), if_neg h1]
    by_cases h2 : k = j
    · subst h2
      rw [if_pos rfl, if_pos hj, if_pos rfl]
      rfl
    · rw [if_neg (by omega), if_neg h2]
theorem swp_perm {zs : List Int} {j : Nat} (h0 : 0 < j) (hj : j < zs.length) : (swp zs j).Perm zs := by
  have h1 : zg zs (j - 1) = zs[j - 1]'(by omega) := by unfold zg; rw [List.getD_eq_getElem?_getD, List.getElem?_eq_getElem (by omega)]; rfl
  have h2 : zg zs j = zs[j] := by unfold zg; rw [List.getD_eq_getElem?_getD, List.getElem?_eq_getElem hj]; rfl
  unfold swp
  rw [h1, h2]
  exact List.set_set_perm hj (by omega)
theorem InsI.step {i j : Nat} {zs : List Int} (h : InsI i j zs) (h0 : 0 < j) (hj : j < zs.length) (hji : j ≤ i) (hlt : zg zs j < zg zs (j - 1)) : InsI i (j - 1) (swp zs j) := by
  constructor
  · intro x y h1 h2 h3 h4
    rw [swp_get h0 hj, swp_get h0 hj, if_neg h3, if_neg h4]
    by_cases ey : y = j
    · rw [if_pos ey, if_neg (by omega)]
      exact h.a x (j - 1) (by omega) (by omega) (by omega) (by omega)
    · rw [if_neg ey]
      by_cases ex : x = j
      · rw [if_pos ex]
        exact h.a (j - 1) y (by omega) h2 (by omega) ey
      · rw [if_neg ex]
        exact h.a x y h1 h2 ex ey
  · intro y h1 h2
    rw [swp_get h0 hj, swp_get h0 hj, if_pos rfl, if_neg (by omega)]
    by_cases ey : y = j
    · rw [if_pos ey]; omega
    · rw [if_neg ey]
      exact h.b y (by omega) h2
theorem InsI.done {i j : Nat} {zs : List Int} (h : InsI i j zs) (hq : j = 0 ∨ zg zs (j - 1) ≤ zg zs j) : SoTo (i + 1) zs := by
  intro x y h1 h2
  by_cases ex : x = j
  · subst ex; exact h.b y h1 (by omega)
  · by_cases ey : y = j
    · subst ey
      rcases hq with e | e
      · omega
      · by_cases e1 : x = y - 1
        · subst e1; exact e
        · exact Int.le_trans (h.a x (y - 1) (by omega) (by omega) ex (by omega)) e
    · exact h.a x y h1 (by omega) ex ey
theorem SoTo.pair {zs : List Int} (h : SoTo zs.length zs) : zs.Pairwise (· ≤ ·) := by
  rw [List.pairwise_iff_getElem]
  intro i j hi hj hij
  have := h i j hij hj
  unfold zg at this
  rw [List.getD_eq_getElem?_getD, List.getD_eq_getElem?_getD, List.getElem?_eq_getElem hi, List.getElem?_eq_getElem hj] at this
  exact this

set_option maxHeartbeats 1000000 in
theorem nanU {w : World} (x : Int) : Calls Try.prog 94 #[.int .u16 x] w fun e w' => e = .returned (.bool false) ∧ w = w' := by
  go_enter Try.func94, Try.ntmps94
  go_wp2
  go_ret
  exact ⟨ret_ (by simp), rfl⟩
set_option maxHeartbeats 1000000 in
theorem lessU {w : World} (x y : Int) : Calls Try.prog 73 #[.int .u16 x, .int .u16 y] w fun e w' => e = .returned (.bool (decide (x < y))) ∧ w = w' := by
  go_enter Try.func73, Try.ntmps73
  go_wp2_with (go_at_call 94; refine (nanU x).mono ?_; rintro e w2 ⟨rfl, rfl⟩)
  go_ret
  exact ⟨rfl, rfl⟩
theorem quietU {f : FuncId} {args : Array Value} {w : World} {n : Nat} {v : Value} (h : Calls Try.prog f args (w.drewN n) fun e w' => e = .returned v ∧ w.drewN n = w') :
    Calls Try.prog f args (w.drewN n) fun e w'' => e = .returned v ∧ ∃ m, w'' = w.drewN m := h.mono fun _ _ ⟨he, hm⟩ => ⟨he, n, hm.symm⟩
theorem lessB {w : World} {x y : Int} {b : Bool} (h : Hid (decide (x < y) = b)) : Calls Try.prog 73 #[.int .u16 x, .int .u16 y] w fun e w' => e = .returned (.bool b) ∧ w = w' := by
  have := lessU (w := w) x y
  rwa [h.out] at this

set_option maxRecDepth 100000 in
set_option maxHeartbeats 4000000 in
theorem insU {w : World} {g c : Nat} {zs0 : List Int} (n : Nat) (hn : n = zs0.length) (h12 : n ≤ 12) (hc : n ≤ c) (hg : g < w.heap.size) (h : HoldU w g zs0) :
    Calls Try.prog 67 #[.slice (some ⟨g, 0, none⟩) n c, .int .i64 0, .int .i64 n] w fun e w' => e = .returned (.tuple #[]) ∧ ∃ zs, zs.Perm zs0 ∧ zs.Pairwise (· ≤ ·) ∧ HoldU w' g zs ∧ Chg (fun k => k = g) w w' := by
  have HN := Lib.hid hn
  clear hn
  have HH := Lib.hid h
  clear h
  go_enter Try.func67, Try.ntmps67
  go_wp2
  go_loopw [6] (fun i wr => ∃ (k : Nat) (zs : List Int), i = .int .i64 k ∧ 1 ≤ k ∧ Hid (zs.Perm zs0 ∧ SoTo k zs ∧ HoldU wr g zs ∧ Chg (fun k => k = g) w wr)) (fun i _ => n - (intOf i).toNat)
  case atStart => exact ⟨1, zs0, rfl, by omega, Lib.hid ⟨.refl _, fun x y h1 h2 => by omega, HH.out, Chg.refl _ _⟩⟩
  case round =>
    obtain ⟨k, zs, rfl, hk1, HS⟩ := hrel
    by_cases hlt : k < n
    · obtain ⟨wo, rfl⟩ : ∃ wo, wo = wr := ⟨_, rfl⟩
      have hkl : k < zs.length := by rw [HS.out.1.length_eq, ← HN.out]; exact hlt
      go_wp2_with fail
      go_loopw [7] (fun i wi => ∃ (j : Nat) (zs : List Int), i = .int .i64 j ∧ j ≤ k ∧ Hid (zs.Perm zs0 ∧ InsI k j zs ∧ HoldU wi g zs ∧ Chg (fun k => k = g) w wi)) (fun i _ => (intOf i).toNat)
      case atStart => exact ⟨k, zs, rfl, Nat.le_refl _, Lib.hid ⟨HS.out.1, InsI.start HS.out.2.1, HS.out.2.2.1, HS.out.2.2.2⟩⟩
      case round =>
        obtain ⟨wi, rfl⟩ : ∃ wi, wi = wr := ⟨_, rfl⟩
        clear HS hkl
        obtain ⟨j, zs, rfl, hjk, HS⟩ := hrel
        have HL : Hid (zs.length = n) := Lib.hid (by rw [HS.out.1.length_eq, ← HN.out])
        by_cases h0 : j = 0
        · subst h0
          go_wp2_with fail
          go_quiet (fail)
          go_wp2_with fail
          go_roundw
          case rel => exact ⟨k + 1, zs, by go_num, by omega, Lib.hid ⟨HS.out.1, HS.out.2.1.done (.inl rfl), HS.out.2.2.1, HS.out.2.2.2.drewN _⟩⟩
          case measure => simp [intOf]; omega
        · obtain ⟨i, rfl⟩ : ∃ i, j = i + 1 := ⟨j - 1, by omega⟩
          have hlj : i + 1 < zs.length := by rw [HL.out]; omega
          obtain ⟨x, hx⟩ : ∃ x, zg zs (i + 1) = x := ⟨_, rfl⟩
          obtain ⟨y, hy⟩ : ∃ y, zg zs i = y := ⟨_, rfl⟩
          have hc1 := (HS.out.2.2.1 (i + 1) x (by rw [zg_get hlj, hx])).1
          have hc0 := (HS.out.2.2.1 i y (by rw [zg_get (by omega), hy])).1
          have hf1 := (HS.out.2.2.1 (i + 1) x (by rw [zg_get hlj, hx])).2
          have hf0 := (HS.out.2.2.1 i y (by rw [zg_get (by omega), hy])).2
          have hb1 : ((i + 1 : Nat) : Int) < n := by have := HL.out; omega
          have hb0 : (i : Int) < n := by omega
          have hw0 : IntKind.i64.wrap (((i + 1 : Nat) : Int) - 1) = (i : Int) := by simp [IntKind.wrap, IntKind.signed, IntKind.bits]; omega
          have HX := Lib.hid (And.intro hx hy)
          have HLJ := Lib.hid hlj
          clear hx hy hlj
          cases hd : decide (x < y)
          · have HD := Lib.hid hd
            clear hd
            go_wp2_with fail
            go_quiet ((go_at_call 73; exact quietU (lessB HD)))
            go_wp2_with fail
            go_roundw
            case rel => exact ⟨k + 1, zs, by go_num, by omega, Lib.hid ⟨HS.out.1, HS.out.2.1.done (.inr (by have := HD.out; rw [← HX.out.1, ← HX.out.2] at this; simpa using this)), HS.out.2.2.1, HS.out.2.2.2.drewN _⟩⟩
            case measure => simp [intOf]; omega
          · have HD := Lib.hid hd
            clear hd
            go_wp2_with fail
            go_quiet ((go_at_call 73; exact quietU (lessB HD)))
            go_upto_region 6 with fail
            have HP : Hid (zs.Perm zs0 ∧ InsI k i (swp zs (i + 1)) ∧ swp zs (i + 1) = (zs.set (i + 1) y).set i x) := Lib.hid ⟨HS.out.1, by
              have := HS.out.2.1.step (Nat.succ_pos i) HLJ.out hjk (by have := HD.out; rw [← HX.out.1, ← HX.out.2] at this; simpa using this)
              simpa using this, by unfold swp; simp [HX.out.1, HX.out.2]⟩
            have HQ : Hid ((swp zs (i + 1)).Perm zs0) := Lib.hid ((swp_perm (Nat.succ_pos i) HLJ.out).trans HP.out.1)
            go_region
            go_wp2_with fail
            go_roundw
            case rel =>
              refine ⟨i, swp zs (i + 1), by go_num, by omega, Lib.hid ⟨HQ.out, HP.out.2.1, ?_, ?_⟩⟩
              · rw [HP.out.2.2]
                exact HoldU.put (HoldU.put (HoldU.drew (HoldU.drew HS.out.2.2.1 _) 1) HLJ.out y) (by have := HLJ.out; simp; omega) x
              · exact (((HS.out.2.2.2.drewN _).drew.setCell (p := ⟨g, i + 1, none⟩) (.inr rfl) _).setCell (p := ⟨g, i, none⟩) (.inr rfl) _)
            case measure => simp [intOf]
    · have HE : Hid (zs.Pairwise (· ≤ ·)) := Lib.hid (SoTo.pair (by
        have hl : zs.length = n := by rw [HS.out.1.length_eq, ← HN.out]
        rw [hl]
        exact fun x y h1 h2 => HS.out.2.1 x y h1 (by omega)))
      go_wp2_with fail
      go_end0
      exact ⟨rfl, zs, HS.out.1, HE.out, HS.out.2.2.1, HS.out.2.2.2⟩

set_option maxHeartbeats 1000000 in
theorem pdqU {w : World} {g c : Nat} {zs0 : List Int} (n : Nat) (lim : Int) (hn : n = zs0.length) (h12 : n ≤ 12) (hc : n ≤ c) (hg : g < w.heap.size) (h : HoldU w g zs0) :
    Calls Try.prog 54 #[.slice (some ⟨g, 0, none⟩) n c, .int .i64 0, .int .i64 n, .int .i64 lim] w fun e w' => e = .returned (.tuple #[]) ∧ ∃ zs, zs.Perm zs0 ∧ zs.Pairwise (· ≤ ·) ∧ HoldU w' g zs ∧ Chg (fun k => k = g) w w' := by
  have HH := Lib.hid h
  have HN := Lib.hid hn
  clear h hn
  go_enter Try.func54, Try.ntmps54
  go_wp2
  refine wp_loop_rounds 1 ?_
  rw [rounds_succ]
  go_wp2_with (go_at_call 67; refine (insU n HN.out h12 hc hg HH.out).mono ?_; rintro e w2 ⟨rfl, hz⟩)
  exact bodyPost_ret (results_none rfl _ _ _) rfl ⟨rfl, hz⟩
set_option maxHeartbeats 1000000 in
theorem insU_nil {w : World} {A : Option Addr} {c : Nat} : Calls Try.prog 67 #[.slice A 0 c, .int .i64 0, .int .i64 0] w fun e w' => e = .returned (.tuple #[]) ∧ w = w' := by
  go_enter Try.func67, Try.ntmps67
  go_wp2
  refine wp_loop_rounds 1 ?_
  rw [rounds_succ]
  go_wp2
  go_end0
  exact ⟨rfl, rfl⟩
set_option maxHeartbeats 1000000 in
theorem pdqU_nil {w : World} {A : Option Addr} {c : Nat} (lim : Int) : Calls Try.prog 54 #[.slice A 0 c, .int .i64 0, .int .i64 0, .int .i64 lim] w fun e w' => e = .returned (.tuple #[]) ∧ w = w' := by
  go_enter Try.func54, Try.ntmps54
  go_wp2
  refine wp_loop_rounds 1 ?_
  rw [rounds_succ]
  go_wp2_with (go_at_call 67; refine insU_nil.mono ?_; rintro e w2 ⟨rfl, rfl⟩)
  exact bodyPost_ret (results_none rfl _ _ _) rfl ⟨rfl, rfl⟩
set_option maxHeartbeats 1000000 in
theorem bitsLenU {w : World} (n : Nat) (h : n ≤ 12) : Calls Try.prog 55 #[.int .u64 n] w fun e w' => (∃ z, e = .returned (.int .i64 z)) ∧ w = w' := by
  go_enter Try.func55, Try.ntmps55
  go_wp2_with (go_at_call 77; refine (len64_any n w (by omega) (by omega)).mono ?_; rintro e w2 ⟨rfl, rfl⟩)
  go_ret
  exact ⟨⟨_, rfl⟩, rfl⟩
set_option maxHeartbeats 1000000 in
theorem sortU {w : World} {g c : Nat} {zs0 : List Int} (n : Nat) (hn : n = zs0.length) (h12 : n ≤ 12) (hc : n ≤ c) (hg : g < w.heap.size) (h : HoldU w g zs0) :
    Calls Try.prog 46 #[.slice (some ⟨g, 0, none⟩) n c] w fun e w' => e = .returned (.tuple #[]) ∧ ∃ zs, zs.Perm zs0 ∧ zs.Pairwise (· ≤ ·) ∧ HoldU w' g zs ∧ Chg (fun k => k = g) w w' := by
  have HH := Lib.hid h
  have HN := Lib.hid hn
  clear h hn
  have hw : IntKind.u64.wrap (n : Int) = (n : Int) := by simp [IntKind.wrap, IntKind.signed, IntKind.bits]; omega
  go_enter Try.func46, Try.ntmps46
  go_wp2_with fail
  refine (bitsLenU n h12).mono ?_
  rintro e w2 ⟨⟨z, rfl⟩, rfl⟩
  go_wp2_with fail
  refine (pdqU n z HN.out h12 hc hg HH.out).mono ?_
  rintro e w2 ⟨rfl, hz⟩
  go_wp2
  go_end0
  exact ⟨rfl, hz⟩
set_option maxHeartbeats 1000000 in
theorem sortU_nil {w : World} {A : Option Addr} {c : Nat} : Calls Try.prog 46 #[.slice A 0 c] w fun e w' => e = .returned (.tuple #[]) ∧ w = w' := by
  have hw : IntKind.u64.wrap (0 : Int) = (0 : Int) := by simp [IntKind.wrap, IntKind.signed, IntKind.bits]
  go_enter Try.func46, Try.ntmps46
  go_wp2_with fail
  refine (bitsLenU 0 (by omega)).mono ?_
  rintro e w2 ⟨⟨z, rfl⟩, rfl⟩
  go_wp2_with fail
  refine (pdqU_nil z).mono ?_
  rintro e w2 ⟨rfl, rfl⟩
  go_wp2
  go_end0
  exact ⟨rfl, rfl⟩

/-- a number, as a row's element -/
def encU (x : Int) : List Value := [.int .u16 x]
theorem sorted_is {L : List Vn} {zs : List Int} (hr : Ris L) (hp : zs.Perm (vks L)) (hs : zs.Pairwise (· ≤ ·)) : zs = vks L :=
  hp.eq_of_pairwise (le := (· ≤ ·)) (fun a b _ _ h1 h2 => Int.le_antisymm h1 h2) hs ((vks_ris hr).imp fun h => by omega)
set_option maxHeartbeats 2000000 in
/-- slices.Sorted(maps.Keys(m)), the second call -/
theorem sortedU (mb : Option Nat) (L : List Vn) (hr : Ris L) (h8 : L.length ≤ 8) (Bm : Nat) (w : World) (hBm : Bm < w.heap.size) (hm : w.cell? ⟨Bm, 0, none⟩ = some (.map mb)) (hv : Vof w mb L) :
    Calls Try.prog 39 #[.func (.func 47) #[] #[.pointer (some ⟨Bm, 0, none⟩)]] w fun e w' => ∃ A c, e = .returned (.slice A L.length c) ∧ Els 1 encU w' A (vks L) ∧ (∀ b off, A = some ⟨b, off, none⟩ → w.heap.size ≤ b) ∧ Below w.heap.size w w' := by
  go_enter Try.func39, Try.ntmps39
  go_wp2_with fail
  refine (collectU_any mb L hr h8 Bm w hBm hm hv).mono ?_
  rintro e w2 ⟨v, ys, hp, rfl, hrow, hnil, hb⟩
  have hlen : ys.length = L.length := by rw [hp.length_eq, vks_len]
  rcases hrow.2 with ⟨rfl, h0⟩ | ⟨g, cap, cur, rfl, hgb, hgg, h1, h2, h3⟩
  · have hys : ys = [] := hnil.1 rfl
    subst hys
    have HL : Hid (L.length = 0) := Lib.hid (by simpa using hlen.symm)
    have HB := Lib.hid hb
    clear hrow hnil hb hp hlen h0
    go_wp2_with fail
    refine sortU_nil.mono ?_
    rintro e w3 ⟨rfl, rfl⟩
    go_wp2
    go_ret
    refine ⟨none, 0, ret_ (by rw [HL.out]; rfl), fun h => ?_, (fun b off e => by cases e), HB.out⟩
    rw [vks_len, HL.out] at h
    omega
  · have hhold : HoldU w2 g ys := by
      intro k x hk
      have hc := World.ownsRow.cells hrow (g := g) rfl k (.int .u16 x) (by simp [hk])
      have hadd : (⟨g, 0, none⟩ : Addr).add k = ⟨g, k, none⟩ := by unfold Addr.add; split <;> simp_all
      rw [hadd] at hc
      exact ⟨hc, by simp [World.frozen?, hgg]⟩
    have HO := Lib.hid hhold
    have HP := Lib.hid hp
    have HL := Lib.hid hlen
    have HB := Lib.hid hb
    have HG := Lib.hid hgb
    have hcap : ys.length ≤ cap := by omega
    have hglt : g < w2.heap.size := (Array.getElem?_eq_some_iff.1 hgg).1
    obtain ⟨n, hn⟩ : ∃ n, ys.length = n := ⟨_, rfl⟩
    have HN := Lib.hid hn.symm
    rw [hn] at hcap ⊢
    have hn12 : n ≤ 12 := by omega
    clear hrow hnil hb hp hlen hgb hgg h1 h2 h3 hhold hn
    go_wp2_with fail
    refine (sortU n HN.out hn12 hcap hglt HO.out).mono ?_
    rintro e w3 ⟨rfl, zs, hzp, hzs, hzh, hzc⟩
    have hz : zs = vks L := sorted_is hr (hzp.trans HP.out) hzs
    subst hz
    have HH := Lib.hid hzh
    have HC := Lib.hid hzc
    clear hzh hzc hzp hzs
    go_wp2
    go_ret
    have hnl : n = L.length := by rw [← HL.out, ← HN.out]
    subst hnl
    refine ⟨some ⟨g, 0, none⟩, cap, rfl, fun h0 => ⟨g, 0, rfl, ?_, fun i hi j v hv => ?_⟩, fun b off e => ?_, ?_⟩
    · exact Nat.lt_of_lt_of_le hglt HC.out.size
    · obtain rfl : j = 0 := by
        have := (List.getElem?_eq_some_iff.1 hv).1
        simp only [encU, List.length_cons, List.length_nil] at this
        omega
      have hv' : v = .int .u16 (vks L)[i] := by simpa [encU] using hv.symm
      subst hv'
      have := (HH.out i _ (List.getElem?_eq_getElem hi)).1
      simpa using this
    · cases e; exact HG.out
    · exact HB.out.trans (HC.out.below HB.out.size (fun k hk e => by have := HG.out; omega))
end Go.Proofs.Ytkmdgpfaaniibaa


/- package cfm: Of, Take. -/
namespace Go.Proofs.Ytkmdgpfaaniibaa
open Go.RowKit
set_option linter.unusedVariables false
set_option linter.unusedSimpArgs false
set_option maxRecDepth 100000

/-- the head of a frame's data, if the frame is one of fault management -/
def ofD (f : Fr) : List UInt8 := if f.ty = 0x8902 then f.data else []
/-- Take's memory: the result's block, the reader -/
structure CfS (W : World) (g b : Nat) (L : List UInt8) (er : Int) (w : World) : Prop where
  res : Blk w g 77 #[.int .u8 0, .int .u8 0, .int .u8 0, .string ⟨#[]⟩, .slice none 0 0]
  ne : g ≠ b
  ge : W.heap.size ≤ g ∧ W.heap.size ≤ b
  rdr : Rdr w b L er
  below : Below W.heap.size W w
theorem CfS.call {W w w' : World} {g b : Nat} {L L' : List UInt8} {er er' : Int} (h : CfS W g b L er w) (hr : Rdr w' b L' er') (hc : Chg (only b) w w') : CfS W g b L' er' w' := by
  obtain ⟨h1, h2, ⟨h3, h4⟩, h5, h6⟩ := h
  exact ⟨h1.chg hc h2, h2, ⟨h3, h4⟩, hr, h6.trans (Chg.below (hc.mono (S' := only b) (fun _ _ h => h)) h6.size (fun k hk hs => by unfold only at hs; omega))⟩
theorem CfS.next {W w w' : World} {g b : Nat} {L : List UInt8} {er : Int} (h : CfS W g b L er w) (hb : Below w.heap.size w w') : CfS W g b L er w' := by
  obtain ⟨h1, h2, h3, h5, h6⟩ := h
  exact ⟨h1.below hb h1.lt, h2, h3, Blk.below h5 hb (Blk.lt h5), h6.trans (hb.mono h6.size)⟩
theorem u8r_any {w : World} {b : Nat} {l : List UInt8} {er : Int} (h : Rdr w b l er) :
    Calls Try.prog 80 #[.pointer (some ⟨b, 0, none⟩)] w fun e w' => ∃ x : UInt8, num (tkV 1 l er) = x.toNat ∧ e = .returned (.int .u8 x.toNat) ∧ Rdr w' b (tkL 1 l er) (tkE 1 l er) ∧ Chg (only b) w w' := by
  have hlt : num (tkV 1 l er) < 256 := Nat.lt_of_lt_of_le (num_lt _) (Nat.pow_le_pow_right (by omega) (tkV_len 1 l er))
  refine (u8_any h).mono ?_
  rintro e w' ⟨rfl, hr, hc⟩
  have e1 : (UInt8.ofNat (num (tkV 1 l er))).toNat = num (tkV 1 l er) := by simp; omega
  exact ⟨UInt8.ofNat (num (tkV 1 l er)), e1.symm, by rw [e1], hr, hc⟩
theorem tkL_len (n : Nat) (l : List UInt8) (er : Int) : (tkL n l er).length ≤ l.length := by
  unfold tkL
  split
  · simp
  · exact Nat.le_refl _
theorem tkV_len2 (n : Nat) (l : List UInt8) (er : Int) : (tkV n l er).length ≤ l.length := by
  unfold tkV
  split
  · simp; omega
  · simp
/-- a list in memory is still there when a block of another type is stored -/
theorem els_row {w : World} {A : Option Addr} {l : List Tl} {g : Nat} {t : TypeId} {cs cs' : Array Value} (h : Els 2 tlV w A l) (hg : Blk w g t cs) (hd : True) (hA : ∀ a, A = some a → a.block ≠ g) : Els 2 tlV (w.setRow g cs') A l := by
  intro h0
  obtain ⟨b, off, e, hlt, hc⟩ := h h0
  refine ⟨b, off, e, by simpa using hlt, fun i hi j v hv => ?_⟩
  rw [World.cell?_of_block (w := w) (a := ⟨b, off + i * 2 + j, none⟩) (setRow_other w g b cs' (hA _ e))]
  exact hc i hi j v hv
end Go.Proofs.Ytkmdgpfaaniibaa


/- Layer 12: the law's Of, Same, great. -/
namespace Go.Proofs.Ytkmdgpfaaniibaa
open Go.RowKit
set_option linter.unusedVariables false
set_option linter.unusedSimpArgs false
set_option maxRecDepth 100000

theorem tl_snoc12 {l : List Tl} {k : Nat} {x : Tl} (hx : l[k]? = some x) : l.take (k + 1) = l.take k ++ [x] := by
  obtain ⟨hk, he⟩ := List.getElem?_eq_some_iff.1 hx
  rw [List.take_succ_eq_append_getElem hk, he]
/-- more than 400 bytes, more than 20 things, or a value of more than 2,000 bytes -/
def pdG (p : Pd) : Bool := decide (400 < p.x.length) || decide (20 < p.t.length) || p.t.any (fun x => decide (2000 < x.v.length))
theorem pdG_no {p : Pd} (h : pdG p = false) : p.x.length ≤ 400 ∧ p.t.length ≤ 20 ∧ ∀ x ∈ p.t, x.v.length ≤ 2000 := by
  unfold pdG at h
  simp only [Bool.or_eq_false_iff, decide_eq_false_iff_not, List.any_eq_false, decide_eq_true_eq] at h
  exact ⟨by omega, by omega, fun x hx => by have := h.2 x hx; omega⟩
/-- one result: a struct in memory -/
theorem results_cell_one {P : Program} {fn : Func} {p : Tmp} {ty : TypeId} (h : fn.results = #[.cell p ty]) (tmps : Array Value) (w : World) (g : Nat) (t : TypeId) (cs : Array Value) (d : TypeDesc)
    (hp : tmps.getD p undef = .pointer (some ⟨g, 0, none⟩)) (hg : Blk w g t cs)
    (hu : P.underlying ty = some d) (hd : (match d with | .struct _ | .array _ _ => true | _ => false) = true) (hi : (P.info? ty).map (·.size) = some cs.size) :
    (results fn tmps).run P w = .ok (.agg cs) w := by
  have hp' : tmps[p]?.getD undef = .pointer (some ⟨g, 0, none⟩) := by simpa using hp
  simp [results, h, hp', asAddr, run_loadVar_row w g t ty cs (0, 0) d hg hu hd hi]
end Go.Proofs.Ytkmdgpfaaniibaa


/- Regions that draw their order, walked by hand: a whole struct's load and store; append. -/
namespace Go.Proofs.Ytkmdgpfaaniibaa
open Go.RowKit
set_option linter.unusedVariables false
set_option linter.unusedSimpArgs false
set_option maxRecDepth 100000

theorem step_store_rowH {P : Program} {ops : Array Oper} {o : Oper} {a : Act} {w : World} {K : Act → World → Prop} {Q : Exit → Act → World → Prop} {E : Prop} (hgd : o.guard = none) (ty : TypeId) (p v : Operand) (ho : o.op = .store ty p v)
    (g : Nat) (hp : a.eval p = .pointer (some ⟨g, 0, none⟩)) (c' : Array Value) (hv : a.eval v = .agg c') (t : TypeId) (cs : Array Value) (hg : Blk w g t cs)
    (hi : (P.info? ty).map (·.size) = some c'.size) (hs : cs.size = c'.size) (h1 : c'.all (·.oneCell') = true)
    (h : K (a.put o.dst (.tuple #[])) (w.setRow g c')) : if Region.wanted o (yielded ops a.tmps) = true then Oper.wp P o a w K Q else E := by
  have hw : Region.wanted o (yielded ops a.tmps) = true := by simp [Region.wanted, hgd]
  rw [if_pos hw]
  unfold Oper.wp execOp
  simp only [ho, hp, hv, Instr.storeAt, Instr.sureAddr, Sem.run_bind, Sem.run_pure, Result.andThen_ok, run_storeVar_row w g t ty cs c' hg hi hs h1]
  exact h
theorem yieldsIf_rowH {P : Program} {ops : Array Oper} {S : World → Prop} {a : Act} {o : Oper} (ty : TypeId) (x : Nat) (ho : o.op = .load ty (.tmp x)) (hw : Region.wanted o (yielded ops a.tmps) = true) (g : Nat)
    (hx : a.eval (.tmp x) = .pointer (some ⟨g, 0, none⟩)) (t : TypeId) (cs : Array Value) (d : TypeDesc) (hg : ∀ w, S w → Blk w g t cs)
    (hu : P.underlying ty = some d) (hd : (match d with | .struct _ | .array _ _ => true | _ => false) = true) (hi : (P.info? ty).map (·.size) = some cs.size) : YieldsIf P ops S o (.agg cs) a :=
  .inl ⟨hw, fun w hS => by
    unfold execOp
    simp only [ho, hx, Instr.loadAt, Instr.sureAddr, Sem.run_bind, Sem.run_pure, Result.andThen_ok, run_loadVar_row w g t ty cs (0, 0) d (hg w hS) hu hd hi]⟩
end Go.Proofs.Ytkmdgpfaaniibaa

