/- Texts of several layers, laid together. -/
import Derived.Test.YtfdiolfelecccaaRows
import Derived.WalkKit
import Derived.ProofKit
import Derived.Below
import Derived.Lib.Hide
import Derived.Deep.Draws
import Derived.Laws.RangeAny
import Derived.LoopTactic
import Derived.Shelf.Strconv.Itoa0
import Derived.Maps.AppendAt
import Derived.Laws.AppendOwnNone
import Derived.OwnWalk
import Derived.Laws.IdiomStrings
import Derived.Lib.BufferRead
import Derived.Laws.Concat
import Derived.Deep.DeepCutAuto
import Derived.Outline
import Derived.OpenShut
import Derived.ShutString
import Derived.ChangeOld
import Derived.Deep.Slices
import Derived.Deep.Fields
import Derived.ChangeSame
import Derived.Laws.BitsAllLaws
import Derived.Deep.RegionLaw
import Derived.Stop.BytesEq
import Derived.Laws.Rows
import Derived.Deep.WholeRow
import Derived.Conc.LoneCalls
import Derived.Conc.LoneSelectN
import Derived.Conc.LoneSelect
import Derived.Laws.Tables
import Derived.StillTailTactics
import Derived.Laws.StructEq
import Derived.Sort.Grow
import Derived.Laws.IdiomCopy
import Derived.Lib.AppendStr
import Derived.Deep.RegionHeld3
import Derived.Maps.OwnSet
import Derived.Maps.Views
import Derived.DeepKeys4
import Derived.Lib.SliceRun
import Derived.Shelf.Strings.Repeat

/- Plain words on memory for this seat's proofs: a block known whole; a world that changed in some blocks alone. -/
namespace Go.Proofs.Ytfdiolfelecccaa
open Go.RowKit
set_option linter.unusedVariables false
set_option linter.unusedSimpArgs false
set_option maxRecDepth 100000

/-- block g is just these cells, of type t, none of them frozen -/
def Blk (w : World) (g : Nat) (t : TypeId) (cs : Array Value) : Prop := w.heap[g]? = some (.cells cs t (0, 0))

/-- of the blocks that were there, those outside S are as they were -/
structure Chg (S : Nat → Prop) (w w' : World) : Prop where
  os : w'.os = w.os
  tape : w'.tape = w.tape
  output : w'.output = w.output
  size : w.heap.size ≤ w'.heap.size
  block : ∀ k, k < w.heap.size → ¬ S k → w'.heap[k]? = w.heap[k]?

section
variable {S S' : Nat → Prop} {w w' w'' : World} {g : Nat} {t : TypeId} {cs : Array Value}

theorem Chg.refl (S : Nat → Prop) (w : World) : Chg S w w := ⟨rfl, rfl, rfl, Nat.le_refl _, fun _ _ _ => rfl⟩
theorem Chg.trans (h : Chg S w w') (h' : Chg S w' w'') : Chg S w w'' :=
  ⟨h'.os.trans h.os, h'.tape.trans h.tape, h'.output.trans h.output, Nat.le_trans h.size h'.size,
   fun k hk hs => (h'.block k (Nat.lt_of_lt_of_le hk h.size) hs).trans (h.block k hk hs)⟩
theorem Chg.mono (h : Chg S w w') (hs : ∀ k, k < w.heap.size → S k → S' k) : Chg S' w w' :=
  ⟨h.os, h.tape, h.output, h.size, fun k hk hn => h.block k hk (fun hk' => hn (hs k hk hk'))⟩
theorem Chg.drew (h : Chg S w w') : Chg S w w'.drew := ⟨h.os, h.tape, h.output, h.size, h.block⟩
theorem Chg.drewN (h : Chg S w w') (n : Nat) : Chg S w (w'.drewN n) := ⟨h.os, h.tape, h.output, h.size, h.block⟩
theorem Chg.alloc (h : Chg S w w') (o : Obj) : Chg S w (w'.alloc o) :=
  ⟨h.os, h.tape, h.output, Nat.le_trans h.size (by simp), fun k hk hn => (Below.heap_alloc w' o k (Nat.lt_of_lt_of_le hk h.size)).trans (h.block k hk hn)⟩
theorem Chg.setCell (h : Chg S w w') {p : Addr} (hp : w.heap.size ≤ p.block ∨ S p.block) (u : Value) : Chg S w (w'.setCell p u) :=
  ⟨h.os, h.tape, h.output, Nat.le_trans h.size (by simp [World.setCell]), fun k hk hn => by
    rw [Below.heap_setCell w' p u k (by rintro rfl; exact hp.elim (fun hp => by omega) (fun hp => hn hp))]
    exact h.block k hk hn⟩
theorem Chg.of_below (h : Below w.heap.size w w') : Chg S w w' := ⟨h.os, h.tape, h.output, h.size, fun k hk _ => h.block k hk⟩
theorem Chg.below {B : Nat} (h : Chg S w w') (hB : B ≤ w.heap.size) (hs : ∀ k, k < B → ¬ S k) : Below B w w' :=
  ⟨h.os, h.tape, h.output, h.size, fun k hk => h.block k (Nat.lt_of_lt_of_le hk hB) (hs k hk)⟩
theorem Chg.of_grown {row : Option Nat} (h : w.grownBy w' row) (hr : ∀ k, row = some k → w.heap.size ≤ k ∨ S k) : Chg S w w' :=
  ⟨h.os, h.tape, h.output, h.size, fun k hk hn => h.block k hk (fun e => (hr k e.symm).elim (fun hp => by omega) (fun hp => hn hp))⟩
theorem Chg.cell (h : Chg S w w') {p : Addr} (hp : p.block < w.heap.size) (hn : ¬ S p.block) : w'.cell? p = w.cell? p :=
  World.cell?_of_block (w := w) (h.block p.block hp hn)
theorem Chg.frozen (h : Chg S w w') {p : Addr} (hp : p.block < w.heap.size) (hn : ¬ S p.block) : w'.frozen? p = w.frozen? p :=
  World.frozen?_of_block (w := w) (h.block p.block hp hn)

theorem Blk.lt (h : Blk w g t cs) : g < w.heap.size := by
  rcases Nat.lt_or_ge g w.heap.size with hlt | hge
  · exact hlt
  · unfold Blk at h; rw [Array.getElem?_eq_none hge] at h; cases h
theorem Blk.cell (h : Blk w g t cs) (i : Nat) : w.cell? ⟨g, i, none⟩ = cs[i]? := cell_of_row w g i cs t (0, 0) h
theorem Blk.frozen (h : Blk w g t cs) (i : Nat) : w.frozen? ⟨g, i, none⟩ = false := by
  unfold Blk at h
  simp [World.frozen?, h]
theorem Blk.new (w : World) (t : TypeId) (cs : Array Value) : Blk (w.alloc (.cells cs t)) w.heap.size t cs := heap_alloc_new w _
theorem Blk.drew (h : Blk w g t cs) : Blk w.drew g t cs := h
theorem Blk.drewN (h : Blk w g t cs) (n : Nat) : Blk (w.drewN n) g t cs := h
theorem Blk.alloc (h : Blk w g t cs) (o : Obj) : Blk (w.alloc o) g t cs := (Below.heap_alloc w o g h.lt).trans h
theorem Blk.put (h : Blk w g t cs) (i : Nat) (u : Value) : Blk (w.setCell ⟨g, i, none⟩ u) g t (cs.setIfInBounds i u) := by
  unfold Blk at h ⊢
  simp [World.setCell, Array.getElem?_modify, h]
theorem Blk.far (h : Blk w g t cs) {p : Addr} (hp : g ≠ p.block) (u : Value) : Blk (w.setCell p u) g t cs := (Below.heap_setCell w p u g hp).trans h
theorem Blk.chg (h : Blk w g t cs) (hc : Chg S w w') (hn : ¬ S g) : Blk w' g t cs := (hc.block g h.lt hn).trans h
theorem Blk.below {B : Nat} (h : Blk w g t cs) (hb : Below B w w') (hg : g < B) : Blk w' g t cs := (hb.block g hg).trans h
end

/-- to hold a walk where it stands -/
def Stop (p : Prop) : Prop := p
theorem stop_ {p : Prop} (h : Stop p) : p := h
theorem Stop.go {p : Prop} (h : p) : Stop p := h
theorem ret_ {a b : Value} (h : a = b) : Ending.returned a = Ending.returned b := by rw [h]
theorem extract_drop (l : List UInt8) (n : Nat) : (⟨l.toArray⟩ : ByteArray).extract n l.length = ⟨(l.drop n).toArray⟩ := by
  apply ByteArray.ext
  simp [ByteArray.data_extract, List.take_of_length_le]
theorem extract_take (l : List UInt8) (n : Nat) : (⟨l.toArray⟩ : ByteArray).extract 0 n = ⟨(l.take n).toArray⟩ := by
  apply ByteArray.ext
  simp [ByteArray.data_extract]
end Go.Proofs.Ytfdiolfelecccaa


/- Layer 10: an association's names and their bytes, as lists. -/
namespace Go.Proofs.Ytfdiolfelecccaa
open Go.RowKit
set_option linter.unusedVariables false
set_option linter.unusedSimpArgs false
set_option maxRecDepth 100000

/-- a byte that a name may have; a name -/
def nmB (b : UInt8) : Bool := decide (32 ≤ b.toNat) && decide (b.toNat ≤ 126)
def isn (l : List UInt8) : Bool := l.all nmB && !l.isEmpty
/-- why there are no bytes -/
def mdE (a b : List UInt8) : Int := if (!a.isEmpty && !isn a) || !isn b then 2 else if 44 < a.length + b.length then 5 else 0
def mdH (a : List UInt8) : List UInt8 := if a = [] then [1] else 4 :: UInt8.ofNat a.length :: a
def mdB (a b : List UInt8) : List UInt8 := mdH a ++ 2 :: UInt8.ofNat b.length :: b
def mdW (a b : List UInt8) : List UInt8 := mdB a b ++ List.replicate (48 - (mdB a b).length) 0
/-- the bytes; or none -/
def mdV (a b : List UInt8) : List UInt8 := if mdE a b = 0 then mdW a b else []

theorem isn_ne {l : List UInt8} (h : isn l = true) : l ≠ [] := by
  intro e; subst e; simp [isn] at h
theorem mdE0 {a b : List UInt8} (h : mdE a b = 0) : (a = [] ∨ isn a = true) ∧ isn b = true ∧ a.length + b.length ≤ 44 := by
  unfold mdE at h
  split at h
  · cases h
  · rename_i h1
    split at h
    · cases h
    · rename_i h2
      simp only [Bool.or_eq_true, Bool.and_eq_true, Bool.not_eq_true', not_or, not_and, Bool.not_eq_false] at h1
      refine ⟨?_, h1.2, by omega⟩
      cases a with
      | nil => exact .inl rfl
      | cons x a => exact .inr (h1.1 rfl)
theorem mdE_of {a b : List UInt8} (h1 : a = [] ∨ isn a = true) (h2 : isn b = true) (h3 : a.length + b.length ≤ 44) : mdE a b = 0 := by
  unfold mdE
  rw [if_neg, if_neg (by omega)]
  rcases h1 with rfl | h1
  · simp [h2]
  · simp [h1, h2]
theorem mdE_cases (a b : List UInt8) : mdE a b = 0 ∨ mdE a b = 2 ∨ mdE a b = 5 := by
  unfold mdE
  split
  · exact .inr (.inl rfl)
  · split
    · exact .inr (.inr rfl)
    · exact .inl rfl
theorem mdH_len (a : List UInt8) : (mdH a).length = if a = [] then 1 else a.length + 2 := by
  unfold mdH
  split <;> simp
theorem mdB_len (a b : List UInt8) : (mdB a b).length = (if a = [] then 1 else a.length + 2) + b.length + 2 := by
  unfold mdB
  rw [List.length_append, mdH_len]
  simp
  omega
theorem mdB_le {a b : List UInt8} (h : mdE a b = 0) : (mdB a b).length ≤ 48 := by
  have h3 := (mdE0 h).2.2
  rw [mdB_len]
  split <;> omega
theorem mdV_len {a b : List UInt8} (h : mdE a b = 0) : (mdV a b).length = 48 := by
  have := mdB_le h
  unfold mdV mdW
  rw [if_pos h, List.length_append, List.length_replicate]
  omega
theorem mdV_ne {a b : List UInt8} (h : mdE a b ≠ 0) : mdV a b = [] := by
  unfold mdV
  rw [if_neg h]
/-- a number that is a byte's -/
theorem ofNat_toNat_small (n : Nat) (h : n < 256) : (UInt8.ofNat n).toNat = n := by
  rw [UInt8.toNat_ofNat']
  omega

/-- taking them apart: behind a mark and a number, so many bytes -/
def cutN : List UInt8 → List UInt8 × List UInt8
  | [] => ([], [])
  | n :: r => (r.take n.toNat, r.drop n.toNat)
theorem cutN_put (b r : List UInt8) (h : b.length < 256) : cutN (UInt8.ofNat b.length :: b ++ r) = (b, r) := by
  unfold cutN
  simp only [List.cons_append]
  rw [ofNat_toNat_small _ h]
  simp
/-- the names in bytes, if they are names' bytes -/
def mdR : List UInt8 → List UInt8 × List UInt8
  | [] => ([], [])
  | x :: r => if x = 4 then ((cutN r).1, (cutN ((cutN r).2.drop 1)).1) else ([], (cutN (r.drop 1)).1)
theorem mdR_put {a b : List UInt8} (h : mdE a b = 0) : mdR (mdV a b) = (a, b) := by
  obtain ⟨h1, h2, h3⟩ := mdE0 h
  unfold mdV mdW
  rw [if_pos h]
  generalize 48 - (mdB a b).length = k
  unfold mdB mdH
  by_cases ha : a = []
  · subst ha
    simp only [if_true, List.cons_append, List.nil_append, mdR]
    rw [if_neg (by decide)]
    simp only [List.drop_succ_cons, List.drop_zero]
    have := cutN_put b (List.replicate k 0) (by simp at h3; omega)
    simp only [List.cons_append] at this
    rw [this]
  · rw [if_neg ha]
    simp only [List.cons_append, mdR]
    rw [if_pos trivial]
    have e1 := cutN_put a ((2 :: UInt8.ofNat b.length :: b) ++ List.replicate k 0) (by omega)
    simp only [List.cons_append, List.append_assoc] at e1 ⊢
    rw [e1]
    simp only [List.drop_succ_cons, List.drop_zero]
    have e2 := cutN_put b (List.replicate k 0) (by omega)
    simp only [List.cons_append] at e2
    rw [e2]
theorem mdV_inj {a b c d : List UInt8} (h : mdE a b = 0) (h' : mdE c d = 0) (e : mdV a b = mdV c d) : a = c ∧ b = d := by
  have e1 := mdR_put h
  rw [e, mdR_put h'] at e1
  simpa [eq_comm] using e1
/-- these are the names of the bytes s, or there are none -/
def Tk (s a b : List UInt8) (e : Int) : Prop := (e = 0 ∧ mdE a b = 0 ∧ mdV a b = s) ∨ (e = 4 ∧ a = [] ∧ b = [] ∧ ∀ c d, mdE c d = 0 → mdV c d ≠ s)
theorem Tk.uniq {s a b c d : List UInt8} {e f : Int} (h : Tk s a b e) (h' : Tk s c d f) : a = c ∧ b = d ∧ e = f := by
  rcases h with ⟨h1, h2, h3⟩ | ⟨h1, h2, h3, h4⟩ <;> rcases h' with ⟨k1, k2, k3⟩ | ⟨k1, k2, k3, k4⟩
  · obtain ⟨e1, e2⟩ := mdV_inj h2 k2 (by rw [h3, k3])
    exact ⟨e1, e2, by rw [h1, k1]⟩
  · exact absurd h3 (k4 a b h2)
  · exact absurd k3 (h4 c d k2)
  · exact ⟨by rw [h2, k2], by rw [h3, k3], by rw [h1, k1]⟩
/-- the bytes' names as a function -/
def tkA (s : List UInt8) : List UInt8 := if mdE (mdR s).1 (mdR s).2 = 0 ∧ mdV (mdR s).1 (mdR s).2 = s then (mdR s).1 else []
def tkB (s : List UInt8) : List UInt8 := if mdE (mdR s).1 (mdR s).2 = 0 ∧ mdV (mdR s).1 (mdR s).2 = s then (mdR s).2 else []
def tkEr (s : List UInt8) : Int := if mdE (mdR s).1 (mdR s).2 = 0 ∧ mdV (mdR s).1 (mdR s).2 = s then 0 else 4
theorem tk_is (s : List UInt8) : Tk s (tkA s) (tkB s) (tkEr s) := by
  unfold tkA tkB tkEr
  by_cases h : mdE (mdR s).1 (mdR s).2 = 0 ∧ mdV (mdR s).1 (mdR s).2 = s
  · simp only [h, and_self, if_true]
    exact .inl ⟨rfl, h.1, h.2⟩
  · rw [if_neg h, if_neg h, if_neg h]
    refine .inr ⟨rfl, rfl, rfl, fun c d hc e => h ?_⟩
    have := mdR_put hc
    rw [e] at this
    rw [this]
    exact ⟨hc, e⟩
end Go.Proofs.Ytfdiolfelecccaa


/- Layer 17: what becomes of a message, as numbers. -/
namespace Go.Proofs.Ytfdiolfelecccaa
open Go.RowKit
set_option linter.unusedVariables false
set_option linter.unusedSimpArgs false
set_option maxRecDepth 100000

/-- is a level in a set; is one from a level on -/
def bt (s : UInt8) (j : Nat) : Bool := s.toNat / 2 ^ j % 2 == 1
def hi (s : UInt8) (l : Nat) : Bool := !(s.toNat / 2 ^ l == 0)
/-- the fate of a message that comes to the points of f, and then to those of o -/
def fa (f o : UInt8) (m : Int) (l : Nat) : Nat := if 7 < l then 0 else if bt f l then 2 else if hi f l then 0 else if hi o l then 0 else if m = (l : Int) then 3 else 1
theorem fa_le (f o : UInt8) (m : Int) (l : Nat) : fa f o m l ≤ 3 := by
  unfold fa
  split
  · omega
  · split
    · omega
    · split
      · omega
      · split
        · omega
        · split <;> omega
theorem hi_all : ∀ s : Fin 256, ∀ l : Fin 8, (!(s.val / 2 ^ l.val == 0)) = (List.range 8).any (fun j => decide (l.val ≤ j) && (s.val / 2 ^ j % 2 == 1)) := by decide +kernel
theorem hi_is (s : UInt8) (l : Nat) (h : l < 8) : hi s l = true ↔ ∃ j, l ≤ j ∧ j < 8 ∧ bt s j = true := by
  have := hi_all ⟨s.toNat, s.toNat_lt⟩ ⟨l, h⟩
  simp only at this
  unfold hi bt
  rw [this, List.any_eq_true]
  constructor
  · rintro ⟨j, hj, hh⟩
    simp only [Bool.and_eq_true, decide_eq_true_eq] at hh
    exact ⟨j, hh.1, List.mem_range.1 hj, hh.2⟩
  · rintro ⟨j, h1, h2, h3⟩
    exact ⟨j, List.mem_range.2 h2, by simp only [Bool.and_eq_true, decide_eq_true_eq]; exact ⟨h1, h3⟩⟩
theorem hi_no (s : UInt8) (l : Nat) (h : l < 8) (hh : ∀ j, j < 8 → bt s j = true → j < l) : hi s l = false := by
  rw [← Bool.not_eq_true]
  intro e
  obtain ⟨j, h1, h2, h3⟩ := (hi_is s l h).1 e
  have := hh j h2 h3
  omega
theorem bt_hi (s : UInt8) (l j : Nat) (hj : j < 8) (hl : l ≤ j) (h : bt s j = true) : hi s l = true := (hi_is s l (by omega)).2 ⟨j, hl, hj, h⟩
theorem hi_or : ∀ d u : Fin 256, ∀ l : Fin 8, (((d.val ||| u.val) / 2 ^ l.val == 0) = true) ↔ ((d.val / 2 ^ l.val == 0) = true ∧ (u.val / 2 ^ l.val == 0) = true) := by
  intro d u l
  simp only [beq_iff_eq]
  rw [← Nat.shiftRight_eq_div_pow, ← Nat.shiftRight_eq_div_pow, ← Nat.shiftRight_eq_div_pow, Nat.shiftRight_or_distrib]
  constructor
  · intro h
    exact ⟨Nat.eq_zero_of_le_zero (h ▸ Nat.left_le_or), Nat.eq_zero_of_le_zero (h ▸ Nat.right_le_or)⟩
  · rintro ⟨h1, h2⟩
    rw [h1, h2]
    rfl
theorem or_hi (d u : UInt8) (l : Nat) (h : l < 8) : ((d.toNat ||| u.toNat) / 2 ^ l == 0) = (!(hi d l) && !(hi u l)) := by
  have := hi_or ⟨d.toNat, d.toNat_lt⟩ ⟨u.toNat, u.toNat_lt⟩ ⟨l, h⟩
  simp only at this
  unfold hi
  rw [Bool.eq_iff_iff, this]
  simp
/-- does a point stand there -/
def sd (s at_ : UInt8) : Bool := decide (at_.toNat < 8) && bt s at_.toNat
theorem fa_far {f o : UInt8} {m : Int} {l : Nat} (h : 7 < l) : fa f o m l = 0 := by unfold fa; rw [if_pos h]
/-- above all points -/
theorem fa_free {f o : UInt8} {m : Int} {l : Nat} (h : l < 8) (hf : hi f l = false) (ho : hi o l = false) : fa f o m l = if m = (l : Int) then 3 else 1 := by
  have hb : bt f l = false := by
    rw [← Bool.not_eq_true]
    intro e
    have := bt_hi f l l h (Nat.le_refl _) e
    rw [hf] at this
    cases this
  unfold fa
  rw [if_neg (by omega), hb, hf, ho]
  simp
/-- at a level that is not above all -/
theorem fa_bar {f o : UInt8} {m : Int} {l : Nat} (h : l < 8) (hh : hi f l = true ∨ hi o l = true) : fa f o m l = if bt f l then 2 else 0 := by
  unfold fa
  rw [if_neg (by omega)]
  cases hb : bt f l
  · simp only [Bool.false_eq_true, if_false]
    cases hf : hi f l
    · rcases hh with hh | hh
      · rw [hf] at hh; cases hh
      · rw [hh]; simp
    · simp
  · simp
theorem sd_free {s l : UInt8} (h : hi s l.toNat = false) : sd s l = false := by
  unfold sd
  by_cases hl : l.toNat < 8
  · rw [← Bool.not_eq_true]
    intro e
    simp only [Bool.and_eq_true, decide_eq_true_eq] at e
    have := bt_hi s l.toNat l.toNat hl (Nat.le_refl _) e.2
    rw [h] at this
    cases this
  · simp [hl]
theorem sd_above {s l f : UInt8} (h : hi s l.toNat = false) (hl : l.toNat ≤ f.toNat) : sd s f = false := by
  unfold sd
  by_cases hf : f.toNat < 8
  · rw [← Bool.not_eq_true]
    intro e
    simp only [Bool.and_eq_true, decide_eq_true_eq] at e
    have := bt_hi s l.toNat f.toNat hf hl e.2
    rw [h] at this
    cases this
  · simp [hf]
theorem sd_bt {s l : UInt8} (h : l.toNat < 8) : sd s l = bt s l.toNat := by unfold sd; simp [h]
theorem sd_far {s l : UInt8} (h : ¬ l.toNat < 8) : sd s l = false := by unfold sd; simp [h]
end Go.Proofs.Ytfdiolfelecccaa


/- Layer 16: associations, end points, middle points, as lists. -/
namespace Go.Proofs.Ytfdiolfelecccaa
open Go.RowKit
set_option linter.unusedVariables false
set_option linter.unusedSimpArgs false
set_option maxRecDepth 100000

/-- an association; an end point; a middle point; a table -/
structure As where
  l : UInt8
  d : List UInt8
  n : List UInt8
  v : UInt16
  i : UInt8
  m : List UInt16
  deriving DecidableEq, Inhabited
structure Mp where
  a : Int
  m : UInt16
  p : UInt8
  u : Bool
  deriving DecidableEq, Inhabited
structure Mi where
  p : UInt8
  v : UInt16
  l : UInt8
  deriving DecidableEq, Inhabited
structure Tb where
  n : Nat
  A : List As
  E : List Mp
  M : List Mi
/-- numbers that rise, above p -/
def ris : Nat → List UInt16 → Bool
  | _, [] => true
  | p, x :: r => decide (p < x.toNat) && (decide (x.toNat < 8192) && ris x.toNat r)
/-- the last of numbers, or p -/
def lst16 (p : Nat) : List UInt16 → Nat
  | [] => p
  | x :: r => lst16 x.toNat r
theorem ris_app (p : Nat) (l r : List UInt16) : ris p (l ++ r) = (ris p l && ris (lst16 p l) r) := by
  induction l generalizing p with
  | nil => simp [ris, lst16]
  | cons x l ih => simp only [List.cons_append, ris, lst16, ih, Bool.and_assoc]
theorem lst16_snoc (p : Nat) (l : List UInt16) (x : UInt16) : lst16 p (l ++ [x]) = x.toNat := by
  induction l generalizing p with
  | nil => rfl
  | cons y l ih => exact ih _
theorem lst16_at (l : List UInt16) (k : Nat) (x : UInt16) (h : l[k]? = some x) : lst16 0 (l.take (k + 1)) = x.toNat := by
  obtain ⟨hk, he⟩ := List.getElem?_eq_some_iff.1 h
  rw [List.take_succ_eq_append_getElem hk, he, lst16_snoc]
def asM (a : As) : Bool := (mdE a.d a.n == 0) && (decide (a.l.toNat < 8) && ((decide (0 < a.v.toNat) && decide (a.v.toNat < 4095)) && ((a.i == 4 || a.i == 5) && ((decide (0 < a.m.length) && decide (a.m.length ≤ 8)) && ris 0 a.m))))
/-- the association of an end point -/
def Tb.of (T : Tb) (e : Mp) : As := T.A.getD e.a.toNat default
def Tb.addA (T : Tb) (a : As) : Tb × Nat × Nat :=
  if asM a = false then (T, 0, 2)
  else if T.A.any (fun b => b.d == a.d && b.n == a.n) = true then (T, 0, 8)
  else if T.A.length = 8 then (T, 0, 6)
  else ({ T with A := T.A ++ [a] }, T.A.length, 0)
def Tb.hasE (T : Tb) (m : Mp) : Bool := decide (0 ≤ m.a) && (decide (m.a < T.A.length) && (decide (m.p.toNat < T.n) && (T.of m).m.contains m.m))
/-- do two end points not go together -/
def Tb.clash (T : Tb) (x m : Mp) : Bool := (decide (x.a = m.a) && x.m == m.m) || (x.p == m.p && ((T.of x).v == (T.of m).v && ((T.of x).l == (T.of m).l && x.u == m.u)))
/-- is a middle point not above an end point -/
def Tb.under (T : Tb) (m : Mp) (x : Mi) : Bool := x.p == m.p && (x.v == (T.of m).v && decide (x.l.toNat ≤ (T.of m).l.toNat))
def Tb.addE (T : Tb) (m : Mp) : Tb × Nat :=
  if T.hasE m = false then (T, 2)
  else if T.E.any (fun x => T.clash x m) = true then (T, 8)
  else if T.M.any (fun x => T.under m x) = true then (T, 9)
  else ({ T with E := T.E ++ [m] }, 0)
def keepE (a : Int) (k : UInt16) (x : Mp) : Bool := !(decide (x.a = a) && x.m == k)
def Tb.dropE (T : Tb) (a : Int) (k : UInt16) : Tb × Nat :=
  if T.E.all (keepE a k) = true then (T, 7) else ({ T with E := T.E.filter (keepE a k) }, 0)
def Tb.hasM (T : Tb) (m : Mi) : Bool := decide (m.p.toNat < T.n) && ((decide (0 < m.v.toNat) && decide (m.v.toNat < 4095)) && decide (m.l.toNat < 8))
def Tb.addM (T : Tb) (m : Mi) : Tb × Nat :=
  if T.hasM m = false then (T, 2)
  else if T.M.any (fun x => x.p == m.p && x.v == m.v) = true then (T, 8)
  else if T.E.any (fun e => T.under e m) = true then (T, 9)
  else ({ T with M := T.M ++ [m] }, 0)
def keepM (p : UInt8) (v : UInt16) (x : Mi) : Bool := !(x.p == p && x.v == v)
def Tb.dropM (T : Tb) (p : UInt8) (v : UInt16) : Tb × Nat :=
  if T.M.all (keepM p v) = true then (T, 7) else ({ T with M := T.M.filter (keepM p v) }, 0)
/-- what stands at a port, in a VLAN: is an end point of a way and level there; the middle point's level -/
def Tb.lev (T : Tb) (p : UInt8) (v : UInt16) (u : Bool) (j : Nat) : Bool := T.E.any (fun e => e.p == p && ((T.of e).v == v && (e.u == u && decide ((T.of e).l.toNat = j))))
/-- eight levels as a set -/
def set8 (b0 b1 b2 b3 b4 b5 b6 b7 : Bool) : Nat := b0.toNat + 2 * (b1.toNat + 2 * (b2.toNat + 2 * (b3.toNat + 2 * (b4.toNat + 2 * (b5.toNat + 2 * (b6.toNat + 2 * b7.toNat))))))
theorem set8_lt (b0 b1 b2 b3 b4 b5 b6 b7 : Bool) : set8 b0 b1 b2 b3 b4 b5 b6 b7 < 256 := by
  unfold set8
  have h (b : Bool) : b.toNat ≤ 1 := by cases b <;> decide
  have := h b0; have := h b1; have := h b2; have := h b3; have := h b4; have := h b5; have := h b6; have := h b7
  omega
theorem set8_at : ∀ b0 b1 b2 b3 b4 b5 b6 b7 : Bool, ∀ j : Fin 8, (set8 b0 b1 b2 b3 b4 b5 b6 b7 / 2 ^ j.val % 2 == 1) = [b0, b1, b2, b3, b4, b5, b6, b7].getD j.val false := by decide +kernel
def setOf (f : Nat → Bool) : UInt8 := UInt8.ofNat (set8 (f 0) (f 1) (f 2) (f 3) (f 4) (f 5) (f 6) (f 7))
theorem bt_setOf (f : Nat → Bool) (j : Nat) (h : j < 8) : bt (setOf f) j = f j := by
  unfold bt setOf
  rw [UInt8.toNat_ofNat', Nat.mod_eq_of_lt (set8_lt _ _ _ _ _ _ _ _), set8_at _ _ _ _ _ _ _ _ ⟨j, h⟩]
  match j, h with
  | 0, _ => rfl
  | 1, _ => rfl
  | 2, _ => rfl
  | 3, _ => rfl
  | 4, _ => rfl
  | 5, _ => rfl
  | 6, _ => rfl
  | 7, _ => rfl
def Tb.set (T : Tb) (p : UInt8) (v : UInt16) (u : Bool) : UInt8 := setOf (T.lev p v u)
def Tb.mid (T : Tb) (p : UInt8) (v : UInt16) : Int := match T.M.find? (fun x => x.p == p && x.v == v) with
  | some x => x.l.toNat
  | none => -1
/-- a table that came to be -/
structure TbInv (T : Tb) : Prop where
  ass : ∀ a ∈ T.A, asM a = true
  en : ∀ e ∈ T.E, T.hasE e = true
  un : T.E.Pairwise (fun x y => T.clash x y = false)
  mi : ∀ e ∈ T.E, ∀ x ∈ T.M, T.under e x = false
theorem clash_comm (T : Tb) (x y : Mp) : T.clash x y = T.clash y x := by
  unfold Tb.clash
  have h1 : decide (x.a = y.a) = decide (y.a = x.a) := by rw [Bool.eq_iff_iff]; simp; exact eq_comm
  rw [h1, Bool.beq_comm (a := x.m), Bool.beq_comm (a := x.p), Bool.beq_comm (a := (T.of x).v), Bool.beq_comm (a := (T.of x).l), Bool.beq_comm (a := x.u)]
theorem inv_new (n : Nat) : TbInv ⟨n, [], [], []⟩ := ⟨by simp, by simp, by simp, by simp⟩
theorem of_addA {T : Tb} {a : As} {e : Mp} (h : T.hasE e = true) : Tb.of { T with A := T.A ++ [a] } e = T.of e := by
  unfold Tb.hasE at h
  simp only [Bool.and_eq_true, decide_eq_true_eq] at h
  unfold Tb.of
  simp only [List.getD_eq_getElem?_getD]
  rw [List.getElem?_append_left (by omega)]
theorem inv_addA {T : Tb} (h : TbInv T) (a : As) : TbInv (T.addA a).1 := by
  unfold Tb.addA
  split
  · exact h
  · rename_i h1
    split
    · exact h
    · split
      · exact h
      · refine ⟨fun b hb => ?_, fun e he => ?_, ?_, fun e he x hx => ?_⟩
        · rcases List.mem_append.1 hb with hb | hb
          · exact h.ass b hb
          · rw [List.mem_singleton.1 hb]; simpa using h1
        · have h2 := h.en e he
          have h3 := of_addA (a := a) h2
          unfold Tb.hasE at h2 ⊢
          rw [h3]
          simp only [Bool.and_eq_true, decide_eq_true_eq, List.length_append, List.length_singleton] at h2 ⊢
          exact ⟨h2.1, by omega, h2.2.2⟩
        · refine h.un.imp_of_mem (fun {x y} hx hy hxy => ?_)
          unfold Tb.clash at hxy ⊢
          rw [of_addA (a := a) (h.en x hx), of_addA (a := a) (h.en y hy)]
          exact hxy
        · have := h.mi e he x hx
          unfold Tb.under at this ⊢
          rw [of_addA (a := a) (h.en e he)]
          exact this
theorem inv_addE {T : Tb} (h : TbInv T) (m : Mp) : TbInv (T.addE m).1 := by
  unfold Tb.addE
  split
  · exact h
  · rename_i h1
    split
    · exact h
    · rename_i h2
      split
      · exact h
      · rename_i h3
        refine ⟨h.ass, fun e he => ?_, ?_, fun e he x hx => ?_⟩
        · show T.hasE e = true
          rcases List.mem_append.1 he with he | he
          · exact h.en e he
          · rw [List.mem_singleton.1 he]; simpa using h1
        · show (T.E ++ [m]).Pairwise (fun x y => T.clash x y = false)
          rw [List.pairwise_append]
          refine ⟨h.un, by simp, fun x hx y hy => ?_⟩
          rw [List.mem_singleton.1 hy, ← Bool.not_eq_true]
          intro hc
          exact h2 (List.any_eq_true.2 ⟨x, hx, hc⟩)
        · show T.under e x = false
          rcases List.mem_append.1 he with he | he
          · exact h.mi e he x hx
          · rw [List.mem_singleton.1 he, ← Bool.not_eq_true]
            intro hc
            exact h3 (List.any_eq_true.2 ⟨x, hx, hc⟩)
theorem inv_dropE {T : Tb} (h : TbInv T) (a : Int) (k : UInt16) : TbInv (T.dropE a k).1 := by
  unfold Tb.dropE
  split
  · exact h
  · exact ⟨h.ass, fun e he => h.en e (List.mem_filter.1 he).1, h.un.sublist List.filter_sublist, fun e he x hx => h.mi e (List.mem_filter.1 he).1 x hx⟩
theorem inv_addM {T : Tb} (h : TbInv T) (m : Mi) : TbInv (T.addM m).1 := by
  unfold Tb.addM
  split
  · exact h
  · split
    · exact h
    · split
      · exact h
      · rename_i h3
        refine ⟨h.ass, h.en, h.un, fun e he x hx => ?_⟩
        show T.under e x = false
        rcases List.mem_append.1 hx with hx | hx
        · exact h.mi e he x hx
        · rw [List.mem_singleton.1 hx, ← Bool.not_eq_true]
          intro hc
          exact h3 (List.any_eq_true.2 ⟨e, he, hc⟩)
theorem inv_dropM {T : Tb} (h : TbInv T) (p : UInt8) (v : UInt16) : TbInv (T.dropM p v).1 := by
  unfold Tb.dropM
  split
  · exact h
  · exact ⟨h.ass, h.en, h.un, fun e he x hx => h.mi e he x (List.mem_filter.1 hx).1⟩
theorem clash_self (T : Tb) (x : Mp) : T.clash x x = true := by unfold Tb.clash; simp
theorem count_pair {α : Type} {R : α → α → Prop} {l : List α} (h : l.Pairwise R) (p : α → Bool) (hp : ∀ x y, p x = true → p y = true → ¬ R x y) : l.countP p ≤ 1 := by
  induction l with
  | nil => simp
  | cons a l ih =>
    obtain ⟨h1, h2⟩ := List.pairwise_cons.1 h
    rw [List.countP_cons]
    by_cases ha : p a = true
    · have : l.countP p = 0 := by
        rw [List.countP_eq_zero]
        intro b hb hpb
        exact hp a b ha hpb (h1 b hb)
      rw [this, if_pos ha]
      omega
    · rw [if_neg ha]
      exact ih h2
theorem count_E {T : Tb} (h : TbInv T) (x : Mp) : T.E.countP (fun e => decide (e = x)) ≤ 1 :=
  count_pair h.un _ (fun a b ha hb => by
    simp only [decide_eq_true_eq] at ha hb
    rw [ha, hb, clash_self]
    simp)
theorem addE_ok {T : Tb} {m : Mp} (h : (T.addE m).2 = 0) : (T.addE m).1 = { T with E := T.E ++ [m] } ∧ T.E.countP (fun e => decide (e = m)) = 0 := by
  unfold Tb.addE at h ⊢
  split at h
  · cases h
  · split at h
    · cases h
    · rename_i h2
      split at h
      · cases h
      · rename_i h1 h3
        rw [if_neg h1, if_neg h2, if_neg h3]
        refine ⟨rfl, ?_⟩
        rw [List.countP_eq_zero]
        intro e he hh
        simp only [decide_eq_true_eq] at hh
        exact h2 (List.any_eq_true.2 ⟨e, he, by rw [hh]; exact clash_self T m⟩)
theorem addE_no {T : Tb} {m : Mp} (h : (T.addE m).2 ≠ 0) : (T.addE m).1 = T := by
  unfold Tb.addE at h ⊢
  split
  · rfl
  · split
    · rfl
    · split
      · rfl
      · rename_i h1 h2 h3
        rw [if_neg h1, if_neg h2, if_neg h3] at h
        exact absurd rfl h
theorem dropE_no {T : Tb} {a : Int} {k : UInt16} (h : (T.dropE a k).2 ≠ 0) : (T.dropE a k).1 = T := by
  unfold Tb.dropE at h ⊢
  split
  · rfl
  · rename_i h1
    rw [if_neg h1] at h
    exact absurd rfl h
theorem dropE_ok {T : Tb} (hi : TbInv T) {a : Int} {k : UInt16} (h : (T.dropE a k).2 = 0) : (T.dropE a k).1.E.length + 1 = T.E.length := by
  unfold Tb.dropE at h ⊢
  split at h
  · cases h
  · rename_i h1
    rw [if_neg h1]
    show (T.E.filter (keepE a k)).length + 1 = T.E.length
    have hc : T.E.countP (fun x => !(keepE a k x)) ≤ 1 := count_pair hi.un _ (fun x y hx hy => by
      unfold keepE at hx hy
      simp only [Bool.not_not, Bool.and_eq_true, decide_eq_true_eq, beq_iff_eq] at hx hy
      have : T.clash x y = true := by
        unfold Tb.clash
        rw [hx.1, hy.1, hx.2, hy.2]
        simp
      rw [this]
      simp)
    have h0 : 0 < T.E.countP (fun x => !(keepE a k x)) := by
      rw [List.countP_pos_iff]
      by_cases hh : ∃ x ∈ T.E, (!(keepE a k x)) = true
      · exact hh
      · refine absurd (List.all_eq_true.2 (fun x hx => ?_)) h1
        cases hq : keepE a k x
        · exact absurd ⟨x, hx, by rw [hq]; rfl⟩ hh
        · rfl
    have hl := List.length_eq_countP_add_countP (keepE a k) (l := T.E)
    rw [List.countP_eq_length_filter] at hl
    have e2 : T.E.countP (fun x => decide ¬ keepE a k x = true) = T.E.countP (fun x => !(keepE a k x)) := by
      congr 1
      funext x
      cases keepE a k x <;> rfl
    rw [e2] at hl
    omega
/-- ConfigStands looks at this -/
theorem stands_at {T : Tb} (h : TbInv T) {e : Mp} (he : e ∈ T.E) : T.lev e.p (T.of e).v e.u (T.of e).l.toNat = true := by
  unfold Tb.lev
  exact List.any_eq_true.2 ⟨e, he, by simp⟩
theorem stands_mid {T : Tb} (h : TbInv T) {e : Mp} (he : e ∈ T.E) : ¬ (0 ≤ T.mid e.p (T.of e).v ∧ T.mid e.p (T.of e).v ≤ ((T.of e).l.toNat : Int)) := by
  unfold Tb.mid
  cases hf : T.M.find? (fun x => x.p == e.p && x.v == (T.of e).v) with
  | none => simp
  | some x =>
    have h1 := List.find?_some hf
    have h2 := h.mi e he x (List.mem_of_find?_eq_some hf)
    simp only [Bool.and_eq_true, beq_iff_eq] at h1
    simp only
    intro hh
    have : T.under e x = true := by
      unfold Tb.under
      simp only [Bool.and_eq_true, beq_iff_eq, decide_eq_true_eq]
      exact ⟨h1.1, h1.2, by omega⟩
    rw [this] at h2
    cases h2
theorem of_level {T : Tb} (h : TbInv T) {e : Mp} (he : e ∈ T.E) : (T.of e).l.toNat < 8 ∧ 0 ≤ e.a ∧ e.a < T.A.length := by
  have h1 := h.en e he
  unfold Tb.hasE at h1
  simp only [Bool.and_eq_true, decide_eq_true_eq] at h1
  have hlt : e.a.toNat < T.A.length := by omega
  have hm : T.of e ∈ T.A := by
    unfold Tb.of
    rw [List.getD_eq_getElem?_getD, List.getElem?_eq_getElem hlt]
    exact List.getElem_mem hlt
  have h2 := h.ass _ hm
  unfold asM at h2
  simp only [Bool.and_eq_true, decide_eq_true_eq] at h2
  exact ⟨h2.2.1, h1.1, h1.2.1⟩
end Go.Proofs.Ytfdiolfelecccaa


/- package maid's isName: a range over a string. -/
namespace Go.Proofs.Ytfdiolfelecccaa
open Go.RowKit
set_option linter.unusedVariables false
set_option linter.unusedSimpArgs false
set_option maxRecDepth 100000

theorem byteM (l : List UInt8) (i : Nat) (h : i < (⟨l.toArray⟩ : ByteArray).size) : (⟨l.toArray⟩ : ByteArray)[i]'h = l.getD i 0 := by
  have hi : i < l.length := h
  show l[i]'hi = _
  simp [List.getD, hi]
theorem all_step {l : List UInt8} {k : Nat} (h : k < l.length) (h1 : (l.take k).all nmB = true) (h2 : nmB (l.getD k 0) = true) : (l.take (k + 1)).all nmB = true := by
  have e : l.take (k + 1) = l.take k ++ [l.getD k 0] := by
    rw [← List.take_append_getElem h]
    simp [List.getD, h]
  rw [e, List.all_append, h1]
  simpa using h2
theorem all_not {l : List UInt8} {k : Nat} (h : k < l.length) (h2 : nmB (l.getD k 0) = false) : l.all nmB = false := by
  rw [List.all_eq_false]
  refine ⟨l.getD k 0, ?_, by rw [h2]; decide⟩
  simp [List.getD, h]
set_option maxHeartbeats 1000000 in
theorem isname_any (l : List UInt8) (w : World) :
    Calls Try.prog 56 #[.string ⟨l.toArray⟩] w fun e w' => e = .returned (.bool (isn l)) ∧ ∃ pos, w' = w.iter ⟨l.toArray⟩ pos := by
  obtain ⟨s, hs⟩ : ∃ s : ByteArray, s = ⟨l.toArray⟩ := ⟨_, rfl⟩
  have hsz : s.size = l.length := by rw [hs]; rfl
  have hat : ∀ i (h : i < s.size), s[i]'h = l.getD i 0 := by subst hs; exact byteM l
  rw [← hs]
  have HS := Lib.hid hs
  clear hs
  go_enter Try.func56, Try.ntmps56
  go_wp2
  go_loopw [] (fun wr => ∃ pos : Nat, wr = w.iter s pos ∧ Hid (pos ≤ l.length ∧ (l.take pos).all nmB = true)) (fun wr => s.size - wr.iterPos w.heap.size)
  case atStart => exact ⟨0, rfl, Lib.hid ⟨Nat.zero_le _, by simp⟩⟩
  case round =>
    obtain ⟨pos, rfl, HP⟩ := hrel
    by_cases hp : pos < s.size
    · obtain ⟨x, hx⟩ : ∃ x, l.getD pos 0 = x := ⟨_, rfl⟩
      have hpl : pos < l.length := by rw [← hsz]; exact hp
      by_cases hb : nmB x = true
      · have h12 : 32 ≤ x.toNat ∧ x.toNat ≤ 126 := by simpa [nmB] using hb
        have hnx : ∀ ty, (Instr.next (.pointer (some ⟨w.heap.size, 0, none⟩)) true ty).run Try.prog (w.iter s pos) = .ok (.tuple #[.bool true, .int .i64 pos, .int .i32 x.toNat]) (w.iter s (pos + 1)) := fun ty => by
          rw [run_next_ascii w s pos ty hp (by rw [hat, hx]; omega), hat, hx]
        have d1 : ¬ (x.toNat : Int) < 32 := by omega
        have d2 : ¬ (126 : Int) < (x.toNat : Int) := by omega
        have HQ : Hid (pos + 1 ≤ l.length ∧ (l.take (pos + 1)).all nmB = true) := Lib.hid ⟨hpl, all_step hpl HP.out.2 (by rw [hx]; exact hb)⟩
        go_wp2
        go_roundw
        case rel => exact ⟨pos + 1, rfl, HQ⟩
        case measure => simp; omega
      · have hbf : nmB x = false := by simpa using hb
        have hall : isn l = false := by unfold isn; rw [all_not hpl (by rw [hx]; exact hbf)]; rfl
        have HA := Lib.hid hall
        clear hall hb
        by_cases ha : x.toNat < 128
        · have hnx : ∀ ty, (Instr.next (.pointer (some ⟨w.heap.size, 0, none⟩)) true ty).run Try.prog (w.iter s pos) = .ok (.tuple #[.bool true, .int .i64 pos, .int .i32 x.toNat]) (w.iter s (pos + 1)) := fun ty => by
            rw [run_next_ascii w s pos ty hp (by rw [hat, hx]; omega), hat, hx]
          by_cases d1 : (x.toNat : Int) < 32
          · go_wp2
            go_ret
            exact ⟨by rw [HA.out]; rfl, _, rfl⟩
          · have d2 : (126 : Int) < (x.toNat : Int) := by
              have : ¬ (32 ≤ x.toNat ∧ x.toNat ≤ 126) := by intro h; simp [nmB, h] at hbf
              omega
            go_wp2
            go_ret
            exact ⟨by rw [HA.out]; rfl, _, rfl⟩
        · have hh := decode_high s pos hp (by rw [hat, hx]; omega)
          have hnx : ∀ ty, (Instr.next (.pointer (some ⟨w.heap.size, 0, none⟩)) true ty).run Try.prog (w.iter s pos) = _ := fun ty => run_next_any w s pos ty hp
          obtain ⟨q, hq⟩ : ∃ q, Utf8.decode s pos = q := ⟨_, rfl⟩
          rw [hq] at hnx hh
          have d1 : ¬ (q.1 : Int) < 32 := by omega
          have d2 : (126 : Int) < (q.1 : Int) := by omega
          clear hh hq
          go_wp2
          go_ret
          exact ⟨by rw [HA.out]; rfl, _, rfl⟩
    · have hnx : ∀ ty, (Instr.next (.pointer (some ⟨w.heap.size, 0, none⟩)) true ty).run Try.prog (w.iter s pos) = _ := fun ty => run_next_end w s pos ty hp
      have hpe : pos = l.length := by have := HP.out.1; omega
      have hall := HP.out.2
      rw [hpe, List.take_length] at hall
      have HA := Lib.hid hall
      have hne : (l.isEmpty) = decide (s.size = 0) := by
        rw [hsz]
        cases l <;> simp
      clear hall hpe
      go_wp2
      go_ret
      refine ⟨?_, _, rfl⟩
      unfold isn
      rw [HA.out]
      rw [HS.out]
      cases l <;> simp
theorem below_iter (w : World) (s : ByteArray) (pos : Nat) : Below w.heap.size w (w.iter s pos) := (Below.refl _ _).alloc (Nat.le_refl _) _
end Go.Proofs.Ytfdiolfelecccaa


/- Leaves of layer wire: the widths of the four kinds of numbers. -/
namespace Go.Proofs.Ytfdiolfelecccaa
open Go.RowKit
set_option linter.unusedVariables false
set_option linter.unusedSimpArgs false
set_option maxRecDepth 100000

def len64_ren : Go.Shelf.Ren := ⟨fun | 129 => 75 | n => n, fun | 53 => 134 | 3 => 3 | 4 => 4 | 46 => 117 | 5 => 5 | 9 => 9 | n => n, fun | n => n⟩
theorem len64_lays : Go.Proofs.Lays.n129 Try.prog len64_ren := {
  mixed := by kernel_rfl
  f129 := Try.func75.trans (congrArg some (by kernel_rfl))
  t3 := Try.underlying3
  a3 := Try.isAgg3
  z3 := Try.sizeOf3
  v3 := Try.zeroValue3
  t4 := Try.underlying4
  a4 := Try.isAgg4
  z4 := Try.sizeOf4
  v4 := Try.zeroValue4
  t5 := Try.underlying5
  a5 := Try.isAgg5
  z5 := Try.sizeOf5
  v5 := Try.zeroValue5
  t9 := Try.underlying9
  a9 := Try.isAgg9
  z9 := Try.sizeOf9
  v9 := Try.zeroValue9
  t46 := Try.underlying117
  a46 := Try.isAgg117
  z46 := Try.sizeOf117
  v46 := Try.zeroValue117
  t53 := Try.underlying134
  a53 := Try.isAgg134
  z53 := Try.sizeOf134
  v53 := Try.zeroValue134 }
theorem len64_any (x : Int) (w : World) (h0 : 0 ≤ x) (h1 : x ≤ 18446744073709551615) :
    Calls Try.prog 75 #[.int .u64 x] w fun e w' => e = .returned (.int .i64 (Lib.bitLen x.toNat)) ∧ w' = w := Any.bits_Len64 len64_lays x w h0 h1


theorem width8 (w : World) : Calls Try.prog 69 #[] w fun e w' => e = .returned (.int .i64 1) ∧ w = w' := by
  have hk : IntKind.u64.wrap (bits BinOp.xor IntKind.u8 IntKind.u8.max 0) = 255 := by kernel_rfl
  have hl : Lib.bitLen 255 = 8 := by kernel_rfl
  have Hk := Lib.hid hk
  have Hl := Lib.hid hl
  clear hk hl
  go_enter Try.func69, Try.ntmps69
  go_wp2_with fail
  rw [Hk.out]
  refine (len64_any _ _ (by omega) (by omega)).mono ?_
  rintro e w' ⟨rfl, rfl⟩
  rw [show ((255 : Int)).toNat = 255 from rfl, Hl.out]
  go_wp2
  go_ret
  exact ⟨by simp, rfl⟩



end Go.Proofs.Ytfdiolfelecccaa


/- Slices of bytes: what they read as, those of a call's own, append of bytes; wire.Put. -/
namespace Go.Proofs.Ytfdiolfelecccaa
open Go.RowKit
set_option linter.unusedVariables false
set_option linter.unusedSimpArgs false
set_option maxRecDepth 100000

def bval (u : UInt8) : Value := .int .u8 u.toNat
def bvals (l : List UInt8) : List Value := l.map bval
theorem bvals_len (l : List UInt8) : (bvals l).length = l.length := by simp [bvals]
theorem bvals_app (l r : List UInt8) : bvals (l ++ r) = bvals l ++ bvals r := by simp [bvals]
theorem bvals_one (l : List UInt8) : ∀ u ∈ bvals l, u.oneCell' = true := by
  intro u hu
  obtain ⟨x, _, rfl⟩ := List.mem_map.1 hu
  rfl

/-- the slice at A reads as the bytes l -/
def Byt (w : World) (A : Option Addr) (l : List UInt8) : Prop :=
  0 < l.length → ∃ ad, A = some ad ∧ ∀ j u, (bvals l)[j]? = some u → w.cell? (ad.add j) = some u
theorem Byt.nil_ (w : World) (A : Option Addr) : Byt w A [] := fun h => absurd h (by simp)

/-- the slice v is the call's own, from block base on, and is the bytes l -/
def OwnB (w : World) (base : Nat) (v : Value) (l : List UInt8) : Prop := w.ownsRow base 5 1 v l.length (bvals l)

theorem u8_info : (Try.prog.info? 5).map (fun i => (i.zero, i.size, i.bytes)) = some (some (.int .u8 0), 1, 1) := by kernel_rfl

/-- append of bytes onto a slice of the call's own -/
theorem append_bytes {w : World} {ops : Array Oper} {rest : List Oper} {o : Oper} {a : Act} {Q : Exit → Act → World → Prop} (hgd : o.guard = none) (s x : Operand)
    (ho : o.op = .call { callee := .builtin .append, args := #[s, x], argTypes := #[110, 110] })
    (base : Nat) (v : Value) (l : List UInt8) (hs : a.eval s = v) (hown : OwnB w base v l)
    (A : Option Addr) (m c : Nat) (r : List UInt8) (hx : a.eval x = .slice A m c) (hm : m = r.length) (hz : A = none → c = 0) (hr : Byt w A r)
    (hlen : l.length + r.length ≤ 140737488355328) (hbase : base ≤ w.heap.size)
    (h : ∀ v' w', OwnB w' base v' (l ++ r) → w.grownBy w' v.ownBlock → wpList Try.prog ops Q rest (a.put o.dst v') w') : wpList Try.prog ops Q (o :: rest) a w := by
  obtain ⟨i, hi, hz0, hz1, hz2⟩ := info_parts u8_info
  subst hm
  have key : ∀ ad, A = some ad → (∀ j u, (bvals r)[j]? = some u → w.cell? (ad.add j) = some u) → wpList Try.prog ops Q (o :: rest) a w := by
    rintro ad rfl hc
    refine wpList_append_own_at w hgd s x _ ho base 5 i _ 1 1 Try.underlying110 hi hz0 hz1 hz2 rfl (by omega) v l.length (bvals l) hs hown ad r.length c (bvals r) hx (by simp [bvals]) hc (bvals_one r)
      (by simp only [maxLen]; omega) (by omega) hbase ?_
    intro v' w' h1 h2 _ _
    exact h v' w' (by unfold OwnB; rw [List.length_append, bvals_app]; exact h1) h2
  rcases Nat.eq_zero_or_pos r.length with h0 | h0
  · have hr0 : r = [] := List.eq_nil_of_length_eq_zero h0
    subst hr0
    cases A with
    | none =>
      have hc := hz rfl
      subst hc
      refine wpList_append_own_none hgd s x _ ho base 5 i 1 Try.underlying110 hi v l.length (bvals l) hs hown hx ?_
      exact h v w (by simpa using hown) ⟨rfl, rfl, rfl, Nat.le_refl _, fun _ _ _ => rfl⟩
    | some ad => exact key ad rfl (by simp [bvals])
  · obtain ⟨ad, hA, hc⟩ := hr h0
    exact key ad hA hc

/-- a number's bytes, the highest first -/
def dig : Nat → Nat → List UInt8
  | 0, _ => []
  | k + 1, n => dig k (n / 256) ++ [UInt8.ofNat (n % 256)]
theorem dig_len (k n : Nat) : (dig k n).length = k := by
  induction k generalizing n with
  | zero => rfl
  | succ k ih => simp [dig, ih]

theorem Byt.below {w w' : World} {A : Option Addr} {l : List UInt8} (h : Byt w A l) (hb : Below w.heap.size w w') : Byt w' A l := by
  intro hl
  obtain ⟨ad, hA, hc⟩ := h hl
  refine ⟨ad, hA, fun j u hu => ?_⟩
  rw [hb.cell (World.block_lt_of_cell? w _ (hc j u hu))]
  exact hc j u hu

theorem Byt.one (w : World) (t : TypeId) (v : Value) (u : UInt8) (h : v = bval u) : Byt (w.alloc (.cells #[v] t)) (some ⟨w.heap.size, 0, none⟩) [u] := by
  subst h
  intro _
  refine ⟨_, rfl, fun j y hy => ?_⟩
  match j, hy with
  | 0, hy =>
    have := (Blk.new w t #[bval u]).cell 0
    simp only [bvals, List.map_cons, List.map_nil, List.getElem?_cons_zero] at hy
    rw [← hy]
    exact this
theorem OwnB.alloc {w : World} {base : Nat} {v : Value} {l : List UInt8} (h : OwnB w base v l) (o : Obj) : OwnB (w.alloc o) base v l := World.ownsRow.alloc h o
theorem OwnB.drewN {w : World} {base : Nat} {v : Value} {l : List UInt8} (h : OwnB w base v l) (n : Nat) : OwnB (w.drewN n) base v l := h
theorem OwnB.ge {w : World} {base : Nat} {v : Value} {l : List UInt8} (h : OwnB w base v l) : ∀ k, v.ownBlock = some k → base ≤ k := fun k hk => (World.ownsRow.lt h k hk).1

theorem shr_byte (x : Int) (h : 0 ≤ x) (j : Nat) : x / 2 ^ (8 * j) % 256 = ((UInt8.ofNat (x.toNat / 256 ^ j % 256)).toNat : Int) := by
  obtain ⟨n, rfl⟩ := Int.eq_ofNat_of_zero_le h
  rw [Int.toNat_natCast]
  have e : ((UInt8.ofNat (n / 256 ^ j % 256)).toNat : Nat) = n / 256 ^ j % 256 := by
    simp
  rw [e]
  have : (2 : Int) ^ (8 * j) = ((256 ^ j : Nat) : Int) := by rw [Int.pow_mul]; simp
  rw [this]
  omega
theorem byte_zero (x : Int) (h : 0 ≤ x) (h1 : x ≤ 255) : Value.int .u8 x = bval (UInt8.ofNat (x.toNat / 256 ^ (0 - 0) % 256)) := by
  have := shr_byte x h 0
  unfold bval
  rw [← this]
  simp only [Nat.mul_zero, Int.pow_zero, Int.ediv_one]
  rw [Int.emod_eq_of_lt h (by omega)]
theorem dig_succ (w k n : Nat) (h : k < w) : dig (k + 1) (n / 256 ^ (w - (k + 1))) = dig k (n / 256 ^ (w - k)) ++ [UInt8.ofNat (n / 256 ^ (w - 1 - k) % 256)] := by
  have e : w - k = (w - (k + 1)) + 1 := by omega
  have e' : w - 1 - k = w - (k + 1) := by omega
  rw [e', e, Nat.pow_succ, ← Nat.div_div_eq_div_mul]
  rfl

set_option maxHeartbeats 400000 in
theorem put8_any {w : World} (A : Option Addr) (c : Nat) (l : List UInt8) (x : Int) (hA : Byt w A l) (hz : A = none → c = 0) (hl : l.length ≤ 70368744177664) (h0 : 0 ≤ x) (h1 : x ≤ 255) :
    Calls Try.prog 62 #[.slice A l.length c, .int .u8 x] w fun e w' => ∃ v, e = .returned v ∧ OwnB w' w.heap.size v (l ++ dig 1 x.toNat) ∧ Below w.heap.size w w' := by
  obtain ⟨i, hi, hz0, hz1, hz2⟩ := info_parts u8_info
  have HA := Lib.hid hA
  have HZ := Lib.hid hz
  clear hA hz
  go_enter Try.func62, Try.ntmps62
  go_wp2_with fail
  refine (width8 _).mono ?_
  rintro e w' ⟨rfl, rfl⟩
  go_wp2_with (at_make; refine wpList_make_own _ rfl _ _ 110 rfl w.heap.size 5 i _ 1 Try.underlying110 hi hz0 hz1 _ _ _ (l.length + 1) rfl rfl (by omega) (by rw [hz2]; omega) (by simp only [maxLen]; omega) (Nat.le_refl _) ?_)
  intro w1 hown1 hg1
  have hb1 : Below w.heap.size w w1 := (Below.refl _ _).grown hg1 (Nat.le_refl _) (fun k hk => by cases hk)
  have HO1 := Lib.hid hown1
  have HB1 := Lib.hid hb1
  clear hown1 hg1 hb1
  go_wp2_with (at_builtin; refine append_bytes rfl (.tmp 13) (.tmp 14) rfl w.heap.size _ [] rfl HO1.out A l.length c l rfl rfl HZ.out (HA.out.below HB1.out) (by simp; omega) HB1.out.size ?_)
  intro v2 w2 hown2 hg2
  have hb2 : Below w.heap.size w w2 := HB1.out.grown hg2 HB1.out.size (fun k hk => (HO1.out.lt k hk).1)
  have HO2 := Lib.hid hown2
  have HB2 := Lib.hid hb2
  clear hown2 hg2 hb2
  go_wp2
  go_loopw [6, 17] (fun v i wr => ∃ k : Nat, k ≤ 1 ∧ i = .int .i64 k ∧ OwnB wr w.heap.size v (l ++ dig k (x.toNat / 256 ^ (1 - k))) ∧ Below w.heap.size w wr) (fun _ i _ => 1 - (intOf i).toNat)
  case atStart => exact ⟨0, Nat.zero_le _, rfl, by simpa [dig] using HO2.out, HB2.out⟩
  case round =>
    obtain ⟨k, hk, rfl, hown, hb⟩ := hrel
    have HO := Lib.hid hown
    have HB := Lib.hid hb
    clear hown hb
    by_cases hlt : k < 1
    · obtain rfl : k = 0 := by omega
      go_wp2_with (at_builtin; refine append_bytes rfl (.tmp 20) (.tmp 28) rfl w.heap.size _ (l ++ dig 0 (x.toNat / 256 ^ (1 - 0))) rfl (HO.out.alloc _) (some ⟨wr.heap.size, 0, none⟩) 1 1 [UInt8.ofNat (x.toNat / 256 ^ (0 - 0) % 256)] rfl rfl (by simp) (Byt.one _ _ _ _ (byte_zero x h0 h1)) (by simp [dig_len]; omega) (by have := HB.out.size; simp; omega) ?_)
      intro v3 w3 hown3 hg3
      have hb3 : Below w.heap.size w w3 := (HB.out.alloc HB.out.size _).grown hg3 (by have := HB.out.size; simp; omega) HO.out.ge
      have hown4 : OwnB w3 w.heap.size v3 (l ++ dig 1 (x.toNat / 256 ^ (1 - 1))) := by simpa [dig] using hown3
      have HO3 := Lib.hid hown4
      have HB3 := Lib.hid hb3
      clear hown3 hown4 hg3 hb3
      go_wp2
      go_roundw
      case rel => exact ⟨1, by omega, by go_num, HO3.out, HB3.out⟩
      case measure => simp [intOf]
    · go_wp2
      go_ret
      obtain rfl : k = 1 := by omega
      exact ⟨_, rfl, by simpa using HO.out, HB.out⟩




end Go.Proofs.Ytfdiolfelecccaa


/- Slices of bytes and texts. -/
namespace Go.Proofs.Ytfdiolfelecccaa
open Go.RowKit
set_option linter.unusedVariables false
set_option linter.unusedSimpArgs false
set_option maxRecDepth 100000

/-- the value v is a slice that reads as the bytes l -/
def Str (w : World) (v : Value) (l : List UInt8) : Prop := ∃ A c, v = .slice A l.length c ∧ (A = none → c = 0) ∧ Byt w A l
theorem OwnB.str {w : World} {base : Nat} {v : Value} {l : List UInt8} (h : OwnB w base v l) : Str w v l := by
  rcases h.2 with ⟨rfl, hn⟩ | ⟨g, cap, cur, rfl, _, _, _⟩
  · exact ⟨none, 0, by rw [hn], fun _ => rfl, fun h0 => absurd h0 (by omega)⟩
  · exact ⟨_, cap, rfl, (by simp), fun _ => ⟨_, rfl, fun j u hu => World.ownsRow.cells h (g := g) rfl j u hu⟩⟩
theorem Str.conv {w : World} {v : Value} {l : List UInt8} (h : Str w v l) : (convert 110 9 v).run Try.prog w = .ok (.string ⟨l.toArray⟩) w := by
  obtain ⟨A, c, rfl, hz, hb⟩ := h
  rcases Nat.eq_zero_or_pos l.length with h0 | h0
  · have hl : l = [] := List.eq_nil_of_length_eq_zero h0
    subst hl
    cases A with
    | none => exact Lib.run_convert_nil_bytes w _ _ _ c Try.underlying110 Try.underlying5 Try.underlying9
    | some ad => exact run_convert_bytes_back w _ _ _ ad c [] Try.underlying110 Try.underlying5 Try.underlying9 (fun j hj => absurd hj (by simp))
  · obtain ⟨ad, rfl, hc⟩ := hb h0
    exact run_convert_bytes_back w _ _ _ ad c l Try.underlying110 Try.underlying5 Try.underlying9 (fun j hj => hc j _ (by simp [bvals, bval, hj]))
theorem Str.below {w w' : World} {v : Value} {l : List UInt8} (h : Str w v l) (hb : Below w.heap.size w w') : Str w' v l := by
  obtain ⟨A, c, rfl, hz, hy⟩ := h
  exact ⟨A, c, rfl, hz, hy.below hb⟩

end Go.Proofs.Ytfdiolfelecccaa


/- Layer 10: the document's own name and Put. -/
namespace Go.Proofs.Ytfdiolfelecccaa
open Go.RowKit
set_option linter.unusedVariables false
set_option linter.unusedSimpArgs false
set_option maxRecDepth 100000

theorem refname_any (l : List UInt8) (none_ : Bool) (w : World) (hlm : l.length ≤ 1000000) :
    Calls Try.prog 61 #[.string ⟨l.toArray⟩, .bool none_] w fun e w' => e = .returned (.bool (l.all nmB && (none_ || !l.isEmpty))) ∧ w = w' := by
  obtain ⟨s, hs⟩ : ∃ s : ByteArray, s = ⟨l.toArray⟩ := ⟨_, rfl⟩
  have hsz : s.size = l.length := by rw [hs]; rfl
  have hat : ∀ i (h : i < s.size), s[i]'h = l.getD i 0 := by subst hs; exact byteM l
  rw [← hs]
  have HS := Lib.hid hs
  have HAT := Lib.hid hat
  clear hs hat
  go_enter Try.func61, Try.ntmps61
  go_wp2
  go_loop [5] (fun v => ∃ pos : Nat, v = .int .i64 pos ∧ Hid (pos ≤ l.length ∧ (l.take pos).all nmB = true)) (fun v => l.length - (intOf v).toNat)
  case atStart => exact ⟨0, rfl, Lib.hid ⟨Nat.zero_le _, by simp⟩⟩
  case round =>
    obtain ⟨pos, rfl, HP⟩ := hrel
    by_cases hp : pos < s.size
    · obtain ⟨x, hx⟩ : ∃ x, l.getD pos 0 = x := ⟨_, rfl⟩
      have hpl : pos < l.length := by rw [← hsz]; exact hp
      have hxx := HAT.out pos hp
      rw [hx] at hxx
      by_cases hb : nmB x = true
      · have h12 : 32 ≤ x.toNat ∧ x.toNat ≤ 126 := by simpa [nmB] using hb
        have d1 : ¬ (x.toNat : Int) < 32 := by omega
        have d2 : ¬ (126 : Int) < (x.toNat : Int) := by omega
        have HQ : Hid (pos + 1 ≤ l.length ∧ (l.take (pos + 1)).all nmB = true) := Lib.hid ⟨hpl, all_step hpl HP.out.2 (by rw [hx]; exact hb)⟩
        go_wp2
        exact ⟨⟨pos + 1, by go_num, HQ⟩, by simp [intOf]; omega⟩
      · have hbf : nmB x = false := by simpa using hb
        have hall : l.all nmB = false := all_not hpl (by rw [hx]; exact hbf)
        have HA := Lib.hid hall
        clear hall hb
        by_cases d1 : (x.toNat : Int) < 32
        · go_wp2
          go_ret
          exact ⟨by rw [HA.out]; rfl, rfl⟩
        · have d2 : (126 : Int) < (x.toNat : Int) := by
            have : ¬ (32 ≤ x.toNat ∧ x.toNat ≤ 126) := by intro h; simp [nmB, h] at hbf
            omega
          go_wp2
          go_ret
          exact ⟨by rw [HA.out]; rfl, rfl⟩
    · have hpe : pos = l.length := by have := HP.out.1; omega
      have hall := HP.out.2
      rw [hpe, List.take_length] at hall
      have HA := Lib.hid hall
      clear hall hpe
      cases none_
      · by_cases hl : l = []
        · have h0 : s.size = 0 := by rw [hsz, hl]; rfl
          have HL := Lib.hid hl
          clear hl
          go_wp2
          go_ret
          exact ⟨by rw [HL.out]; rfl, rfl⟩
        · have h0 : decide (0 < l.length) = true := by simpa using List.length_pos_iff.2 hl
          have he : l.isEmpty = false := by simpa using hl
          have HE := Lib.hid he
          clear hl he
          go_wp2
          go_ret
          exact ⟨by rw [HA.out, HE.out]; first | rfl | (simp only [h0]; rfl), rfl⟩
      · go_wp2
        go_ret
        exact ⟨by rw [HA.out]; rfl, rfl⟩
end Go.Proofs.Ytfdiolfelecccaa


/- Layer 10: the document's own Put. -/
namespace Go.Proofs.Ytfdiolfelecccaa
open Go.RowKit
set_option linter.unusedVariables false
set_option linter.unusedSimpArgs false
set_option maxRecDepth 100000

theorem mdE_alt (a b : List UInt8) : mdE a b = if !(a.all nmB) || !isn b then 2 else if 44 < a.length + b.length then 5 else 0 := by
  unfold mdE
  have e : (!a.isEmpty && !isn a) = !(a.all nmB) := by
    unfold isn
    cases a with
    | nil => rfl
    | cons x a => simp
  rw [e]
theorem conv_one (W : World) (n : Nat) (h : n ≤ 255) :
    (convert 110 9 (.slice (some ⟨W.heap.size, 0, none⟩) 1 1)).run Try.prog (W.alloc (.cells #[.int .u8 (n : Int)] 5)) = .ok (.string ⟨[UInt8.ofNat n].toArray⟩) (W.alloc (.cells #[.int .u8 (n : Int)] 5)) := by
  have hv : (Value.int .u8 (n : Int)) = bval (UInt8.ofNat n) := by
    unfold bval
    rw [ofNat_toNat_small n (by omega)]
  exact Str.conv (l := [UInt8.ofNat n]) ⟨some ⟨W.heap.size, 0, none⟩, 1, rfl, (fun h => nomatch h), Byt.one W 5 _ _ hv⟩
def lenP (v : Value) : Nat := match v with | .string b => b.size | _ => 0
def pad (M : List UInt8) (k : Nat) : List UInt8 := M ++ List.replicate k 0
theorem pad_len (M : List UInt8) (k : Nat) : (pad M k).length = M.length + k := by simp [pad]
theorem pad_next (M : List UInt8) (k : Nat) : pad M k ++ [0] = pad M (k + 1) := by
  unfold pad
  rw [List.append_assoc, List.replicate_succ']
set_option maxHeartbeats 2000000 in
theorem refput_any (a b : List UInt8) (w : World) (hal : a.length ≤ 1000000) (hbl : b.length ≤ 1000000) :
    Calls Try.prog 55 #[.string ⟨a.toArray⟩, .string ⟨b.toArray⟩] w fun e w' => e = .returned (.tuple #[.string ⟨(mdV a b).toArray⟩, .int .i64 (mdE a b)]) ∧ Below w.heap.size w w' := by
  obtain ⟨na, hna⟩ : ∃ q, a.all nmB = q := ⟨_, rfl⟩
  obtain ⟨nb, hnb⟩ : ∃ q, isn b = q := ⟨_, rfl⟩
  have KA := Lib.hid (fun w => refname_any a true w hal)
  have KB := Lib.hid (fun w => refname_any b false w hbl)
  have ha2 : (a.all nmB && (true || !a.isEmpty)) = na := by rw [hna]; cases na <;> rfl
  have hb2 : (b.all nmB && (false || !b.isEmpty)) = nb := by rw [← hnb]; rfl
  rw [ha2] at KA
  rw [hb2] at KB
  have hE : mdE a b = if !na || !nb then 2 else if 44 < a.length + b.length then 5 else 0 := by rw [mdE_alt, hna, hnb]
  have HE := Lib.hid hE
  have HB0 := Lib.hid (Below.refl w.heap.size w)
  have hez : (a == []) = a.isEmpty := by cases a <;> rfl
  clear hna hnb ha2 hb2 hE
  have T2 : Hid (mdE a b = 2 → Ending.returned (.tuple #[.string ⟨#[]⟩, .int .i64 2]) = Ending.returned (.tuple #[.string ⟨(mdV a b).toArray⟩, .int .i64 (mdE a b)])) := Lib.hid (fun h => by rw [mdV_ne (by omega), h])
  have T5 : Hid (mdE a b = 5 → Ending.returned (.tuple #[.string ⟨#[]⟩, .int .i64 5]) = Ending.returned (.tuple #[.string ⟨(mdV a b).toArray⟩, .int .i64 (mdE a b)])) := Lib.hid (fun h => by rw [mdV_ne (by omega), h])
  cases na
  · have H2 : Hid (mdE a b = 2) := Lib.hid (by rw [HE.out]; rfl)
    clear hez
    go_enter Try.func55, Try.ntmps55
    go_wp2_with fail
    refine (KA.out _).mono ?_
    rintro e w1 ⟨rfl, rfl⟩
    go_wp2
    go_ret2
    exact ⟨T2.out H2.out, HB0.out⟩
  cases nb
  · have H2 : Hid (mdE a b = 2) := Lib.hid (by rw [HE.out]; rfl)
    clear hez
    go_enter Try.func55, Try.ntmps55
    go_wp2_with fail
    refine (KA.out _).mono ?_
    rintro e w1 ⟨rfl, rfl⟩
    go_wp2_with fail
    refine (KB.out _).mono ?_
    rintro e w1 ⟨rfl, rfl⟩
    go_wp2
    go_ret2
    exact ⟨T2.out H2.out, HB0.out⟩
  by_cases hlen : 44 < a.length + b.length
  · have H5 : Hid (mdE a b = 5) := Lib.hid (by rw [HE.out]; simp [hlen])
    clear hez
    by_cases h1 : 44 < a.length
    · have d1 : (44 : Int) < (a.length : Int) := by omega
      go_enter Try.func55, Try.ntmps55
      go_wp2_with fail
      refine (KA.out _).mono ?_
      rintro e w1 ⟨rfl, rfl⟩
      go_wp2_with fail
      refine (KB.out _).mono ?_
      rintro e w1 ⟨rfl, rfl⟩
      go_wp2
      go_ret2
      exact ⟨T5.out H5.out, HB0.out⟩
    by_cases h2 : 44 < b.length
    · have d1 : ¬ (44 : Int) < (a.length : Int) := by omega
      have d2 : (44 : Int) < (b.length : Int) := by omega
      go_enter Try.func55, Try.ntmps55
      go_wp2_with fail
      refine (KA.out _).mono ?_
      rintro e w1 ⟨rfl, rfl⟩
      go_wp2_with fail
      refine (KB.out _).mono ?_
      rintro e w1 ⟨rfl, rfl⟩
      go_wp2
      go_ret2
      exact ⟨T5.out H5.out, HB0.out⟩
    · have d1 : ¬ (44 : Int) < (a.length : Int) := by omega
      have d2 : ¬ (44 : Int) < (b.length : Int) := by omega
      have d3 : (44 : Int) < (a.length : Int) + (b.length : Int) := by omega
      go_enter Try.func55, Try.ntmps55
      go_wp2_with fail
      refine (KA.out _).mono ?_
      rintro e w1 ⟨rfl, rfl⟩
      go_wp2_with fail
      refine (KB.out _).mono ?_
      rintro e w1 ⟨rfl, rfl⟩
      go_wp2
      go_ret2
      exact ⟨T5.out H5.out, HB0.out⟩
  have h0 : mdE a b = 0 := by rw [HE.out]; simp [hlen]
  have hml := mdB_le h0
  have H0 := Lib.hid h0
  obtain ⟨D, hD⟩ : ∃ D, mdH a = D := ⟨_, rfl⟩
  obtain ⟨M, hM⟩ : ∃ M, mdB a b = M := ⟨_, rfl⟩
  have hMD : M = (D ++ [2]) ++ [UInt8.ofNat b.length] ++ b := by rw [← hM, ← hD]; unfold mdB; simp
  rw [hM] at hml
  have hdl : D.length ≤ 46 := by rw [hMD] at hml; simp at hml; omega
  have hV : mdV a b = pad M (48 - M.length) := by unfold mdV mdW pad; rw [if_pos h0, hM]
  have HV := Lib.hid hV
  obtain ⟨Y1, hY1⟩ : ∃ Y, [UInt8.ofNat b.length] = Y := ⟨_, rfl⟩
  obtain ⟨B1, hB1⟩ : ∃ B, D ++ [2] = B := ⟨_, rfl⟩
  obtain ⟨B2, hB2⟩ : ∃ B, B1 ++ Y1 = B := ⟨_, rfl⟩
  have hM2 : B2 ++ b = M := by rw [hMD, ← hB2, ← hB1, ← hY1]
  have l1 : B1.length ≤ 47 := by rw [← hB1]; simp; omega
  have l2 : Y1.length = 1 := by rw [← hY1]; rfl
  have l3 : B2.length ≤ 48 := by rw [← hB2]; simp; omega
  have a1 : ∀ W : World, (Op.stringOp .add ⟨D.toArray⟩ ⟨#[2]⟩).run Try.prog W = .ok (.string ⟨B1.toArray⟩) W := fun W => by rw [← hB1]; exact run_string_add_lists W D [2] (by omega) (by decide)
  have a2 : ∀ W : World, (Op.stringOp .add ⟨B1.toArray⟩ ⟨Y1.toArray⟩).run Try.prog W = .ok (.string ⟨B2.toArray⟩) W := fun W => by rw [← hB2]; exact run_string_add_lists W B1 Y1 (by omega) (by omega)
  have a3 : ∀ W : World, (Op.stringOp .add ⟨B2.toArray⟩ ⟨b.toArray⟩).run Try.prog W = .ok (.string ⟨M.toArray⟩) W := fun W => by rw [← hM2]; exact run_string_add_lists W B2 b (by omega) (by omega)
  have a4 : ∀ (k : Nat) (W : World), k ≤ 48 → (Op.stringOp .add ⟨(pad M k).toArray⟩ ⟨#[0]⟩).run Try.prog W = .ok (.string ⟨(pad M (k + 1)).toArray⟩) W := fun k W hk => by rw [← pad_next]; exact run_string_add_lists W (pad M k) [0] (by rw [pad_len]; omega) (by decide)
  have A4 := Lib.hid a4
  have cv : ∀ W : World, (convert 110 9 (.slice (some ⟨W.heap.size, 0, none⟩) 1 1)).run Try.prog (W.alloc (.cells #[.int .u8 (b.length : Int)] 5)) = .ok (.string ⟨Y1.toArray⟩) (W.alloc (.cells #[.int .u8 (b.length : Int)] 5)) := fun W => by rw [← hY1]; exact conv_one W b.length (by omega)
  have hwb : IntKind.u8.wrap (b.length : Int) = (b.length : Int) := by simp [IntKind.wrap, IntKind.signed, IntKind.bits]; omega
  have hwa : IntKind.u8.wrap (a.length : Int) = (a.length : Int) := by simp [IntKind.wrap, IntKind.signed, IntKind.bits]; omega
  have d1 : ¬ (44 : Int) < (a.length : Int) := by omega
  have d2 : ¬ (44 : Int) < (b.length : Int) := by omega
  have d3 : ¬ (44 : Int) < (a.length : Int) + (b.length : Int) := by omega
  have HCV := Lib.hid cv
  have HM := Lib.hid hml
  by_cases hz : a = []
  · have hD1 : D = [1] := by rw [← hD, hz]; rfl
    have hz1 : (a == []) = true := by rw [hz]; rfl
    have hz0 : a.isEmpty = true := by rw [hz]; rfl
    rw [hD1] at a1
    have cv0 := cv w
    clear hM hMD hD hdl hV hY1 hB1 hB2 hM2 l1 l2 l3 a4 cv hml h0 hlen hD1 hez hz
    go_enter Try.func55, Try.ntmps55
    go_wp2_with fail
    refine (KA.out _).mono ?_
    rintro e w1 ⟨rfl, rfl⟩
    go_wp2_with fail
    refine (KB.out _).mono ?_
    rintro e w1 ⟨rfl, rfl⟩
    go_wp2
    go_loop [6] (fun v => ∃ (j : Nat) (P : List UInt8), v = .string ⟨P.toArray⟩ ∧ Hid (P = pad M j ∧ P.length ≤ 48)) (fun v => 48 - lenP v)
    case atStart => exact ⟨0, M, rfl, Lib.hid ⟨by simp [pad], HM.out⟩⟩
    case round =>
      obtain ⟨j, P, rfl, HP⟩ := hrel
      by_cases hp : P.length < 48
      · have hj : j ≤ 48 := by have := HP.out.2; rw [HP.out.1, pad_len] at this; omega
        have e4 := fun W => A4.out j W hj
        rw [← HP.out.1] at e4
        obtain ⟨P2, hP2⟩ : ∃ P2, pad M (j + 1) = P2 := ⟨_, rfl⟩
        simp only [hP2] at e4
        have HQ : Hid (P2 = pad M (j + 1) ∧ P2.length ≤ 48) := Lib.hid ⟨hP2.symm, by rw [← hP2, pad_len]; rw [HP.out.1, pad_len] at hp; omega⟩
        have hl2 : P2.length = P.length + 1 := by rw [← hP2, pad_len, HP.out.1, pad_len]; omega
        have d5 : (P.length : Int) < 48 := by omega
        clear hP2 hj
        go_wp2
        exact ⟨⟨j + 1, P2, rfl, HQ⟩, by simp [lenP, ByteArray.size]; omega⟩
      · have d5 : ¬ (P.length : Int) < 48 := by omega
        have he : mdV a b = P := by
          have h1 := HP.out.2
          have h2 := HP.out.1
          rw [HV.out, h2]
          rw [h2, pad_len] at h1 hp
          congr 1
          omega
        have HEQ := Lib.hid he
        clear he hp
        go_wp2
        go_ret2
        exact ⟨by rw [HEQ.out, H0.out]; rfl, HB0.out.alloc (Nat.le_refl _) _⟩
  · have hD1 : D = (([4] : List UInt8) ++ [UInt8.ofNat a.length]) ++ a := by rw [← hD]; unfold mdH; rw [if_neg hz]; rfl
    have hz1 : (a == []) = false := by simpa using hz
    have hz0 : a.isEmpty = false := by simpa using hz
    obtain ⟨X1, hX1⟩ : ∃ X, [UInt8.ofNat a.length] = X := ⟨_, rfl⟩
    obtain ⟨C1, hC1⟩ : ∃ C, ([4] : List UInt8) ++ X1 = C := ⟨_, rfl⟩
    have hD2 : C1 ++ a = D := by rw [hD1, ← hC1, ← hX1]
    have k1 : X1.length = 1 := by rw [← hX1]; rfl
    have k2 : C1.length = 2 := by rw [← hC1]; simp [k1]
    have b1 : ∀ W : World, (Op.stringOp .add ⟨#[4]⟩ ⟨X1.toArray⟩).run Try.prog W = .ok (.string ⟨C1.toArray⟩) W := fun W => by rw [← hC1]; exact run_string_add_lists W [4] X1 (by decide) (by omega)
    have b2 : ∀ W : World, (Op.stringOp .add ⟨C1.toArray⟩ ⟨a.toArray⟩).run Try.prog W = .ok (.string ⟨D.toArray⟩) W := fun W => by rw [← hD2]; exact run_string_add_lists W C1 a (by omega) (by omega)
    have cx : (convert 110 9 (.slice (some ⟨w.heap.size, 0, none⟩) 1 1)).run Try.prog (w.alloc (.cells #[.int .u8 (a.length : Int)] 5)) = .ok (.string ⟨X1.toArray⟩) (w.alloc (.cells #[.int .u8 (a.length : Int)] 5)) := by rw [← hX1]; exact conv_one w a.length (by omega)
    have cv0 := cv (w.alloc (.cells #[.int .u8 (a.length : Int)] 5))
    simp only [World.size_alloc] at cv0
    clear hM hMD hD hdl hV hY1 hB1 hB2 hM2 l1 l2 l3 a4 cv hml h0 hlen hD1 hez hz hX1 hC1 hD2 k1 k2
    go_enter Try.func55, Try.ntmps55
    go_wp2_with fail
    refine (KA.out _).mono ?_
    rintro e w1 ⟨rfl, rfl⟩
    go_wp2_with fail
    refine (KB.out _).mono ?_
    rintro e w1 ⟨rfl, rfl⟩
    go_wp2
    go_loop [6] (fun v => ∃ (j : Nat) (P : List UInt8), v = .string ⟨P.toArray⟩ ∧ Hid (P = pad M j ∧ P.length ≤ 48)) (fun v => 48 - lenP v)
    case atStart => exact ⟨0, M, rfl, Lib.hid ⟨by simp [pad], HM.out⟩⟩
    case round =>
      obtain ⟨j, P, rfl, HP⟩ := hrel
      by_cases hp : P.length < 48
      · have hj : j ≤ 48 := by have := HP.out.2; rw [HP.out.1, pad_len] at this; omega
        have e4 := fun W => A4.out j W hj
        rw [← HP.out.1] at e4
        obtain ⟨P2, hP2⟩ : ∃ P2, pad M (j + 1) = P2 := ⟨_, rfl⟩
        simp only [hP2] at e4
        have HQ : Hid (P2 = pad M (j + 1) ∧ P2.length ≤ 48) := Lib.hid ⟨hP2.symm, by rw [← hP2, pad_len]; rw [HP.out.1, pad_len] at hp; omega⟩
        have hl2 : P2.length = P.length + 1 := by rw [← hP2, pad_len, HP.out.1, pad_len]; omega
        have d5 : (P.length : Int) < 48 := by omega
        clear hP2 hj
        go_wp2
        exact ⟨⟨j + 1, P2, rfl, HQ⟩, by simp [lenP, ByteArray.size]; omega⟩
      · have d5 : ¬ (P.length : Int) < 48 := by omega
        have he : mdV a b = P := by
          have h1 := HP.out.2
          have h2 := HP.out.1
          rw [HV.out, h2]
          rw [h2, pad_len] at h1 hp
          congr 1
          omega
        have HEQ := Lib.hid he
        clear he hp
        go_wp2
        go_ret2
        exact ⟨by rw [HEQ.out, H0.out]; rfl, (HB0.out.alloc (Nat.le_refl _) _).alloc (by simp) _⟩
end Go.Proofs.Ytfdiolfelecccaa


/- Arguments opened: structs, and slices of structs, to their cells. -/
namespace Go.Proofs.Ytfdiolfelecccaa
open Go.ChangeShapes Go.WideShapes Go.ChangeAt Go.RowKit
set_option linter.unusedVariables false
set_option linter.unusedSimpArgs false
set_option maxRecDepth 100000

section
variable {H : Type} {enc : TypeId × Value → H} {P : Program} {w : World} {base : Nat} {spare : Nat → Bool} {held : Bool}
/-- field i of a struct, read -/
theorem trod_fld {t : TypeId} {fs : Array Field} {fuel : Nat} {cs : List Value} {x : DataW H × List MemPlace} (ht : P.underlying t = some (.struct fs)) (h : DataW.trod enc P w base spare held fuel t cs = some x) (i : Nat) (f : Field) (hf : fs[i]? = some f) :
    ∃ n y, DataW.trod enc P w base spare held n f.type ((cs.drop f.offset).take (P.cellsOf f.type)) = some y := by
  obtain ⟨xs, n, _, rfl, hl, hlen, hg⟩ := DataW.trod_struct ht h
  have hi : i < fs.size := (Array.getElem?_eq_some_iff.1 hf).1
  exact ⟨n, xs[i]'(by omega), (hg i f hf).trans (List.getElem?_eq_getElem (by omega))⟩
/-- field i of a struct is a number -/
theorem trod_fldInt {t : TypeId} {fs : Array Field} {fuel : Nat} {cs : List Value} {x : DataW H × List MemPlace} (ht : P.underlying t = some (.struct fs)) (h : DataW.trod enc P w base spare held fuel t cs = some x) (i : Nat) (f : Field) (hf : fs[i]? = some f)
    {k : IntKind} (hk : P.underlying f.type = some (.int k)) (h1 : P.cellsOf f.type = 1) : ∃ n, cs[f.offset]? = some (.int k n) ∧ (Lit.int k n).wf = true := by
  obtain ⟨m, y, hy⟩ := trod_fld ht h i f hf
  rw [h1] at hy
  obtain ⟨n, e, _, hw⟩ := DataW.trod_int hk hy
  refine ⟨n, ?_, hw⟩
  have : ((cs.drop f.offset).take 1)[0]? = some (.int k n) := by rw [e]; rfl
  simpa [List.getElem?_take] using this
/-- field i of a struct is a truth -/
theorem trod_fldBool {t : TypeId} {fs : Array Field} {fuel : Nat} {cs : List Value} {x : DataW H × List MemPlace} (ht : P.underlying t = some (.struct fs)) (h : DataW.trod enc P w base spare held fuel t cs = some x) (i : Nat) (f : Field) (hf : fs[i]? = some f)
    (hk : P.underlying f.type = some .bool) (h1 : P.cellsOf f.type = 1) : ∃ b, cs[f.offset]? = some (.bool b) := by
  obtain ⟨m, y, hy⟩ := trod_fld ht h i f hf
  rw [h1] at hy
  obtain ⟨b, e, _⟩ := DataW.trod_bool hk hy
  refine ⟨b, ?_⟩
  have : ((cs.drop f.offset).take 1)[0]? = some (.bool b) := by rw [e]; rfl
  simpa [List.getElem?_take] using this
/-- a struct as an argument: its cells, read -/
theorem open_struct {r : Reach} {b0 : Nat} {t : TypeId} {fs : Array Field} {v : Value} {d : DataW H} {p : List MemPlace} (ht : P.underlying t = some (.struct fs)) (o : Value.okWide P w r b0 t v) (h : DataW.Trod enc P w base spare held t v d p) :
    ∃ (l : List Value) (fuel : Nat) (x : DataW H × List MemPlace), v = .agg ⟨l⟩ ∧ l.length = P.cellsOf t ∧ DataW.trod enc P w base spare held fuel t l = some x := by
  obtain ⟨cs, rfl, hsz⟩ := okWide_struct ht o
  obtain ⟨l⟩ := cs
  obtain ⟨fuel, hf⟩ := h
  exact ⟨l, fuel, _, rfl, hsz, by simpa [Value.cells] using hf⟩
/-- an argument that is a number -/
theorem open_num {r : Reach} {b0 : Nat} {t : TypeId} {v : Value} {d : DataW H} {p : List MemPlace} {k : IntKind} (ht : P.underlying t = some (.int k)) (o : Value.okWide P w r b0 t v) (h : DataW.Trod enc P w base spare held t v d p) :
    ∃ n, v = .int k n ∧ (Lit.int k n).wf = true := by
  obtain ⟨n, rfl⟩ := okWide_int ht o
  obtain ⟨fuel, hf⟩ := h
  obtain ⟨m, e, _, hw⟩ := DataW.trod_int ht hf
  simp [Value.cells] at e
  subst e
  exact ⟨n, rfl, hw⟩
end

/-- a slice argument, element by element: the cells of each, and that they read as the element's type -/
theorem open_cells {H : Type} {enc : TypeId × Value → H} {P : Program} {W : World} {base : Nat} {v : Value} {d : DataW H} {p : List MemPlace} {t e : TypeId}
    (ht : P.underlying t = some (.slice e)) (hsz : 0 < P.cellsOf e) (o : Value.okWide P W .any base t v)
    (h : DataW.Trod enc P W 0 (fun _ => true) true t v d p) : ∃ A n c, v = .slice A n c ∧ n ≤ maxLen ∧ (A = none → n = 0 ∧ c = 0) ∧ (0 < n → ∃ b off, A = some ⟨b, off, none⟩ ∧ b < W.heap.size ∧ ∀ i, i < n → ∃ (cs : List Value) (fuel : Nat) (x : DataW H × List MemPlace),
      cs.length = P.cellsOf e ∧ (∀ j u, cs[j]? = some u → W.cell? ⟨b, off + i * P.cellsOf e + j, none⟩ = some u) ∧ DataW.trod enc P W 0 (fun _ => true) true fuel e cs = some x) := by
  obtain ⟨a0, len0, cap0, rfl⟩ := okWide_slice ht o
  obtain ⟨fuel, hf⟩ := h
  rcases Go.Deep.open_slice ht hf with ⟨hcs, _⟩ | ⟨a, l, c, m, n, D, Pl, hcs, _, hl, hm, hmm, _, hel⟩
  · simp [Value.cells] at hcs
    obtain ⟨rfl, rfl, rfl⟩ := hcs
    exact ⟨none, 0, 0, rfl, by simp, fun _ => ⟨rfl, rfl⟩, fun h => absurd h (by omega)⟩
  · simp [Value.cells] at hcs
    obtain ⟨rfl, rfl, rfl⟩ := hcs
    simp at hmm
    subst hmm
    refine ⟨some a, _, _, rfl, by omega, by simp, fun h0 => ?_⟩
    have key : ∀ i, i < len0 → ∃ (cs : List Value) (x : DataW H × List MemPlace), cs.length = P.cellsOf e ∧ (∀ j, j < P.cellsOf e → W.cell? (a.add (i * P.cellsOf e + j)) = cs[j]?) ∧ DataW.trod enc P W 0 (fun _ => true) true n e cs = some x := by
      intro i hi
      obtain ⟨cs, hc, htr⟩ := hel i (by omega)
      obtain ⟨_, hlen, hat⟩ := World.cells?_some hc
      refine ⟨cs, _, hlen, fun j hj => ?_, htr⟩
      rw [← hat j hj, Go.Deep.add_add]
    obtain ⟨cs, x, hlen, hat, _⟩ := key 0 h0
    have h00 := hat 0 hsz
    simp only [Nat.zero_mul, Nat.zero_add] at h00
    have hsome : cs[0]? = some (cs[0]'(by omega)) := List.getElem?_eq_getElem (by omega)
    have hsp := World.cell?_spot (h00.trans hsome)
    obtain ⟨b, off, spot⟩ := a
    simp only [Addr.add, ↓reduceIte] at hsp
    subst hsp
    refine ⟨b, off, rfl, World.block_lt_of_cell? W _ (by simpa [Addr.add] using h00.trans hsome), fun i hi => ?_⟩
    obtain ⟨cs, x, hlen, hat, htr⟩ := key i hi
    refine ⟨cs, n, x, hlen, fun j u hu => ?_, htr⟩
    have hj : j < P.cellsOf e := by rw [← hlen]; exact (List.getElem?_eq_some_iff.1 hu).1
    rw [← hu, ← hat j hj, Nat.add_assoc]
    simp only [Addr.add]
    split <;> simp_all
/-- out of one thing for each place, a list -/
theorem list_at {α : Type} (n : Nat) (Q : Nat → α → Prop) (h : ∀ i, i < n → ∃ x, Q i x) : ∃ l : List α, l.length = n ∧ ∀ i (hi : i < l.length), Q i l[i] := by
  induction n with
  | zero => exact ⟨[], rfl, fun i hi => absurd hi (by simp)⟩
  | succ n ih =>
    obtain ⟨l, hl, hp⟩ := ih (fun i hi => h i (by omega))
    obtain ⟨x, hx⟩ := h n (by omega)
    refine ⟨l ++ [x], by simp [hl], fun i hi => ?_⟩
    by_cases hin : i < l.length
    · rw [List.getElem_append_left hin]; exact hp i hin
    · have : i = n := by simp at hi; omega
      subst this
      simp [← hl]
      rw [hl]; exact hx
/-- the slice at A reads as the list l, k cells each -/
def Els {α : Type} (k : Nat) (enc : α → List Value) (w : World) (A : Option Addr) (l : List α) : Prop :=
  0 < l.length → ∃ b off, A = some ⟨b, off, none⟩ ∧ b < w.heap.size ∧ ∀ i (h : i < l.length) j v, (enc l[i])[j]? = some v → w.cell? ⟨b, off + i * k + j, none⟩ = some v
theorem Els.next {α : Type} {k : Nat} {enc : α → List Value} {w w' : World} {A : Option Addr} {l : List α} (h : Els k enc w A l) (hb : Below w.heap.size w w') : Els k enc w' A l := by
  intro h0
  obtain ⟨b, off, e, hlt, hc⟩ := h h0
  exact ⟨b, off, e, Nat.lt_of_lt_of_le hlt hb.size, fun i hi j v hv => (hb.cell (p := ⟨b, off + i * k + j, none⟩) hlt).trans (hc i hi j v hv)⟩
/-- a slice argument as a list, what each element is being known of its reading -/
theorem open_els {H : Type} {enc : TypeId × Value → H} {P : Program} {W : World} {base : Nat} {v : Value} {d : DataW H} {p : List MemPlace} {t e : TypeId} {α : Type} (k : Nat) (en : α → List Value) (Q : α → Prop)
    (ht : P.underlying t = some (.slice e)) (hk : P.cellsOf e = k) (hsz : 0 < k)
    (hone : ∀ (cs : List Value) (fuel : Nat) (x : DataW H × List MemPlace), cs.length = P.cellsOf e → DataW.trod enc P W 0 (fun _ => true) true fuel e cs = some x → ∃ a, Q a ∧ cs = en a)
    (o : Value.okWide P W .any base t v) (h : DataW.Trod enc P W 0 (fun _ => true) true t v d p) :
    ∃ (A : Option Addr) (c : Nat) (l : List α), v = .slice A l.length c ∧ l.length ≤ maxLen ∧ (A = none → l = [] ∧ c = 0) ∧ (∀ a ∈ l, Q a) ∧ Els k en W A l := by
  obtain ⟨A, n, c, rfl, hn, hz, hel⟩ := open_cells ht (by omega) o h
  rcases Nat.eq_zero_or_pos n with h0 | h0
  · subst h0
    exact ⟨A, c, [], rfl, by simp, fun e => ⟨rfl, (hz e).2⟩, by simp, fun h => absurd h (by simp)⟩
  · obtain ⟨b, off, rfl, hb, hel⟩ := hel h0
    rw [hk] at hel
    obtain ⟨l, hl, hp⟩ := list_at (α := α) n (fun i a => Q a ∧ ∀ j u, (en a)[j]? = some u → W.cell? ⟨b, off + i * k + j, none⟩ = some u) (by
      intro i hi
      obtain ⟨cs, fuel, x, hlen, hat, htr⟩ := hel i hi
      obtain ⟨a, hq, rfl⟩ := hone cs fuel x (by rw [hk]; exact hlen) htr
      exact ⟨a, hq, hat⟩)
    subst hl
    refine ⟨_, c, l, rfl, hn, by simp, fun a ha => ?_, fun _ => ⟨b, off, rfl, hb, fun i hi j u hu => (hp i hi).2 j u hu⟩⟩
    obtain ⟨i, hi, rfl⟩ := List.mem_iff_getElem.1 ha
    exact (hp i hi).1
end Go.Proofs.Ytfdiolfelecccaa


/- wire.Reader: contracts of its methods. -/
namespace Go.Proofs.Ytfdiolfelecccaa
open Go.RowKit
set_option linter.unusedVariables false
set_option linter.unusedSimpArgs false
set_option maxRecDepth 100000

def only (b : Nat) : Nat → Prop := fun k => k = b




set_option maxHeartbeats 400000 in

set_option maxHeartbeats 400000 in









/-- what so many bytes are, what is left behind them, and the error -/
def tkV (n : Nat) (l : List UInt8) (er : Int) : List UInt8 := if er = 0 ∧ n ≤ l.length then l.take n else []
def tkL (n : Nat) (l : List UInt8) (er : Int) : List UInt8 := if er = 0 ∧ n ≤ l.length then l.drop n else l
def tkE (n : Nat) (l : List UInt8) (er : Int) : Int := if er = 0 ∧ l.length < n then 3 else er
theorem tkV_len (n : Nat) (l : List UInt8) (er : Int) : (tkV n l er).length ≤ n := by
  unfold tkV; split
  · exact List.length_take_le _ _
  · simp




/-- what is left, as Left tells it -/
def lft (l : List UInt8) (er : Int) : Nat := if er = 0 then l.length else 0



def bdE (er : Int) : Int := if er = 0 then 4 else er


def ndE (l : List UInt8) (er : Int) : Int := if er = 0 ∧ 0 < l.length then 4 else er



end Go.Proofs.Ytfdiolfelecccaa


/- wire.next: a number of so many bytes. -/
namespace Go.Proofs.Ytfdiolfelecccaa
open Go.RowKit
set_option linter.unusedVariables false
set_option linter.unusedSimpArgs false
set_option maxRecDepth 100000

def num (l : List UInt8) : Nat := l.foldl (fun n b => n * 256 + b.toNat) 0
theorem num_nil : num [] = 0 := rfl
theorem num_snoc (l : List UInt8) (b : UInt8) : num (l ++ [b]) = num l * 256 + b.toNat := by simp [num]
theorem num_lt (l : List UInt8) : num l < 256 ^ l.length := by
  have h : ∀ (l : List UInt8) (a k : Nat), a < 256 ^ k → l.foldl (fun n b => n * 256 + b.toNat) a < 256 ^ (k + l.length) := by
    intro l
    induction l with
    | nil => intro a k h; simpa using h
    | cons b l ih =>
      intro a k h
      have := b.toNat_lt
      have := ih (a * 256 + b.toNat) (k + 1) (by rw [Nat.pow_succ]; omega)
      simpa [Nat.add_assoc, Nat.add_comm 1] using this
  simpa [num] using h l 0 0 (by simp)
theorem num_take_lt (l : List UInt8) (k : Nat) (hk : k < l.length) : num (l.take (k+1)) = num (l.take k) * 256 + (l[k]).toNat := by
  rw [List.take_succ_eq_append_getElem hk, num_snoc]


theorem or_byte (x : Nat) (y : UInt8) (hx : x < 72057594037927936) :
    bits BinOp.or IntKind.u64 (IntKind.u64.wrap ((x : Int) * 256)) (IntKind.u64.wrap (y.toNat : Int)) = ((x * 256 + y.toNat : Nat) : Int) := by
  have hy := y.toNat_lt
  rw [IntWalk.u64_in _ (by omega), IntWalk.u64_in _ (by omega)]
  have e : ((x : Int) * 256) = ((x * 256 : Nat) : Int) := by omega
  rw [e, u64_or_nat _ _ (by omega) (by omega)]
  congr 1
  have := Nat.two_pow_add_eq_or_of_lt (i := 8) (b := y.toNat) (by omega) x
  rw [show x * 256 = 2 ^ 8 * x by omega, ← this]

theorem add_byte (x : Nat) (y : UInt8) (hx : x < 72057594037927936) :
    IntKind.u64.wrap (IntKind.u64.wrap ((x : Int) * 256) + IntKind.u64.wrap (y.toNat : Int)) = ((x * 256 + y.toNat : Nat) : Int) := by
  have hy := y.toNat_lt
  rw [IntWalk.u64_in ((x : Int) * 256) (by omega), IntWalk.u64_in (y.toNat : Int) (by omega), IntWalk.u64_in _ (by omega)]
  omega
theorem num_small {m : List UInt8} (k : Nat) (hm : m.length ≤ 8) (hk : k < m.length) : num (m.take k) < 72057594037927936 := by
  have h1 := num_lt (m.take k)
  rw [List.length_take] at h1
  exact Nat.lt_of_lt_of_le h1 (Nat.le_trans (Nat.pow_le_pow_right (by omega) (show min k m.length ≤ 7 by omega)) (by decide))









end Go.Proofs.Ytfdiolfelecccaa


/- Numbers and their bytes (plain): there and back. -/
namespace Go.Proofs.Ytfdiolfelecccaa
open Go.RowKit
set_option linter.unusedVariables false
set_option linter.unusedSimpArgs false
set_option maxRecDepth 100000

theorem num64 (m : List UInt8) (h : m.length ≤ 8) : IntKind.u64.wrap (num m : Int) = num m := by
  have h1 := num_lt m
  have h2 : num m < 256 ^ 8 := Nat.lt_of_lt_of_le h1 (Nat.pow_le_pow_right (by omega) h)
  exact IntWalk.u64_in _ (by omega)
theorem wrap16_ (x : Int) : IntKind.u16.wrap x = x % 65536 := by simp [IntKind.wrap, IntKind.signed, IntKind.bits]
theorem dig_mod (k n : Nat) : dig k (n % 256 ^ k) = dig k n := by
  induction k generalizing n with
  | zero => rfl
  | succ k ih =>
    simp only [dig]
    have h1 : n % 256 ^ (k + 1) / 256 = (n / 256) % 256 ^ k := by rw [Nat.pow_succ, Nat.mul_comm, Nat.mod_mul_right_div_self]
    have h2 : n % 256 ^ (k + 1) % 256 = n % 256 := Nat.mod_mod_of_dvd _ ⟨256 ^ k, by rw [Nat.pow_succ, Nat.mul_comm]⟩
    rw [h1, h2, ih]
theorem num_dig (k n : Nat) : num (dig k n) = n % 256 ^ k := by
  induction k generalizing n with
  | zero => simp [dig, num_nil, Nat.mod_one]
  | succ k ih =>
    simp only [dig]
    rw [num_snoc, ih]
    have : (UInt8.ofNat (n % 256)).toNat = n % 256 := by simp
    rw [this, Nat.pow_succ, Nat.mul_comm (256 ^ k) 256, Nat.mod_mul]
    omega
theorem dig_num (l : List UInt8) : dig l.length (num l) = l := by
  have h : ∀ (r : List UInt8), dig r.length (num r.reverse) = r.reverse := by
    intro r
    induction r with
    | nil => rfl
    | cons b r ih =>
      simp only [List.length_cons, List.reverse_cons, num_snoc, dig]
      have hb := b.toNat_lt
      rw [show (num r.reverse * 256 + b.toNat) / 256 = num r.reverse by omega, show (num r.reverse * 256 + b.toNat) % 256 = b.toNat by omega, ih]
      simp
  have := h l.reverse
  simpa using this

theorem dig_add (j k n : Nat) : dig (j + k) n = dig j (n / 256 ^ k) ++ dig k n := by
  induction k generalizing n with
  | zero => simp [dig]
  | succ k ih =>
    show dig (j + k + 1) n = _
    simp only [dig]
    rw [ih (n / 256), Nat.div_div_eq_div_mul, show 256 * 256 ^ k = 256 ^ (k + 1) by rw [Nat.pow_succ, Nat.mul_comm]]
    simp
theorem list6 {l : List UInt8} (h : l.length = 6) : ∃ a b c d e f, l = [a, b, c, d, e, f] := by
  match l, h with
  | [a, b, c, d, e, f], _ => exact ⟨a, b, c, d, e, f, rfl⟩
end Go.Proofs.Ytfdiolfelecccaa


/- Steps of regions that draw; arguments opened. -/
namespace Go.Proofs.Ytfdiolfelecccaa
open Go.ChangeShapes Go.WideShapes Go.ChangeAt Go.RowKit
open Go.ChangeMaps (open_string shut_string)
set_option linter.unusedVariables false
set_option linter.unusedSimpArgs false
set_option maxRecDepth 100000

theorem Byt.drew {w : World} {A : Option Addr} {l : List UInt8} (h : Byt w A l) : Byt w.drew A l := h
theorem OwnB.nil_ (w : World) (base : Nat) : OwnB w base (.slice none 0 0) [] := World.ownsRow_nil w base 5 1
theorem Str.convs {w : World} {v : Value} {l : List UInt8} (h : Str w v l) : ∀ W', Below w.heap.size w W' → (convert 110 9 v).run Try.prog W' = .ok (.string ⟨l.toArray⟩) W' := fun W' hb => (h.below hb).conv
theorem Str.drew {w : World} {v : Value} {l : List UInt8} (h : Str w v l) : Str w.drew v l := h
/- The operation append, as a step of a region that draws its order. -/
theorem step_append_bytes {w : World} {ops : Array Oper} {o : Oper} {a : Act} {K : Act → World → Prop} {Q : Exit → Act → World → Prop} {E : Prop} (hgd : o.guard = none) (s x : Operand)
    (ho : o.op = .call { callee := .builtin .append, args := #[s, x], argTypes := #[110, 110] })
    (base : Nat) (v : Value) (l : List UInt8) (hs : a.eval s = v) (hown : OwnB w base v l)
    (A : Option Addr) (m c : Nat) (r : List UInt8) (hx : a.eval x = .slice A m c) (hm : m = r.length) (hz : A = none → c = 0) (hr : Byt w A r)
    (hlen : l.length + r.length ≤ 140737488355328) (hbase : base ≤ w.heap.size)
    (h : ∀ v' w', OwnB w' base v' (l ++ r) → w.grownBy w' v.ownBlock → K (a.put o.dst v') w') :
    if Region.wanted o (yielded ops a.tmps) = true then Oper.wp Try.prog o a w K Q else E := by
  have hw : Region.wanted o (yielded ops a.tmps) = true := by simp [Region.wanted, hgd]
  rw [if_pos hw]
  obtain ⟨i, hi, hz0, hz1, hz2⟩ := info_parts u8_info
  subst hm
  have key : ∀ ad, A = some ad → (∀ j u, (bvals r)[j]? = some u → w.cell? (ad.add j) = some u) → Oper.wp Try.prog o a w K Q := by
    rintro ad rfl hc
    obtain ⟨v', w', hr, h2, h3, _, _⟩ := run_append_own_at (P := Try.prog) w base _ o.type 5 i _ 1 1 Try.underlying110 hi hz0 hz1 hz2 rfl (by omega) v l.length (bvals l) hown ad r.length c (bvals r) (by simp [bvals]) hc (bvals_one r)
      (by simp only [maxLen]; omega) (by omega) hbase
    unfold Oper.wp execOp
    simp only [ho, resolve, invoke, builtin, Sem.run_bind, Sem.run_pure, Result.andThen_ok, List.map_toArray, List.map_cons, List.map_nil, hs, hx, hr]
    exact h _ _ (by unfold OwnB; rw [List.length_append, bvals_app]; exact h2) h3
  rcases Nat.eq_zero_or_pos r.length with h0 | h0
  · have hr0 : r = [] := List.eq_nil_of_length_eq_zero h0
    subst hr0
    cases A with
    | none =>
      have hc := hz rfl
      subst hc
      have hrun := run_append_owned_none (P := Try.prog) (w := w) base 110 o.type 5 i 1 Try.underlying110 hi v l.length (bvals l) hown
      unfold Oper.wp
      simp [execOp, ho, resolve, invoke, builtin, hs, hx, hrun, Result.andThen]
      exact h v w (by simpa using hown) ⟨rfl, rfl, rfl, Nat.le_refl _, fun _ _ _ => rfl⟩
    | some ad => exact key ad rfl (by simp [bvals])
  · obtain ⟨ad, hA, hc⟩ := hr h0
    exact key ad hA hc

/-- the slice argument read as bytes -/
theorem open_bytes {H : Type} {enc : TypeId × Value → H} {W : World} {base : Nat} {v : Value} {d : DataW H} {p : List MemPlace} (o : Value.okWide Try.prog W .any base 110 v)
    (h : DataW.Trod enc Try.prog W 0 (fun _ => true) true 110 v d p) : ∃ A c l, v = .slice A l.length c ∧ (A = none → c = 0) ∧ Byt W A l ∧ l.length ≤ maxLen := by
  obtain ⟨a0, len0, cap0, rfl⟩ := okWide_slice Try.underlying110 o
  obtain ⟨fuel, hf⟩ := h
  rcases open_ints Try.underlying110 Try.underlying5 (by kernel_rfl) hf with ⟨hcs, _⟩ | ⟨x, l, c, zs, hcs, _, hl, hm, hz, _, hcell, hwz⟩
  · simp [Value.cells] at hcs
    obtain ⟨rfl, rfl, rfl⟩ := hcs
    exact ⟨none, 0, [], rfl, fun _ => rfl, Byt.nil_ _ _, by simp⟩
  · simp [Value.cells] at hcs
    obtain ⟨rfl, rfl, rfl⟩ := hcs
    simp at hz
    refine ⟨some x, cap0, (zs.take len0).map (fun n => UInt8.ofNat n.toNat), by simp [hz, hl], by simp, ?_, by simp; omega⟩
    intro _
    refine ⟨x, rfl, fun j u hu => ?_⟩
    have hj : j < len0 := by
      have := (List.getElem?_eq_some_iff.1 hu).1
      simp [bvals] at this
      omega
    have hjz : j < zs.length := by omega
    rw [hcell j hjz]
    have hw := hwz (zs[j]) (List.getElem_mem hjz)
    have hb : 0 ≤ zs[j] ∧ zs[j] ≤ 255 := by
      simp [Lit.wf, IntKind.min, IntKind.max, IntKind.signed, IntKind.bits] at hw
      omega
    simp [bvals, bval, hj, List.getElem?_take, hjz] at hu
    rw [← hu]
    simp [hjz]
    omega


/-- a slice argument, element by element: the cells of each, and that they read as the element's type -/
theorem open_rows {H : Type} {enc : TypeId × Value → H} {W : World} {base : Nat} {v : Value} {d : DataW H} {p : List MemPlace} {t e : TypeId}
    (ht : Try.prog.underlying t = some (.slice e)) (hsz : 0 < Try.prog.cellsOf e) (o : Value.okWide Try.prog W .any base t v)
    (h : DataW.Trod enc Try.prog W 0 (fun _ => true) true t v d p) : ∃ A n c, v = .slice A n c ∧ n ≤ maxLen ∧ (A = none → n = 0 ∧ c = 0) ∧ (0 < n → ∃ b off, A = some ⟨b, off, none⟩ ∧ b < W.heap.size ∧ ∀ i, i < n → ∃ (cs : List Value) (fuel : Nat) (x : DataW H × List MemPlace),
      cs.length = Try.prog.cellsOf e ∧ (∀ j, j < Try.prog.cellsOf e → W.cell? ⟨b, off + (i * Try.prog.cellsOf e + j), none⟩ = cs[j]?) ∧ DataW.trod enc Try.prog W 0 (fun _ => true) true fuel e cs = some x) := by
  obtain ⟨a0, len0, cap0, rfl⟩ := okWide_slice ht o
  obtain ⟨fuel, hf⟩ := h
  rcases Go.Deep.open_slice ht hf with ⟨hcs, _⟩ | ⟨a, l, c, m, n, D, Pl, hcs, _, hl, hm, hmm, _, hel⟩
  · simp [Value.cells] at hcs
    obtain ⟨rfl, rfl, rfl⟩ := hcs
    exact ⟨none, 0, 0, rfl, by simp, fun _ => ⟨rfl, rfl⟩, fun h => absurd h (by omega)⟩
  · simp [Value.cells] at hcs
    obtain ⟨rfl, rfl, rfl⟩ := hcs
    simp at hmm
    subst hmm
    refine ⟨some a, _, _, rfl, by omega, by simp, fun h0 => ?_⟩
    have key : ∀ i, i < len0 → ∃ (cs : List Value) (x : DataW H × List MemPlace), cs.length = Try.prog.cellsOf e ∧ (∀ j, j < Try.prog.cellsOf e → W.cell? (a.add (i * Try.prog.cellsOf e + j)) = cs[j]?) ∧ DataW.trod enc Try.prog W 0 (fun _ => true) true n e cs = some x := by
      intro i hi
      obtain ⟨cs, hc, htr⟩ := hel i (by omega)
      obtain ⟨_, hlen, hat⟩ := World.cells?_some hc
      refine ⟨cs, _, hlen, fun j hj => ?_, htr⟩
      rw [← hat j hj, Go.Deep.add_add]
    obtain ⟨cs, x, hlen, hat, _⟩ := key 0 h0
    have h00 := hat 0 hsz
    simp only [Nat.zero_mul, Nat.zero_add] at h00
    have hsome : cs[0]? = some (cs[0]'(by omega)) := List.getElem?_eq_getElem (by omega)
    have hsp := World.cell?_spot (h00.trans hsome)
    obtain ⟨b, off, spot⟩ := a
    simp only [Addr.add, ↓reduceIte] at hsp
    subst hsp
    refine ⟨b, off, rfl, World.block_lt_of_cell? W _ (by simpa [Addr.add] using h00.trans hsome), fun i hi => ?_⟩
    obtain ⟨cs, x, hlen, hat, htr⟩ := key i hi
    refine ⟨cs, n, x, hlen, fun j hj => ?_, htr⟩
    rw [← hat j hj]
    simp only [Addr.add]
    split <;> simp_all

/-- the slice at A reads as pairs of numbers, two cells each -/
def Prs (W : World) (A : Option Addr) (k1 k2 : IntKind) (l : List (Int × Int)) : Prop :=
  0 < l.length → ∃ b off, A = some ⟨b, off, none⟩ ∧ b < W.heap.size ∧ ∀ i (h : i < l.length), W.cell? ⟨b, off + i * 2, none⟩ = some (.int k1 l[i].1) ∧ W.cell? ⟨b, off + i * 2 + 1, none⟩ = some (.int k2 l[i].2) ∧
    (Lit.int k1 l[i].1).wf = true ∧ (Lit.int k2 l[i].2).wf = true

/-- out of one number for each place, a list -/
theorem list_of {α : Type} [Inhabited α] (n : Nat) (P : Nat → α → Prop) (h : ∀ i, i < n → ∃ x, P i x) : ∃ l : List α, l.length = n ∧ ∀ i (hi : i < l.length), P i l[i] := by
  induction n with
  | zero => exact ⟨[], rfl, fun i hi => absurd hi (by simp)⟩
  | succ n ih =>
    obtain ⟨l, hl, hp⟩ := ih (fun i hi => h i (by omega))
    obtain ⟨x, hx⟩ := h n (by omega)
    refine ⟨l ++ [x], by simp [hl], fun i hi => ?_⟩
    by_cases hin : i < l.length
    · rw [List.getElem_append_left hin]; exact hp i hin
    · have : i = n := by simp at hi; omega
      subst this
      simp [← hl]
      rw [hl]; exact hx

theorem open_pairs {H : Type} {enc : TypeId × Value → H} {W : World} {base : Nat} {v : Value} {d : DataW H} {p : List MemPlace} {t e : TypeId} {k1 k2 : IntKind} {f1 f2 : Field}
    (ht : Try.prog.underlying t = some (.slice e)) (he : Try.prog.underlying e = some (.struct #[f1, f2])) (hk1 : Try.prog.underlying f1.type = some (.int k1)) (hk2 : Try.prog.underlying f2.type = some (.int k2))
    (hone : Go.Deep.oneCellFields Try.prog #[f1, f2] = true) (hC : Try.prog.cellsOf e = 2)
    (o : Value.okWide Try.prog W .any base t v)
    (h : DataW.Trod enc Try.prog W 0 (fun _ => true) true t v d p) : ∃ A c l, v = .slice A l.length c ∧ Prs W A k1 k2 l ∧ l.length ≤ maxLen := by
  obtain ⟨A, n, c, rfl, hn, _, hel⟩ := open_rows ht (by omega) o h
  rcases Nat.eq_zero_or_pos n with h0 | h0
  · subst h0
    exact ⟨A, c, [], rfl, fun h => absurd h (by simp), by simp⟩
  obtain ⟨b, off, rfl, hb, hel⟩ := hel h0
  rw [hC] at hel
  obtain ⟨l, hl, hp⟩ := list_of (α := Int × Int) n (fun i x => W.cell? ⟨b, off + i * 2, none⟩ = some (.int k1 x.1) ∧ W.cell? ⟨b, off + i * 2 + 1, none⟩ = some (.int k2 x.2) ∧ (Lit.int k1 x.1).wf = true ∧ (Lit.int k2 x.2).wf = true) (by
    intro i hi
    obtain ⟨cs, fuel, x, hlen, hat, htr⟩ := hel i hi
    obtain ⟨y0, y1, m, _, _, hy0, hy1⟩ := trod_struct2 he htr
    obtain ⟨ho0, hc0⟩ := Go.Deep.hone_of hone 0 f1 rfl
    obtain ⟨ho1, hc1⟩ := Go.Deep.hone_of hone 1 f2 rfl
    match cs, hlen with
    | [c0, c1], _ =>
      rw [ho0, hc0] at hy0
      rw [ho1, hc1] at hy1
      obtain ⟨x0, e0, _, w0⟩ := DataW.trod_int hk1 hy0
      obtain ⟨x1, e1, _, w1⟩ := DataW.trod_int hk2 hy1
      simp at e0 e1
      subst e0 e1
      exact ⟨(x0, x1), by simpa using hat 0 (by omega), by simpa [Nat.add_assoc] using hat 1 (by omega), w0, w1⟩)
  subst hl
  exact ⟨_, c, l, rfl, fun _ => ⟨b, off, rfl, hb, hp⟩, hn⟩

theorem Prs.below {W W' : World} {A : Option Addr} {k1 k2 : IntKind} {l : List (Int × Int)} (h : Prs W A k1 k2 l) (hb : Below W.heap.size W W') : Prs W' A k1 k2 l := by
  intro h0
  obtain ⟨b, off, e, hlt, hc⟩ := h h0
  refine ⟨b, off, e, Nat.lt_of_lt_of_le hlt hb.size, fun i hi => ?_⟩
  obtain ⟨c1, c2, w1, w2⟩ := hc i hi
  exact ⟨(hb.cell (p := ⟨b, off + i * 2, none⟩) hlt).trans c1, (hb.cell (p := ⟨b, off + i * 2 + 1, none⟩) hlt).trans c2, w1, w2⟩
end Go.Proofs.Ytfdiolfelecccaa


/- api.Frame: a frame as a value, as a block, as an argument; two frames held against each other. -/
namespace Go.Proofs.Ytfdiolfelecccaa
open Go.ChangeShapes Go.WideShapes Go.ChangeAt Go.RowKit
set_option linter.unusedVariables false
set_option linter.unusedSimpArgs false
set_option maxRecDepth 100000

/-- a frame -/
structure Fr where
  (d0 d1 d2 d3 d4 d5 s0 s1 s2 s3 s4 s5 : UInt8)
  tag : Bool
  pri : UInt8
  vid : UInt16
  ty : UInt16
  data : List UInt8
def Fr.dst (f : Fr) : List UInt8 := [f.d0, f.d1, f.d2, f.d3, f.d4, f.d5]
def Fr.src (f : Fr) : List UInt8 := [f.s0, f.s1, f.s2, f.s3, f.s4, f.s5]
def Fr.zero : Fr := ⟨0, 0, 0, 0, 0, 0, 0, 0, 0, 0, 0, 0, false, 0, 0, 0, []⟩
/-- a frame as a value -/
abbrev FV (f : Fr) : Value := .agg #[.int .u8 f.d0.toNat, .int .u8 f.d1.toNat, .int .u8 f.d2.toNat, .int .u8 f.d3.toNat, .int .u8 f.d4.toNat, .int .u8 f.d5.toNat, .int .u8 f.s0.toNat, .int .u8 f.s1.toNat, .int .u8 f.s2.toNat, .int .u8 f.s3.toNat, .int .u8 f.s4.toNat, .int .u8 f.s5.toNat, .bool f.tag, .int .u8 f.pri.toNat, .int .u16 f.vid.toNat, .int .u16 f.ty.toNat, .string ⟨f.data.toArray⟩]
def FZ : Array Value := #[.int .u8 0, .int .u8 0, .int .u8 0, .int .u8 0, .int .u8 0, .int .u8 0, .int .u8 0, .int .u8 0, .int .u8 0, .int .u8 0, .int .u8 0, .int .u8 0, .bool false, .int .u8 0, .int .u16 0, .int .u16 0, .string ⟨#[]⟩]
/-- the cells of a frame at g -/
structure FrC (w : World) (g : Nat) (f : Fr) : Prop where
  c0 : w.cell? ⟨g, 0, none⟩ = some (Value.int .u8 f.d0.toNat)
  c1 : w.cell? ⟨g, 1, none⟩ = some (Value.int .u8 f.d1.toNat)
  c2 : w.cell? ⟨g, 2, none⟩ = some (Value.int .u8 f.d2.toNat)
  c3 : w.cell? ⟨g, 3, none⟩ = some (Value.int .u8 f.d3.toNat)
  c4 : w.cell? ⟨g, 4, none⟩ = some (Value.int .u8 f.d4.toNat)
  c5 : w.cell? ⟨g, 5, none⟩ = some (Value.int .u8 f.d5.toNat)
  c6 : w.cell? ⟨g, 6, none⟩ = some (Value.int .u8 f.s0.toNat)
  c7 : w.cell? ⟨g, 7, none⟩ = some (Value.int .u8 f.s1.toNat)
  c8 : w.cell? ⟨g, 8, none⟩ = some (Value.int .u8 f.s2.toNat)
  c9 : w.cell? ⟨g, 9, none⟩ = some (Value.int .u8 f.s3.toNat)
  c10 : w.cell? ⟨g, 10, none⟩ = some (Value.int .u8 f.s4.toNat)
  c11 : w.cell? ⟨g, 11, none⟩ = some (Value.int .u8 f.s5.toNat)
  c12 : w.cell? ⟨g, 12, none⟩ = some (Value.bool f.tag)
  c13 : w.cell? ⟨g, 13, none⟩ = some (Value.int .u8 f.pri.toNat)
  c14 : w.cell? ⟨g, 14, none⟩ = some (Value.int .u16 f.vid.toNat)
  c15 : w.cell? ⟨g, 15, none⟩ = some (Value.int .u16 f.ty.toNat)
  c16 : w.cell? ⟨g, 16, none⟩ = some (Value.string ⟨f.data.toArray⟩)
theorem FrC.next {w w' : World} {g : Nat} {f : Fr} (h : FrC w g f) (hb : Below w.heap.size w w') : FrC w' g f := by
  have hg := World.block_lt_of_cell? w _ h.c0
  have hk : ∀ i, w'.cell? ⟨g, i, none⟩ = w.cell? ⟨g, i, none⟩ := fun i => hb.cell (p := ⟨g, i, none⟩) hg
  exact ⟨(hk 0).trans h.c0, (hk 1).trans h.c1, (hk 2).trans h.c2, (hk 3).trans h.c3, (hk 4).trans h.c4, (hk 5).trans h.c5, (hk 6).trans h.c6, (hk 7).trans h.c7, (hk 8).trans h.c8, (hk 9).trans h.c9, (hk 10).trans h.c10, (hk 11).trans h.c11, (hk 12).trans h.c12, (hk 13).trans h.c13, (hk 14).trans h.c14, (hk 15).trans h.c15, (hk 16).trans h.c16⟩

/-- are two frames the same? -/
def Fr.same (f g : Fr) : Bool := (f.dst == g.dst) && ((f.src == g.src) && ((f.tag == g.tag) && ((f.pri == g.pri) && ((f.vid == g.vid) && ((f.ty == g.ty) && (f.data == g.data))))))
theorem Fr.same_iff (f g : Fr) : f.same g = true ↔ f = g := by
  constructor
  · intro h
    obtain ⟨a0, a1, a2, a3, a4, a5, a6, a7, a8, a9, a10, a11, a12, a13, a14, a15, a16⟩ := f
    obtain ⟨b0, b1, b2, b3, b4, b5, b6, b7, b8, b9, b10, b11, b12, b13, b14, b15, b16⟩ := g
    simp only [Fr.same, Fr.dst, Fr.src, Bool.and_eq_true, beq_iff_eq, List.cons.injEq, and_true] at h
    obtain ⟨⟨h0, h1, h2, h3, h4, h5⟩, ⟨h6, h7, h8, h9, h10, h11⟩, h12, h13, h14, h15, h16⟩ := h
    subst h0 h1 h2 h3 h4 h5 h6 h7 h8 h9 h10 h11 h12 h13 h14 h15 h16
    rfl
  · rintro rfl
    simp [Fr.same]
theorem Fr.same_self (f : Fr) : f.same f = true := (Fr.same_iff f f).2 rfl
theorem u8_beq (a b : UInt8) : (((a.toNat : Nat) : Int) == ((b.toNat : Nat) : Int)) = (a == b) := by
  rw [Bool.eq_iff_iff]
  simp only [beq_iff_eq]
  exact ⟨fun e => UInt8.toNat_inj.1 (by omega), fun e => by rw [e]⟩
theorem u16_beq (a b : UInt16) : (((a.toNat : Nat) : Int) == ((b.toNat : Nat) : Int)) = (a == b) := by
  rw [Bool.eq_iff_iff]
  simp only [beq_iff_eq]
  exact ⟨fun e => UInt16.toNat_inj.1 (by omega), fun e => by rw [e]⟩
theorem str_beq (a b : List UInt8) : ((⟨a.toArray⟩ : ByteArray).toList == (⟨b.toArray⟩ : ByteArray).toList) = (a == b) := by
  rw [ByteArray.toList_eq, ByteArray.toList_eq]
theorem eqf_step {P : Program} {d : Nat} {xs ys : Array Value} {f : Field} {fs : List Field} {w : World} {a b : Value} {r s : Bool} (hn : f.name ≠ "_") (ha : (part f.type xs f.offset).run P w = .ok a w) (hb : (part f.type ys f.offset).run P w = .ok b w)
    (hr : (Op.equalIn d f.type a b).run P w = .ok r w) (hs : (Op.eqFields d xs ys fs).run P w = .ok s w) : (Op.eqFields d xs ys (f :: fs)).run P w = .ok (r && s) w := by
  simp only [Op.eqFields, hn, ne_eq, not_false_eq_true, if_true, Sem.run_bind, ha, hb, hr, Result.andThen_ok]
  cases r
  · simp
  · simp only [Bool.not_true, Bool.false_eq_true, if_false, Bool.true_and]
    exact hs
theorem eqf_nil {P : Program} {d : Nat} {xs ys : Array Value} {w : World} : (Op.eqFields d xs ys []).run P w = .ok true w := by simp [Op.eqFields]
/-- a row's cell i is of its type -/
theorem okRow_at {P : Program} {w : World} {r : Reach} {base : Nat} {t : TypeId} {l : List Value} {ts : List TypeId} (hts : P.cellTypes P.depth t = some ts) (h : Row.okWide P w r base t ⟨l⟩) (i : Nat) (v : Value) (u : TypeId) (hv : l[i]? = some v) (hu : ts[i]? = some u) : Cell.okWide P w r base u v := by
  obtain ⟨ts', h1, _, h2⟩ := h
  rw [hts] at h1
  cases h1
  obtain ⟨u', h3, h4⟩ := h2 i v (by simpa using hv)
  have hlt : i < ts.length := (List.getElem?_eq_some_iff.1 hu).1
  rw [Nat.mod_eq_of_lt hlt, hu] at h3
  cases h3
  exact h4
theorem cell_u8 {P : Program} {w : World} {r : Reach} {base : Nat} {t : TypeId} {v : Value} (ht : P.underlying t = some (.int .u8)) (h : Cell.okWide P w r base t v) : ∃ u : UInt8, v = .int .u8 u.toNat := by
  simp only [Cell.okWide, ht] at h
  cases v with
  | int k n =>
    simp only [Cell.ok, ht] at h
    obtain ⟨rfl, hn⟩ := h
    have hb : 0 ≤ n ∧ n ≤ 255 := by
      simp [IntKind.has, IntKind.min, IntKind.max, IntKind.signed, IntKind.bits] at hn
      omega
    refine ⟨UInt8.ofNat n.toNat, congrArg _ ?_⟩
    have : n.toNat % 256 = n.toNat := by omega
    simp [this]
    omega
  | _ => simp [Cell.ok, ht] at h
theorem cell_u16 {P : Program} {w : World} {r : Reach} {base : Nat} {t : TypeId} {v : Value} (ht : P.underlying t = some (.int .u16)) (h : Cell.okWide P w r base t v) : ∃ u : UInt16, v = .int .u16 u.toNat := by
  simp only [Cell.okWide, ht] at h
  cases v with
  | int k n =>
    simp only [Cell.ok, ht] at h
    obtain ⟨rfl, hn⟩ := h
    have hb : 0 ≤ n ∧ n ≤ 65535 := by
      simp [IntKind.has, IntKind.min, IntKind.max, IntKind.signed, IntKind.bits] at hn
      omega
    refine ⟨UInt16.ofNat n.toNat, congrArg _ ?_⟩
    have : n.toNat % 65536 = n.toNat := by omega
    simp [this]
    omega
  | _ => simp [Cell.ok, ht] at h
theorem cell_bool {P : Program} {w : World} {r : Reach} {base : Nat} {t : TypeId} {v : Value} (ht : P.underlying t = some .bool) (h : Cell.okWide P w r base t v) : ∃ b, v = .bool b := by
  simp only [Cell.okWide, ht] at h
  cases v <;> simp_all [Cell.ok]
theorem cell_str {P : Program} {w : World} {r : Reach} {base : Nat} {t : TypeId} {v : Value} (ht : P.underlying t = some .string) (h : Cell.okWide P w r base t v) : ∃ l : List UInt8, v = .string ⟨l.toArray⟩ := by
  simp only [Cell.okWide, ht] at h
  cases v <;> simp_all [Cell.ok]
  rename_i s
  exact ⟨s.data.toList, by simp⟩
theorem vlist17 {l : List Value} (h : l.length = 17) : ∃ v0 v1 v2 v3 v4 v5 v6 v7 v8 v9 v10 v11 v12 v13 v14 v15 v16, l = [v0, v1, v2, v3, v4, v5, v6, v7, v8, v9, v10, v11, v12, v13, v14, v15, v16] := by
  match l, h with
  | [v0, v1, v2, v3, v4, v5, v6, v7, v8, v9, v10, v11, v12, v13, v14, v15, v16], _ => exact ⟨v0, v1, v2, v3, v4, v5, v6, v7, v8, v9, v10, v11, v12, v13, v14, v15, v16, rfl⟩
end Go.Proofs.Ytfdiolfelecccaa


/- A frame's bytes, and back (plain). -/
namespace Go.Proofs.Ytfdiolfelecccaa
open Go.RowKit
set_option linter.unusedVariables false
set_option linter.unusedSimpArgs false
set_option maxRecDepth 100000

/-- may a frame be, but for its length? -/
def fmay (f : Fr) : Bool := if f.tag then decide (f.pri.toNat ≤ 7) && decide (f.vid.toNat ≤ 4095) else (f.pri == 0) && ((f.vid == 0) && (f.ty != 33024))
/-- the bytes ahead of the data -/
def fhead (f : Fr) : List UInt8 := f.dst ++ f.src ++ (if f.tag then dig 2 33024 ++ dig 2 (f.pri.toNat * 8192 + f.vid.toNat) else []) ++ dig 2 f.ty.toNat
def fbytes (f : Fr) : List UInt8 := fhead f ++ f.data
def flen (f : Fr) : Nat := (if f.tag then 18 else 14) + f.data.length
theorem fbytes_len (f : Fr) : (fbytes f).length = flen f := by
  unfold fbytes fhead flen Fr.dst Fr.src
  split <;> simp [dig_len] <;> omega
/-- Put's error and bytes -/
def fputE (f : Fr) : Int := if fmay f = false then 2 else if 1522 < flen f then 5 else 0
def fputV (f : Fr) : List UInt8 := if fputE f = 0 then fbytes f else []

def u16of (a b : UInt8) : UInt16 := UInt16.ofNat (a.toNat * 256 + b.toNat)
theorem u16of_nat (a b : UInt8) : (u16of a b).toNat = a.toNat * 256 + b.toNat := by
  have := a.toNat_lt
  have := b.toNat_lt
  unfold u16of
  simp
  omega
/-- is there a tag? -/
def ftag (s : List UInt8) : Bool := (s.getD 12 0 == 129) && (s.getD 13 0 == 0)
/-- Take's error -/
def ftakeE (s : List UInt8) : Int :=
  if 1522 < s.length then 5 else if s.length < 14 then 3 else if ftag s = false then 0 else if s.length < 16 then 3 else if (s.getD 14 0).toNat / 16 % 2 = 1 then 4 else if s.length < 18 then 3 else 0
/-- the frame whose bytes these are -/
def fofb (s : List UInt8) : Fr :=
  if ftag s then ⟨s.getD 0 0, s.getD 1 0, s.getD 2 0, s.getD 3 0, s.getD 4 0, s.getD 5 0, s.getD 6 0, s.getD 7 0, s.getD 8 0, s.getD 9 0, s.getD 10 0, s.getD 11 0, true, UInt8.ofNat ((s.getD 14 0).toNat / 32), UInt16.ofNat ((s.getD 14 0).toNat % 16 * 256 + (s.getD 15 0).toNat), u16of (s.getD 16 0) (s.getD 17 0), s.drop 18⟩
  else ⟨s.getD 0 0, s.getD 1 0, s.getD 2 0, s.getD 3 0, s.getD 4 0, s.getD 5 0, s.getD 6 0, s.getD 7 0, s.getD 8 0, s.getD 9 0, s.getD 10 0, s.getD 11 0, false, 0, 0, u16of (s.getD 12 0) (s.getD 13 0), s.drop 14⟩
def ftakeF (s : List UInt8) : Fr := if ftakeE s = 0 then fofb s else Fr.zero

theorem dig2 (n : Nat) : dig 2 n = [UInt8.ofNat (n / 256 % 256), UInt8.ofNat (n % 256)] := rfl
theorem u16_dig (x : UInt16) : u16of (UInt8.ofNat (x.toNat / 256 % 256)) (UInt8.ofNat (x.toNat % 256)) = x := by
  have h := x.toNat_lt
  apply UInt16.toNat_inj.1
  rw [u16of_nat]
  simp
  omega
theorem dig_u16 (a b : UInt8) : dig 2 (u16of a b).toNat = [a, b] := by
  rw [u16of_nat, dig2]
  have ha := a.toNat_lt
  have hb := b.toNat_lt
  rw [show (a.toNat * 256 + b.toNat) / 256 % 256 = a.toNat by omega, show (a.toNat * 256 + b.toNat) % 256 = b.toNat by omega]
  simp
theorem cons_of {l : List UInt8} (n : Nat) (h : n + 1 ≤ l.length) : ∃ x r, l = x :: r ∧ n ≤ r.length := by
  cases l with
  | nil => simp at h
  | cons x r => exact ⟨x, r, rfl, by simpa using h⟩
theorem list14 {l : List UInt8} (h : 14 ≤ l.length) : ∃ x0 x1 x2 x3 x4 x5 x6 x7 x8 x9 x10 x11 x12 x13 r, l = x0 :: x1 :: x2 :: x3 :: x4 :: x5 :: x6 :: x7 :: x8 :: x9 :: x10 :: x11 :: x12 :: x13 :: r := by
  obtain ⟨x0, l0, rfl, h0⟩ := cons_of 13 h
  obtain ⟨x1, l1, rfl, h1⟩ := cons_of 12 h0
  obtain ⟨x2, l2, rfl, h2⟩ := cons_of 11 h1
  obtain ⟨x3, l3, rfl, h3⟩ := cons_of 10 h2
  obtain ⟨x4, l4, rfl, h4⟩ := cons_of 9 h3
  obtain ⟨x5, l5, rfl, h5⟩ := cons_of 8 h4
  obtain ⟨x6, l6, rfl, h6⟩ := cons_of 7 h5
  obtain ⟨x7, l7, rfl, h7⟩ := cons_of 6 h6
  obtain ⟨x8, l8, rfl, h8⟩ := cons_of 5 h7
  obtain ⟨x9, l9, rfl, h9⟩ := cons_of 4 h8
  obtain ⟨x10, l10, rfl, h10⟩ := cons_of 3 h9
  obtain ⟨x11, l11, rfl, h11⟩ := cons_of 2 h10
  obtain ⟨x12, l12, rfl, h12⟩ := cons_of 1 h11
  obtain ⟨x13, l13, rfl, h13⟩ := cons_of 0 h12
  exact ⟨x0, x1, x2, x3, x4, x5, x6, x7, x8, x9, x10, x11, x12, x13, l13, rfl⟩
theorem list18 {l : List UInt8} (h : 18 ≤ l.length) : ∃ x0 x1 x2 x3 x4 x5 x6 x7 x8 x9 x10 x11 x12 x13 x14 x15 x16 x17 r, l = x0 :: x1 :: x2 :: x3 :: x4 :: x5 :: x6 :: x7 :: x8 :: x9 :: x10 :: x11 :: x12 :: x13 :: x14 :: x15 :: x16 :: x17 :: r := by
  obtain ⟨x0, l0, rfl, h0⟩ := cons_of 17 h
  obtain ⟨x1, l1, rfl, h1⟩ := cons_of 16 h0
  obtain ⟨x2, l2, rfl, h2⟩ := cons_of 15 h1
  obtain ⟨x3, l3, rfl, h3⟩ := cons_of 14 h2
  obtain ⟨x4, l4, rfl, h4⟩ := cons_of 13 h3
  obtain ⟨x5, l5, rfl, h5⟩ := cons_of 12 h4
  obtain ⟨x6, l6, rfl, h6⟩ := cons_of 11 h5
  obtain ⟨x7, l7, rfl, h7⟩ := cons_of 10 h6
  obtain ⟨x8, l8, rfl, h8⟩ := cons_of 9 h7
  obtain ⟨x9, l9, rfl, h9⟩ := cons_of 8 h8
  obtain ⟨x10, l10, rfl, h10⟩ := cons_of 7 h9
  obtain ⟨x11, l11, rfl, h11⟩ := cons_of 6 h10
  obtain ⟨x12, l12, rfl, h12⟩ := cons_of 5 h11
  obtain ⟨x13, l13, rfl, h13⟩ := cons_of 4 h12
  obtain ⟨x14, l14, rfl, h14⟩ := cons_of 3 h13
  obtain ⟨x15, l15, rfl, h15⟩ := cons_of 2 h14
  obtain ⟨x16, l16, rfl, h16⟩ := cons_of 1 h15
  obtain ⟨x17, l17, rfl, h17⟩ := cons_of 0 h16
  exact ⟨x0, x1, x2, x3, x4, x5, x6, x7, x8, x9, x10, x11, x12, x13, x14, x15, x16, x17, l17, rfl⟩
/-- what is put is taken -/
theorem take_put (f : Fr) (h : fputE f = 0) : ftakeE (fbytes f) = 0 ∧ ftakeF (fbytes f) = f := by
  obtain ⟨d0, d1, d2, d3, d4, d5, s0, s1, s2, s3, s4, s5, tag, pri, vid, ty, data⟩ := f
  have hm : fmay ⟨d0, d1, d2, d3, d4, d5, s0, s1, s2, s3, s4, s5, tag, pri, vid, ty, data⟩ = true := by
    unfold fputE at h
    split at h
    · simp at h
    · rename_i hn; simpa using hn
  have hl : flen ⟨d0, d1, d2, d3, d4, d5, s0, s1, s2, s3, s4, s5, tag, pri, vid, ty, data⟩ ≤ 1522 := by
    unfold fputE at h
    split at h
    · simp at h
    · split at h
      · simp at h
      · omega
  have hlen := fbytes_len ⟨d0, d1, d2, d3, d4, d5, s0, s1, s2, s3, s4, s5, tag, pri, vid, ty, data⟩
  cases tag
  · have hb : fbytes ⟨d0, d1, d2, d3, d4, d5, s0, s1, s2, s3, s4, s5, false, pri, vid, ty, data⟩ = d0 :: d1 :: d2 :: d3 :: d4 :: d5 :: s0 :: s1 :: s2 :: s3 :: s4 :: s5 :: UInt8.ofNat (ty.toNat / 256 % 256) :: UInt8.ofNat (ty.toNat % 256) :: data := rfl
    simp [fmay] at hm
    obtain ⟨rfl, rfl, hty⟩ := hm
    have ht : ftag (fbytes ⟨d0, d1, d2, d3, d4, d5, s0, s1, s2, s3, s4, s5, false, 0, 0, ty, data⟩) = false := by
      rw [hb]
      unfold ftag
      simp
      intro h1 h2
      apply hty
      have := ty.toNat_lt
      have e := u16_dig ty
      rw [h1, h2] at e
      rw [← e]
      rfl
    have he : ftakeE (fbytes ⟨d0, d1, d2, d3, d4, d5, s0, s1, s2, s3, s4, s5, false, 0, 0, ty, data⟩) = 0 := by
      unfold ftakeE
      rw [if_neg (by rw [hlen]; omega), if_neg (by rw [hlen]; simp [flen]), if_pos ht]
    refine ⟨he, ?_⟩
    unfold ftakeF fofb
    rw [if_pos he, ht, hb]
    simp [u16_dig]
  · have hb : fbytes ⟨d0, d1, d2, d3, d4, d5, s0, s1, s2, s3, s4, s5, true, pri, vid, ty, data⟩ = d0 :: d1 :: d2 :: d3 :: d4 :: d5 :: s0 :: s1 :: s2 :: s3 :: s4 :: s5 :: 129 :: 0 :: UInt8.ofNat ((pri.toNat * 8192 + vid.toNat) / 256 % 256) :: UInt8.ofNat ((pri.toNat * 8192 + vid.toNat) % 256) :: UInt8.ofNat (ty.toNat / 256 % 256) :: UInt8.ofNat (ty.toNat % 256) :: data := rfl
    simp [fmay] at hm
    have ht : ftag (fbytes ⟨d0, d1, d2, d3, d4, d5, s0, s1, s2, s3, s4, s5, true, pri, vid, ty, data⟩) = true := by
      rw [hb]; rfl
    have h14 : (UInt8.ofNat ((pri.toNat * 8192 + vid.toNat) / 256 % 256)).toNat = pri.toNat * 32 + vid.toNat / 256 := by simp; omega
    have h15 : (UInt8.ofNat ((pri.toNat * 8192 + vid.toNat) % 256)).toNat = vid.toNat % 256 := by simp; omega
    have he : ftakeE (fbytes ⟨d0, d1, d2, d3, d4, d5, s0, s1, s2, s3, s4, s5, true, pri, vid, ty, data⟩) = 0 := by
      unfold ftakeE
      rw [if_neg (by rw [hlen]; omega), if_neg (by rw [hlen]; simp [flen]; omega), if_neg (by rw [ht]; simp), if_neg (by rw [hlen]; simp [flen]; omega), if_neg (by
        rw [hb]
        simp only [List.getD_cons_succ, List.getD_cons_zero]
        rw [h14]
        omega), if_neg (by rw [hlen]; simp [flen])]
    refine ⟨he, ?_⟩
    unfold ftakeF fofb
    rw [if_pos he, ht, if_pos rfl, hb]
    simp only [List.getD_cons_succ, List.getD_cons_zero, List.drop_succ_cons, List.drop_zero]
    rw [h14, h15, u16_dig]
    have hp : UInt8.ofNat ((pri.toNat * 32 + vid.toNat / 256) / 32) = pri := by
      rw [show (pri.toNat * 32 + vid.toNat / 256) / 32 = pri.toNat by omega]
      simp
    have hv : UInt16.ofNat ((pri.toNat * 32 + vid.toNat / 256) % 16 * 256 + vid.toNat % 256) = vid := by
      rw [show (pri.toNat * 32 + vid.toNat / 256) % 16 * 256 + vid.toNat % 256 = vid.toNat by omega]
      simp
    rw [hp, hv]
/-- bytes that are taken are put as themselves -/
theorem put_take (s : List UInt8) (h : ftakeE s = 0) : fputE (ftakeF s) = 0 ∧ fbytes (ftakeF s) = s := by
  have hF : ftakeF s = fofb s := by unfold ftakeF; rw [if_pos h]
  rw [hF]
  unfold ftakeE at h
  split at h
  · simp at h
  rename_i h0
  split at h
  · simp at h
  rename_i h1
  split at h
  · rename_i ht
    obtain ⟨x0, x1, x2, x3, x4, x5, x6, x7, x8, x9, x10, x11, x12, x13, r, rfl⟩ := list14 (l := s) (by omega)
    unfold fofb
    rw [ht]
    simp only [Bool.false_eq_true, if_false, List.getD_cons_succ, List.getD_cons_zero, List.drop_succ_cons, List.drop_zero]
    have hb : fbytes ⟨x0, x1, x2, x3, x4, x5, x6, x7, x8, x9, x10, x11, false, 0, 0, u16of x12 x13, r⟩ = x0 :: x1 :: x2 :: x3 :: x4 :: x5 :: x6 :: x7 :: x8 :: x9 :: x10 :: x11 :: x12 :: x13 :: r := by
      unfold fbytes fhead Fr.dst Fr.src
      simp only [Bool.false_eq_true, if_false]
      rw [dig_u16]
      rfl
    have hty : u16of x12 x13 ≠ 33024 := by
      intro e
      have e2 := congrArg UInt16.toNat e
      rw [u16of_nat] at e2
      have e3 : (33024 : UInt16).toNat = 33024 := rfl
      have hb1 := x12.toNat_lt
      have hb2 := x13.toNat_lt
      have a1 : x12 = 129 := by apply UInt8.toNat_inj.1; show x12.toNat = 129; omega
      have a2 : x13 = 0 := by apply UInt8.toNat_inj.1; show x13.toNat = 0; omega
      subst a1 a2
      simp [ftag] at ht
    refine ⟨?_, hb⟩
    have hl := fbytes_len ⟨x0, x1, x2, x3, x4, x5, x6, x7, x8, x9, x10, x11, false, 0, 0, u16of x12 x13, r⟩
    rw [hb] at hl
    unfold fputE
    rw [if_neg (by simp [fmay, hty]), if_neg (by omega)]
  rename_i ht
  split at h
  · simp at h
  rename_i h2
  split at h
  · simp at h
  rename_i h3
  split at h
  · simp at h
  rename_i h4
  obtain ⟨x0, x1, x2, x3, x4, x5, x6, x7, x8, x9, x10, x11, x12, x13, x14, x15, x16, x17, r, rfl⟩ := list18 (l := s) (by omega)
  have ht' : ftag (x0 :: x1 :: x2 :: x3 :: x4 :: x5 :: x6 :: x7 :: x8 :: x9 :: x10 :: x11 :: x12 :: x13 :: x14 :: x15 :: x16 :: x17 :: r) = true := by simpa using ht
  unfold fofb
  rw [ht', if_pos rfl]
  simp only [List.getD_cons_succ, List.getD_cons_zero, List.drop_succ_cons, List.drop_zero] at h3 ⊢
  have hx14 := x14.toNat_lt
  have hx15 := x15.toNat_lt
  have hp : (UInt8.ofNat (x14.toNat / 32)).toNat = x14.toNat / 32 := by simp; omega
  have hv : (UInt16.ofNat (x14.toNat % 16 * 256 + x15.toNat)).toNat = x14.toNat % 16 * 256 + x15.toNat := by simp; omega
  have ht2 : x12 = 129 ∧ x13 = 0 := by simpa [ftag] using ht'
  obtain ⟨rfl, rfl⟩ := ht2
  have hb : fbytes ⟨x0, x1, x2, x3, x4, x5, x6, x7, x8, x9, x10, x11, true, UInt8.ofNat (x14.toNat / 32), UInt16.ofNat (x14.toNat % 16 * 256 + x15.toNat), u16of x16 x17, r⟩ = x0 :: x1 :: x2 :: x3 :: x4 :: x5 :: x6 :: x7 :: x8 :: x9 :: x10 :: x11 :: 129 :: 0 :: x14 :: x15 :: x16 :: x17 :: r := by
    unfold fbytes fhead Fr.dst Fr.src
    simp only [if_true]
    rw [dig_u16, hp, hv, show x14.toNat / 32 * 8192 + (x14.toNat % 16 * 256 + x15.toNat) = (u16of x14 x15).toNat by rw [u16of_nat]; omega, dig_u16]
    rfl
  refine ⟨?_, hb⟩
  have hl := fbytes_len ⟨x0, x1, x2, x3, x4, x5, x6, x7, x8, x9, x10, x11, true, UInt8.ofNat (x14.toNat / 32), UInt16.ofNat (x14.toNat % 16 * 256 + x15.toNat), u16of x16 x17, r⟩
  rw [hb] at hl
  unfold fputE
  rw [if_neg (by simp only [fmay, if_true, hp, hv]; simp; omega), if_neg (by omega)]
end Go.Proofs.Ytfdiolfelecccaa


/- Frames: small words on their cells. -/
namespace Go.Proofs.Ytfdiolfelecccaa
open Go.RowKit
set_option linter.unusedVariables false
set_option linter.unusedSimpArgs false
set_option maxRecDepth 100000

theorem fmay_tag (f : Fr) (h : f.tag = true) : fmay f = (decide (f.pri.toNat ≤ 7) && decide (f.vid.toNat ≤ 4095)) := by unfold fmay; rw [h]; rfl
theorem fmay_bare (f : Fr) (h : f.tag = false) : fmay f = ((f.pri == 0) && ((f.vid == 0) && (f.ty != 33024))) := by unfold fmay; rw [h]; rfl
theorem FrC.dst {w : World} {g : Nat} {f : Fr} (h : FrC w g f) (c : Nat) : Str w (.slice (some ⟨g, 0, none⟩) 6 c) f.dst := by
  refine ⟨_, c, rfl, by simp, fun _ => ⟨_, rfl, fun k u hu => ?_⟩⟩
  match k, hu with
  | 0, hu => cases hu; exact h.c0
  | 1, hu => cases hu; exact h.c1
  | 2, hu => cases hu; exact h.c2
  | 3, hu => cases hu; exact h.c3
  | 4, hu => cases hu; exact h.c4
  | 5, hu => cases hu; exact h.c5
theorem FrC.src {w : World} {g : Nat} {f : Fr} (h : FrC w g f) (c : Nat) : Str w (.slice (some ⟨g, 6, none⟩) 6 c) f.src := by
  refine ⟨_, c, rfl, by simp, fun _ => ⟨_, rfl, fun k u hu => ?_⟩⟩
  match k, hu with
  | 0, hu => cases hu; exact h.c6
  | 1, hu => cases hu; exact h.c7
  | 2, hu => cases hu; exact h.c8
  | 3, hu => cases hu; exact h.c9
  | 4, hu => cases hu; exact h.c10
  | 5, hu => cases hu; exact h.c11
theorem FrC.drewN {w : World} {g : Nat} {f : Fr} (h : FrC w g f) (n : Nat) : FrC (w.drewN n) g f := ⟨h.c0, h.c1, h.c2, h.c3, h.c4, h.c5, h.c6, h.c7, h.c8, h.c9, h.c10, h.c11, h.c12, h.c13, h.c14, h.c15, h.c16⟩
theorem keep1 {w w' : World} {p : Addr} {v : Value} (h : w.cell? p = some v) (hb : Below w.heap.size w w') : w'.cell? p = some v := by
  have hg := World.block_lt_of_cell? w _ h
  rw [hb.cell (p := p) hg]; exact h
theorem keepB {W w w' : World} (hB : Hid (Below W.heap.size W w)) (hb : Below w.heap.size w w') : Hid (Below W.heap.size W w') := Lib.hid (hB.out.trans (hb.mono hB.out.size))
theorem below_drewN {B : Nat} {a w : World} (h : Below B a w) (n : Nat) : Below B a (w.drewN n) := ⟨h.os, h.tape, h.output, h.size, h.block⟩
end Go.Proofs.Ytfdiolfelecccaa


/- append to a slice of the call's own, as a step of a region that draws; what a slice owns, kept. -/
namespace Go.Proofs.Ytfdiolfelecccaa
open Go.RowKit
set_option linter.unusedVariables false
set_option linter.unusedSimpArgs false
set_option maxRecDepth 100000

theorem step_append_own {P : Program} {w : World} {ops : Array Oper} {o : Oper} {a : Act} {K : Act → World → Prop} {Q : Exit → Act → World → Prop} {E : Prop} (hgd : o.guard = none) (s x : Operand) (t : TypeId)
    (ho : o.op = .call { callee := .builtin .append, args := #[s, x], argTypes := #[t, t] })
    (base : Nat) (e : TypeId) (i : TypeInfo) (z : Value) (size bytes : Nat) (ht : P.underlying t = some (.slice e)) (hi : P.info? e = some i) (hz : i.zero = some z)
    (hsize : i.size = size) (hby : i.bytes = bytes) (hzs : z.cells.size = size) (hsz : 0 < size)
    (v : Value) (n : Nat) (xs : List Value) (hs : a.eval s = v) (hown : w.ownsRow base e size v n xs)
    (ad : Addr) (m c : Nat) (news : List Value) (hx : a.eval x = .slice (some ad) m c) (hl : news.length = m * size) (hnews : ∀ j u, news[j]? = some u → w.cell? (ad.add j) = some u) (h1 : ∀ u ∈ news, u.oneCell' = true)
    (h63 : n + m ≤ maxLen) (hbytes : (n + m) * bytes ≤ 140737488355328) (hbase : base ≤ w.heap.size)
    (h : ∀ v' w', w'.ownsRow base e size v' (n + m) (xs ++ news) → w.grownBy w' v.ownBlock → K (a.put o.dst v') w') :
    if Region.wanted o (yielded ops a.tmps) = true then Oper.wp P o a w K Q else E := by
  have hw : Region.wanted o (yielded ops a.tmps) = true := by simp [Region.wanted, hgd]
  rw [if_pos hw]
  obtain ⟨v', w', hr, h2, h3, _, _⟩ := run_append_own_at (P := P) w base t o.type e i z size bytes ht hi hz hsize hby hzs hsz v n xs hown ad m c news hl hnews h1 h63 hbytes hbase
  unfold Oper.wp execOp
  simp only [ho, resolve, invoke, builtin, Sem.run_bind, Sem.run_pure, Result.andThen_ok, List.map_toArray, List.map_cons, List.map_nil, hs, hx, hr]
  exact h _ _ h2 h3
theorem own_below {w w' : World} {base : Nat} {e : TypeId} {size : Nat} {v : Value} {n : Nat} {xs : List Value} (h : w.ownsRow base e size v n xs) (hb : Below w.heap.size w w') : w'.ownsRow base e size v n xs := by
  refine ⟨h.1, ?_⟩
  rcases h.2 with hn | ⟨g, cap, cur, hv, hg, hgb, rest⟩
  · exact .inl hn
  · exact .inr ⟨g, cap, cur, hv, hg, (hb.block g (Array.getElem?_eq_some_iff.1 hgb).1).trans hgb, rest⟩
theorem grown_below {w0 w w' : World} {base : Nat} {e : TypeId} {size : Nat} {v : Value} {n : Nat} {xs : List Value} (hB : Below base w0 w) (hz : base ≤ w0.heap.size) (h : w.ownsRow base e size v n xs) (hg : w.grownBy w' v.ownBlock) : Below base w0 w' :=
  hB.grown hg (Nat.le_trans hz hB.size) (fun j ej => (h.lt j ej).1)
end Go.Proofs.Ytfdiolfelecccaa


/- Channels in one goroutine: words. -/
namespace Go.Proofs.Ytfdiolfelecccaa
open Go.RowKit Go.Conc
set_option linter.unusedVariables false
set_option linter.unusedSimpArgs false
set_option maxRecDepth 100000

/-- block c is an open channel with room for cap, that holds just these -/
def Chn (w : World) (c cap : Nat) (L : List Value) : Prop := ∃ s r, w.heap[c]? = some (.chan cap L.toArray false s r false)

theorem Chn.lt {w : World} {c cap : Nat} {L : List Value} (h : Chn w c cap L) : c < w.heap.size := by
  obtain ⟨s, r, h⟩ := h
  rcases Nat.lt_or_ge c w.heap.size with hlt | hge
  · exact hlt
  · rw [Array.getElem?_eq_none hge] at h; cases h
theorem Chn.chg {S : Nat → Prop} {w w' : World} {c cap : Nat} {L : List Value} (h : Chn w c cap L) (hc : Chg S w w') (hn : ¬ S c) : Chn w' c cap L := by
  have hl := h.lt
  obtain ⟨s, r, h⟩ := h
  exact ⟨s, r, (hc.block c hl hn).trans h⟩
theorem Chn.drew {w : World} {c cap : Nat} {L : List Value} (h : Chn w c cap L) : Chn w.drew c cap L := h
theorem Chn.new (w : World) (cap : Nat) : Chn (w.alloc (.chan cap #[] false 0 0 false)) w.heap.size cap [] := ⟨0, 0, heap_alloc_new w _⟩
theorem Chg.setChan {S : Nat → Prop} {w w' : World} (h : Chg S w w') {c : Nat} (hp : w.heap.size ≤ c ∨ S c) (cap : Nat) (buf : Array Value) (cl : Bool) (s r : Nat) (tm : Bool) : Chg S w (w'.setChan c cap buf cl s r tm) :=
  ⟨h.os, h.tape, h.output, Nat.le_trans h.size (by simp [World.setChan]), fun k hk hn => by
    have hne : c ≠ k := by rintro rfl; exact hp.elim (fun hp => by omega) (fun hp => hn hp)
    simp only [World.setChan]
    rw [Array.getElem?_setIfInBounds_ne hne]
    exact h.block k hk hn⟩
theorem Blk.setChan {w : World} {g : Nat} {t : TypeId} {cs : Array Value} (h : Blk w g t cs) {c : Nat} (hp : c ≠ g) (cap : Nat) (buf : Array Value) (cl : Bool) (s r : Nat) (tm : Bool) : Blk (w.setChan c cap buf cl s r tm) g t cs := by
  unfold Blk at h ⊢
  simp only [World.setChan]
  rw [Array.getElem?_setIfInBounds_ne hp]
  exact h
theorem Chn.set {w : World} {c : Nat} (h : c < w.heap.size) (cap : Nat) (L : List Value) (s r : Nat) : Chn (w.setChan c cap L.toArray false s r false) c cap L := ⟨s, r, heap_setChan w c cap _ false s r false h⟩


/-- a thing at block p of type t that holds just the channel c -/
structure Que (w : World) (p c : Nat) (t : TypeId) (cap : Nat) (L : List Value) : Prop where
  blk : Blk w p t #[.chan (some c)]
  ch : Chn w c cap L
theorem Que.ne {w : World} {p c cap : Nat} {t : TypeId} {L : List Value} (h : Que w p c t cap L) : c ≠ p := by
  rintro rfl
  obtain ⟨s, r, hc⟩ := h.ch
  have hb : w.heap[c]? = some _ := h.blk
  rw [hc] at hb
  cases hb
theorem Que.set {w : World} {p c cap : Nat} {t : TypeId} {L : List Value} (h : Que w p c t cap L) (L' : List Value) (s r : Nat) : Que (w.setChan c cap L'.toArray false s r false) p c t cap L' :=
  ⟨h.blk.setChan h.ne _ _ _ _ _ _, Chn.set h.ch.lt _ _ _ _⟩
theorem Que.chg {S : Nat → Prop} {w w' : World} {p c cap : Nat} {t : TypeId} {L : List Value} (h : Que w p c t cap L) (hc : Chg S w w') (hp : ¬ S p) (hn : ¬ S c) : Que w' p c t cap L :=
  ⟨h.blk.chg hc hp, h.ch.chg hc hn⟩
theorem Que.drew {w : World} {p c cap : Nat} {t : TypeId} {L : List Value} (h : Que w p c t cap L) : Que w.drew p c t cap L := ⟨h.blk, h.ch⟩
end Go.Proofs.Ytfdiolfelecccaa


/- A row that grew by append in this call: the append as a step of a plain walk; a row of single cells as a list. -/
namespace Go.Proofs.Ytfdiolfelecccaa
open Go.RowKit
set_option linter.unusedVariables false
set_option linter.unusedSimpArgs false
set_option maxRecDepth 100000

theorem wpl_append_own {P : Program} {w : World} {ops : Array Oper} {rest : List Oper} {o : Oper} {a : Act} {Q : Exit → Act → World → Prop} (hgd : o.guard = none) (s x : Operand) (t : TypeId)
    (ho : o.op = .call { callee := .builtin .append, args := #[s, x], argTypes := #[t, t] })
    (base : Nat) (e : TypeId) (i : TypeInfo) (z : Value) (size bytes : Nat) (ht : P.underlying t = some (.slice e)) (hi : P.info? e = some i) (hz : i.zero = some z)
    (hsize : i.size = size) (hby : i.bytes = bytes) (hzs : z.cells.size = size) (hsz : 0 < size)
    (v : Value) (n : Nat) (xs : List Value) (hs : a.eval s = v) (hown : w.ownsRow base e size v n xs)
    (ad : Addr) (m c : Nat) (news : List Value) (hx : a.eval x = .slice (some ad) m c) (hl : news.length = m * size) (hnews : ∀ j u, news[j]? = some u → w.cell? (ad.add j) = some u) (h1 : ∀ u ∈ news, u.oneCell' = true)
    (h63 : n + m ≤ maxLen) (hbytes : (n + m) * bytes ≤ 140737488355328) (hbase : base ≤ w.heap.size)
    (h : ∀ v' w', w'.ownsRow base e size v' (n + m) (xs ++ news) → w.grownBy w' v.ownBlock → wpList P ops Q rest (a.put o.dst v') w') :
    wpList P ops Q (o :: rest) a w :=
  wpList_plain hgd fun _ hK => by
    obtain ⟨v', w', hr, h2, h3, _, _⟩ := run_append_own_at (P := P) w base t o.type e i z size bytes ht hi hz hsize hby hzs hsz v n xs hown ad m c news hl hnews h1 h63 hbytes hbase
    unfold Oper.wp execOp
    simp only [ho, resolve, invoke, builtin, Sem.run_bind, Sem.run_pure, Result.andThen_ok, List.map_toArray, List.map_cons, List.map_nil, hs, hx, hr]
    exact hK _ _ (h _ _ h2 h3)

theorem newcells (w : World) (cs : List Value) (t : TypeId) : ∀ j u, cs[j]? = some u → (w.alloc (.cells cs.toArray t)).cell? ((⟨w.heap.size, 0, none⟩ : Addr).add j) = some u := by
  intro j u hj
  have hadd : (⟨w.heap.size, 0, none⟩ : Addr).add j = ⟨w.heap.size, j, none⟩ := by unfold Addr.add; split <;> simp_all
  rw [hadd, (Blk.new w t cs.toArray).cell j]
  simpa using hj
/-- a thing of one cell -/
def one (v : Value) : List Value := [v]
theorem flat_one (L : List Value) : L.flatMap one = L := by
  induction L with
  | nil => rfl
  | cons x L ih => simp only [List.flatMap_cons, one, ih]; rfl
/-- a row of one's own of single cells, as a list -/
theorem own_ones {w : World} {base : Nat} {t : TypeId} {v : Value} {n : Nat} {L : List Value} (hn : L.length = n) (h : w.ownsRow base t 1 v n L) :
    ∃ A c, v = .slice A n c ∧ Els 1 one w A L := by
  rcases h.2 with ⟨rfl, h0⟩ | ⟨g, cap, cur, rfl, hb, hg, _⟩
  · exact ⟨none, 0, by rw [h0], fun hL => absurd hL (by omega)⟩
  · refine ⟨_, cap, rfl, fun hL => ⟨g, 0, rfl, (Array.getElem?_eq_some_iff.1 hg).1, fun i hi j v hv => ?_⟩⟩
    obtain rfl : j = 0 := by
      have := (List.getElem?_eq_some_iff.1 hv).1
      simp only [one, List.length_cons, List.length_nil] at this
      omega
    have hv' : L[i]? = some v := by
      simp only [one, List.getElem?_cons_zero, Option.some.injEq] at hv
      rw [← hv]; exact List.getElem?_eq_getElem hi
    have := World.ownsRow.cells h (g := g) rfl i v hv'
    have hadd : (⟨g, 0, none⟩ : Addr).add i = ⟨g, 0 + i * 1 + 0, none⟩ := by unfold Addr.add; split <;> simp_all
    rw [hadd] at this
    exact this
theorem Els.at {w : World} {A : Option Addr} {L : List Value} (h : Els 1 one w A L) (h0 : 0 < L.length) : ∃ b off, A = some ⟨b, off, none⟩ ∧ b < w.heap.size ∧ ∀ i v, L[i]? = some v → w.cell? ⟨b, off + i, none⟩ = some v := by
  obtain ⟨b, off, e, hlt, hc⟩ := h h0
  refine ⟨b, off, e, hlt, fun i v hv => ?_⟩
  have hi : i < L.length := (List.getElem?_eq_some_iff.1 hv).1
  have := hc i hi 0 v (by rw [(List.getElem?_eq_some_iff.1 hv).2]; rfl)
  simpa using this
/-- a channel changed: rows of cells are as they were -/
theorem Els.chan {α : Type} {k : Nat} {enc : α → List Value} {w w' : World} {A : Option Addr} {l : List α} (h : Els k enc w A l) (hk : ∀ x, 0 < (enc x).length) {c cap : Nat} {L : List Value} (hc : Chn w c cap L) (hg : Chg (fun j => j = c) w w') : Els k enc w' A l := by
  intro h0
  obtain ⟨b, off, e, hlt, hcl⟩ := h h0
  have hne : b ≠ c := by
    rintro rfl
    obtain ⟨s, r, hb⟩ := hc
    have := hcl 0 h0 0 _ (List.getElem?_eq_getElem (hk _))
    simp [World.cell?, hb] at this
  exact ⟨b, off, e, Nat.lt_of_lt_of_le hlt hg.size, fun i hi j v hv => (hg.cell (p := ⟨b, off + i * k + j, none⟩) hlt hne).trans (hcl i hi j v hv)⟩
theorem own_chan {w w' : World} {base : Nat} {t : TypeId} {n : Nat} {v : Value} {xs : List Value} (h : w.ownsRow base t 1 v n xs) {c : Nat} (hcb : c < base) (hg : Chg (fun j => j = c) w w') : w'.ownsRow base t 1 v n xs := by
  refine ⟨h.1, ?_⟩
  rcases h.2 with hn | ⟨g, cap, cur, hv, hgb, hgg, rest⟩
  · exact .inl hn
  · exact .inr ⟨g, cap, cur, hv, hgb, (hg.block g (Array.getElem?_eq_some_iff.1 hgg).1 (by omega)).trans hgg, rest⟩
theorem chg_grown {S : Nat → Prop} {w0 w w' : World} {e : TypeId} {size n : Nat} {v : Value} {xs : List Value} (hB : Chg S w0 w) (h : w.ownsRow w0.heap.size e size v n xs) (hg : w.grownBy w' v.ownBlock) : Chg S w0 w' :=
  ⟨hg.os.trans hB.os, hg.tape.trans hB.tape, hg.output.trans hB.output, Nat.le_trans hB.size hg.size, fun k hk hs =>
    (hg.block k (Nat.lt_of_lt_of_le hk hB.size) (fun e => by have := (h.lt k e.symm).1; omega)).trans (hB.block k hk hs)⟩
theorem que_grown {w w' : World} {p c cap : Nat} {t : TypeId} {L : List Value} {base : Nat} {e : TypeId} {size n : Nat} {v : Value} {xs : List Value} (hq : Que w p c t cap L) (h : w.ownsRow base e size v n xs) (hp : p < base) (hc : c < base) (hg : w.grownBy w' v.ownBlock) : Que w' p c t cap L := by
  obtain ⟨s, r, hh⟩ := hq.ch
  exact ⟨(hg.block p hq.blk.lt (fun e => by have := (h.lt p e.symm).1; omega)).trans hq.blk, s, r, (hg.block c hq.ch.lt (fun e => by have := (h.lt c e.symm).1; omega)).trans hh⟩
theorem que_alloc {w : World} {p c cap : Nat} {t : TypeId} {L : List Value} (hq : Que w p c t cap L) (o : Obj) : Que (w.alloc o) p c t cap L := by
  have hl := hq.ch.lt
  obtain ⟨s, r, hh⟩ := hq.ch
  exact ⟨hq.blk.alloc o, s, r, (Below.heap_alloc w o c hl).trans hh⟩
end Go.Proofs.Ytfdiolfelecccaa


/- A row of one's own, of structs, as a list; where it lies. -/
namespace Go.Proofs.Ytfdiolfelecccaa
open Go.RowKit
set_option linter.unusedVariables false
set_option linter.unusedSimpArgs false
set_option maxRecDepth 100000

theorem flat_at {α : Type} (k : Nat) (enc : α → List Value) (hk : ∀ x, (enc x).length = k) (l : List α) (i : Nat) (hi : i < l.length) (j : Nat) (hj : j < k) : (l.flatMap enc)[i * k + j]? = (enc l[i])[j]? := by
  induction l generalizing i with
  | nil => simp at hi
  | cons x l ih =>
    rw [List.flatMap_cons]
    cases i with
    | zero =>
      rw [List.getElem?_append_left (by rw [hk]; omega)]
      simp
    | succ i =>
      rw [List.getElem?_append_right (by rw [hk, Nat.add_mul]; omega), hk, show (i + 1) * k + j - k = i * k + j by rw [Nat.add_mul]; omega]
      simpa using ih i (by simpa using hi)
/-- what a slice owns it reads; it lies among the call's own blocks -/
theorem own_elsB {α : Type} {k : Nat} {enc : α → List Value} (hk : ∀ x, (enc x).length = k) {w : World} {base : Nat} {t : TypeId} {v : Value} {l : List α} (h : w.ownsRow base t k v l.length (l.flatMap enc)) :
    ∃ A c, v = .slice A l.length c ∧ Els k enc w A l ∧ ∀ b off, A = some ⟨b, off, none⟩ → base ≤ b := by
  rcases h.2 with ⟨rfl, hn⟩ | ⟨g, cap, cur, rfl, hb, hg, _⟩
  · exact ⟨none, 0, by rw [hn], fun h0 => absurd h0 (by omega), fun b off e => by cases e⟩
  · refine ⟨_, cap, rfl, fun h0 => ⟨g, 0, rfl, (Array.getElem?_eq_some_iff.1 hg).1, fun i hi j v hv => ?_⟩, fun b off e => by cases e; exact hb⟩
    have hj : j < k := by rw [← hk l[i]]; exact (List.getElem?_eq_some_iff.1 hv).1
    have := World.ownsRow.cells h (g := g) rfl (i * k + j) v (by rw [flat_at k enc hk l i hi j hj]; exact hv)
    have hadd : (⟨g, 0, none⟩ : Addr).add (i * k + j) = ⟨g, 0 + i * k + j, none⟩ := by unfold Addr.add; split <;> simp_all
    rw [hadd] at this
    exact this
end Go.Proofs.Ytfdiolfelecccaa


/- append of structs that a slice reads as, nil or not, to a row of the call's own: up to a million. -/
namespace Go.Proofs.Ytfdiolfelecccaa
open Go.RowKit
set_option linter.unusedVariables false
set_option linter.unusedSimpArgs false
set_option maxRecDepth 100000

section
variable {α : Type} {k : Nat} {enc : α → List Value}
theorem flatL (hk : ∀ x, (enc x).length = k) (l : List α) : (l.flatMap enc).length = l.length * k := by
  induction l with
  | nil => simp
  | cons x l ih => rw [List.flatMap_cons, List.length_append, hk, ih, List.length_cons, Nat.add_mul]; omega
theorem elsL_src (hk : ∀ x, (enc x).length = k) (h0 : 0 < k) {w : World} {A : Option Addr} {r : List α} (h : Els k enc w A r) (hr : 0 < r.length) : ∃ ad, A = some ad ∧ ∀ j u, (r.flatMap enc)[j]? = some u → w.cell? (ad.add j) = some u := by
  obtain ⟨b, off, e, _, hc⟩ := h hr
  refine ⟨_, e, fun j u hu => ?_⟩
  have hadd : (⟨b, off, none⟩ : Addr).add j = ⟨b, off + j, none⟩ := by unfold Addr.add; split <;> simp_all
  rw [hadd]
  have hj : j < r.length * k := by
    have := (List.getElem?_eq_some_iff.1 hu).1
    rwa [flatL hk] at this
  have hdm := Nat.div_add_mod j k
  have hm := Nat.mod_lt j h0
  have hq : j / k < r.length := (Nat.div_lt_iff_lt_mul h0).2 hj
  have hjk : j / k * k + j % k = j := by rw [Nat.mul_comm]; exact hdm
  have := hc (j / k) hq (j % k) u (by
    rw [← flat_at k enc hk r (j / k) hq (j % k) hm, hjk]
    exact hu)
  rw [show off + j / k * k + j % k = off + j by omega] at this
  exact this
theorem elsL_chg {w w' : World} {A : Option Addr} {r : List α} {X : Nat → Prop} (h : Els k enc w A r) (hc : Chg X w w') (hn : ∀ a, A = some a → ¬ X a.block) : Els k enc w' A r := by
  intro h0
  obtain ⟨b, off, e, hlt, hcell⟩ := h h0
  refine ⟨b, off, e, Nat.lt_of_lt_of_le hlt hc.size, fun i hi j v hv => ?_⟩
  rw [World.cell?_of_block (w := w) (a := ⟨b, off + i * k + j, none⟩) (hc.block b hlt (hn _ e))]
  exact hcell i hi j v hv
/-- what append does -/
theorem run_appL {P : Program} {w : World} (hk : ∀ x, (enc x).length = k) (h1 : ∀ x, ∀ u ∈ enc x, u.oneCell' = true) (h0 : 0 < k) (base : Nat) (t ty e : TypeId) (i : TypeInfo) (z : Value) (bytes : Nat) (ht : P.underlying t = some (.slice e)) (hi : P.info? e = some i) (hz : i.zero = some z)
    (hsize : i.size = k) (hby : i.bytes = bytes) (hzs : z.cells.size = k) (v : Value) (l : List α) (hown : w.ownsRow base e k v l.length (l.flatMap enc)) (A : Option Addr) (c : Nat) (r : List α) (hA : A = none → c = 0) (hE : Els k enc w A r)
    (hlen : l.length + r.length ≤ 1000000) (hb : bytes ≤ 1000) (hbase : base ≤ w.heap.size) :
    ∃ v' w', (Builtin.append_ #[t, t] ty #[v, .slice A r.length c]).run P w = .ok v' w' ∧ w'.ownsRow base e k v' (l ++ r).length ((l ++ r).flatMap enc) ∧ w.grownBy w' v.ownBlock ∧ (v'.ownBlock = v.ownBlock ∨ v'.ownBlock = some w.heap.size) := by
  have key : ∀ ad, A = some ad → (∀ j u, (r.flatMap enc)[j]? = some u → w.cell? (ad.add j) = some u) → ∃ v' w', (Builtin.append_ #[t, t] ty #[v, .slice A r.length c]).run P w = .ok v' w' ∧ w'.ownsRow base e k v' (l ++ r).length ((l ++ r).flatMap enc) ∧ w.grownBy w' v.ownBlock ∧ (v'.ownBlock = v.ownBlock ∨ v'.ownBlock = some w.heap.size) := by
    rintro ad rfl hc
    have hbb : (l.length + r.length) * bytes ≤ 1000000 * 1000 := Nat.mul_le_mul hlen hb
    obtain ⟨v', w', hr, h2, h3, _, h5⟩ := run_append_own_at (P := P) w base t ty e i z k bytes ht hi hz hsize hby hzs h0 v l.length (l.flatMap enc) hown ad r.length c (r.flatMap enc) (flatL hk r) hc
      (fun u hu => by obtain ⟨x, _, hx⟩ := List.mem_flatMap.1 hu; exact h1 x u hx) (by unfold maxLen; omega) (by omega) hbase
    refine ⟨v', w', hr, ?_, h3, h5⟩
    rw [List.length_append, List.flatMap_append]
    exact h2
  rcases Nat.eq_zero_or_pos r.length with e0 | e0
  · have hr0 : r = [] := List.eq_nil_of_length_eq_zero e0
    subst hr0
    cases A with
    | none =>
      obtain rfl := hA rfl
      refine ⟨v, w, run_append_owned_none (P := P) (w := w) base t ty e i k ht hi v l.length (l.flatMap enc) hown, ?_, ⟨rfl, rfl, rfl, Nat.le_refl _, fun _ _ _ => rfl⟩, .inl rfl⟩
      simpa using hown
    | some ad => exact key ad rfl (by simp)
  · obtain ⟨ad, e, hc⟩ := elsL_src hk h0 hE e0
    exact key ad e hc
/-- append, as a step of a list -/
theorem wpl_appL {P : Program} {w : World} {ops : Array Oper} {rest : List Oper} {o : Oper} {a : Act} {Q : Exit → Act → World → Prop} (hgd : o.guard = none) (s x : Operand) (t : TypeId)
    (ho : o.op = .call { callee := .builtin .append, args := #[s, x], argTypes := #[t, t] })
    (hk : ∀ x, (enc x).length = k) (h1 : ∀ x, ∀ u ∈ enc x, u.oneCell' = true) (h0 : 0 < k) (base : Nat) (e : TypeId) (i : TypeInfo) (z : Value) (bytes : Nat) (ht : P.underlying t = some (.slice e)) (hi : P.info? e = some i ∧ i.zero = some z ∧ i.size = k ∧ i.bytes = bytes)
    (hzs : z.cells.size = k) (v : Value) (l : List α) (hs : a.eval s = v) (hown : w.ownsRow base e k v l.length (l.flatMap enc)) (A : Option Addr) (n c : Nat) (r : List α) (hn : r.length = n) (hx : a.eval x = .slice A n c) (hA : A = none → c = 0) (hE : Els k enc w A r)
    (hlen : l.length + r.length ≤ 1000000) (hb : bytes ≤ 1000) (hbase : base ≤ w.heap.size)
    (h : ∀ v' w', w'.ownsRow base e k v' (l ++ r).length ((l ++ r).flatMap enc) → w.grownBy w' v.ownBlock → (v'.ownBlock = v.ownBlock ∨ v'.ownBlock = some w.heap.size) → wpList P ops Q rest (a.put o.dst v') w') :
    wpList P ops Q (o :: rest) a w :=
  wpList_plain hgd fun _ hK => by
    subst hn
    obtain ⟨v', w', hr, h2, h3, h4⟩ := run_appL (P := P) (w := w) hk h1 h0 base t o.type e i z bytes ht hi.1 hi.2.1 hi.2.2.1 hi.2.2.2 hzs v l hown A c r hA hE hlen hb hbase
    unfold Oper.wp execOp
    simp only [ho, resolve, invoke, builtin, Sem.run_bind, Sem.run_pure, Result.andThen_ok, List.map_toArray, List.map_cons, List.map_nil, hs, hx, hr]
    exact hK _ _ (h _ _ h2 h3 h4)
/-- append, as a step of a region that draws -/
theorem step_appL {P : Program} {w : World} {ops : Array Oper} {o : Oper} {a : Act} {K : Act → World → Prop} {Q : Exit → Act → World → Prop} {E : Prop} (hgd : o.guard = none) (s x : Operand) (t : TypeId)
    (ho : o.op = .call { callee := .builtin .append, args := #[s, x], argTypes := #[t, t] })
    (hk : ∀ x, (enc x).length = k) (h1 : ∀ x, ∀ u ∈ enc x, u.oneCell' = true) (h0 : 0 < k) (base : Nat) (e : TypeId) (i : TypeInfo) (z : Value) (bytes : Nat) (ht : P.underlying t = some (.slice e)) (hi : P.info? e = some i ∧ i.zero = some z ∧ i.size = k ∧ i.bytes = bytes)
    (hzs : z.cells.size = k) (v : Value) (l : List α) (hs : a.eval s = v) (hown : w.ownsRow base e k v l.length (l.flatMap enc)) (A : Option Addr) (n c : Nat) (r : List α) (hn : r.length = n) (hx : a.eval x = .slice A n c) (hA : A = none → c = 0) (hE : Els k enc w A r)
    (hlen : l.length + r.length ≤ 1000000) (hb : bytes ≤ 1000) (hbase : base ≤ w.heap.size)
    (h : ∀ v' w', w'.ownsRow base e k v' (l ++ r).length ((l ++ r).flatMap enc) → w.grownBy w' v.ownBlock → (v'.ownBlock = v.ownBlock ∨ v'.ownBlock = some w.heap.size) → K (a.put o.dst v') w') :
    if Region.wanted o (yielded ops a.tmps) = true then Oper.wp P o a w K Q else E := by
  have hw : Region.wanted o (yielded ops a.tmps) = true := by simp [Region.wanted, hgd]
  rw [if_pos hw]
  subst hn
  obtain ⟨v', w', hr, h2, h3, h4⟩ := run_appL (P := P) (w := w) hk h1 h0 base t o.type e i z bytes ht hi.1 hi.2.1 hi.2.2.1 hi.2.2.2 hzs v l hown A c r hA hE hlen hb hbase
  unfold Oper.wp execOp
  simp only [ho, resolve, invoke, builtin, Sem.run_bind, Sem.run_pure, Result.andThen_ok, List.map_toArray, List.map_cons, List.map_nil, hs, hx, hr]
  exact h _ _ h2 h3 h4
end
theorem own_fullL {α : Type} {k : Nat} {enc : α → List Value} (hk : ∀ x, (enc x).length = k) {w : World} {base : Nat} {t : TypeId} {v : Value} {l : List α} (h : w.ownsRow base t k v l.length (l.flatMap enc)) :
    ∃ A c, v = .slice A l.length c ∧ Els k enc w A l ∧ l.length ≤ c ∧ (A = none → c = 0) ∧ ∀ a, A = some a → base ≤ a.block ∧ a.block < w.heap.size := by
  obtain ⟨A, c, rfl, hE, _⟩ := own_elsB hk h
  refine ⟨A, c, rfl, hE, ?_⟩
  rcases h.2 with ⟨e, h0⟩ | ⟨g, cap, cur, e, hb, hg, h1, h2, h3, h4⟩
  · simp only [Value.slice.injEq] at e
    exact ⟨by omega, fun _ => e.2.2, fun a ha => by rw [e.1] at ha; cases ha⟩
  · simp only [Value.slice.injEq] at e
    refine ⟨by omega, fun ha => (by rw [e.1] at ha; cases ha), fun a ha => ?_⟩
    rw [e.1] at ha
    cases ha
    exact ⟨hb, (Array.getElem?_eq_some_iff.1 hg).1⟩
end Go.Proofs.Ytfdiolfelecccaa


/- Whole structs in memory: load, store, results. -/
namespace Go.Proofs.Ytfdiolfelecccaa
open Go.RowKit
set_option linter.unusedVariables false
set_option linter.unusedSimpArgs false
set_option maxRecDepth 100000

section
variable {P : Program}
theorem eqs_step {P : Program} {d : Nat} {xs ys : Array Value} {f : Field} {fs : List Field} {w : World} {a b : Value} {r s : Bool} (hn : f.name ≠ "_") (ha : (part f.type xs f.offset).run P w = .ok a w) (hb : (part f.type ys f.offset).run P w = .ok b w)
    (hr : (Op.equalIn d f.type a b).run P w = .ok r w) (hs : (Op.eqFields d xs ys fs).run P w = .ok s w) : (Op.eqFields d xs ys (f :: fs)).run P w = .ok (r && s) w := by
  simp only [Op.eqFields, hn, ne_eq, not_false_eq_true, if_true, Sem.run_bind, ha, hb, hr, Result.andThen_ok]
  cases r
  · simp
  · simp only [Bool.not_true, Bool.false_eq_true, if_false, Bool.true_and]
    exact hs
theorem eqs_nil {P : Program} {d : Nat} {xs ys : Array Value} {w : World} : (Op.eqFields d xs ys []).run P w = .ok true w := by simp [Op.eqFields]
theorem Blk.row {w : World} {g : Nat} {t : TypeId} {cs : Array Value} (h : Blk w g t cs) (cs' : Array Value) : Blk (w.setRow g cs') g t cs' := setRow_heap w g cs cs' t (0, 0) h
theorem Blk.rowFar {w : World} {g k : Nat} {t : TypeId} {cs : Array Value} (h : Blk w g t cs) (hk : g ≠ k) (cs' : Array Value) : Blk (w.setRow k cs') g t cs := (setRow_other w k g cs' hk).trans h
theorem Chg.setRow {S : Nat → Prop} {w w' : World} {g : Nat} (h : Chg S w w') (hg : w.heap.size ≤ g ∨ S g) (cs : Array Value) : Chg S w (w'.setRow g cs) :=
  ⟨h.os, h.tape, h.output, Nat.le_trans h.size (by simp), fun k hk hn => by
    rw [setRow_other w' g k cs (by rintro rfl; exact hg.elim (fun hp => by omega) (fun hp => hn hp))]
    exact h.block k hk hn⟩
theorem below_row {B : Nat} {w w' : World} {g : Nat} (h : Below B w w') (hg : B ≤ g) (cs : Array Value) : Below B w (w'.setRow g cs) :=
  ⟨h.os, h.tape, h.output, Nat.le_trans h.size (by simp), fun k hk => by
    rw [setRow_other w' g k cs (by omega)]
    exact h.block k hk⟩
/-- a store of a whole struct, as a step of a list -/
theorem wpList_store_row {ops : Array Oper} {rest : List Oper} {o : Oper} {a : Act} {w : World} {Q : Exit → Act → World → Prop} (hgd : o.guard = none) (ty : TypeId) (p v : Operand) (ho : o.op = .store ty p v)
    (g : Nat) (hp : a.eval p = .pointer (some ⟨g, 0, none⟩)) (c' : Array Value) (hv : a.eval v = .agg c') (t : TypeId) (cs : Array Value) (hg : Blk w g t cs)
    (hi : (P.info? ty).map (·.size) = some c'.size) (hs : cs.size = c'.size) (h1 : c'.all (·.oneCell') = true)
    (h : wpList P ops Q rest (a.put o.dst (.tuple #[])) (w.setRow g c')) : wpList P ops Q (o :: rest) a w :=
  wpList_plain hgd fun _ hK => by
    unfold Oper.wp execOp
    simp only [ho, hp, hv, Instr.storeAt, Instr.sureAddr, Sem.run_bind, Sem.run_pure, Result.andThen_ok, run_storeVar_row w g t ty cs c' hg hi hs h1]
    exact hK _ _ h
/-- a load of a whole struct in a region that draws -/
theorem still_row {ops : Array Oper} {w : World} {Q : Act → Prop} {a : Act} {o : Oper} {rest : List Oper} (ty : TypeId) (x : Nat) (ho : o.op = .load ty (.tmp x)) (hw : Region.wanted o (yielded ops a.tmps) = true) (g : Nat)
    (hx : a.eval (.tmp x) = .pointer (some ⟨g, 0, none⟩)) (t : TypeId) (cs : Array Value) (d : TypeDesc) (hg : Blk w g t cs)
    (hu : P.underlying ty = some d) (hd : (match d with | .struct _ | .array _ _ => true | _ => false) = true) (hi : (P.info? ty).map (·.size) = some cs.size)
    (hK : wpStill P ops w Q rest (a.put o.dst (.agg cs))) : wpStill P ops w Q (o :: rest) a := by
  unfold wpStill
  rw [if_pos hw]
  unfold Oper.still execOp
  simp only [ho, hx, Instr.loadAt, Instr.sureAddr, Sem.run_bind, Sem.run_pure, Result.andThen_ok, run_loadVar_row w g t ty cs (0, 0) d hg hu hd hi]
  exact ⟨rfl, hK⟩
/-- two results: a struct in memory, and a slot -/
theorem results_cell_slot {fn : Func} {p q : Tmp} {ty : TypeId} (h : fn.results = #[.cell p ty, .tmp q]) (tmps : Array Value) (w : World) (g : Nat) (t : TypeId) (cs : Array Value) (d : TypeDesc)
    (hp : tmps.getD p undef = .pointer (some ⟨g, 0, none⟩)) (hg : Blk w g t cs)
    (hu : P.underlying ty = some d) (hd : (match d with | .struct _ | .array _ _ => true | _ => false) = true) (hi : (P.info? ty).map (·.size) = some cs.size) (v : Value) (hq : tmps.getD q undef = v) :
    (results fn tmps).run P w = .ok (.tuple #[.agg cs, v]) w := by
  have hp' : tmps[p]?.getD undef = .pointer (some ⟨g, 0, none⟩) := by simpa using hp
  have hq' : tmps[q]?.getD undef = v := by simpa using hq
  simp [results, h, hp', hq', asAddr, run_loadVar_row w g t ty cs (0, 0) d hg hu hd hi]
end
end Go.Proofs.Ytfdiolfelecccaa


/- Layer 11: things with a type and a length, as lists: a row's bytes, what is wrong with it, what bytes are a row of. -/
namespace Go.Proofs.Ytfdiolfelecccaa
open Go.RowKit
set_option linter.unusedVariables false
set_option linter.unusedSimpArgs false
set_option maxRecDepth 100000

/-- a thing -/
structure Tl where
  k : UInt8
  v : List UInt8
  deriving DecidableEq, Inhabited
def tlV (x : Tl) : List Value := [.int .u8 x.k.toNat, .string ⟨x.v.toArray⟩]
theorem tlV_len (x : Tl) : (tlV x).length = 2 := rfl
theorem tlV_one (x : Tl) : ∀ u ∈ tlV x, u.oneCell' = true := by
  intro u hu
  simp only [tlV, List.mem_cons, List.mem_nil_iff, or_false] at hu
  rcases hu with rfl | rfl <;> rfl
/-- a thing's bytes; those of things -/
def tlB (x : Tl) : List UInt8 := x.k :: (dig 2 x.v.length ++ x.v)
def tlsB (l : List Tl) : List UInt8 := l.flatMap tlB
/-- the error of the first thing that is wrong -/
def tlE : List Tl → Nat
  | [] => 0
  | x :: l => if x.k = 0 then 2 else if 1480 < x.v.length then 5 else tlE l
/-- a row's bytes, or none -/
def tlP (l : List Tl) : List UInt8 := if tlE l = 0 then tlsB l ++ [0] else []
/-- the value of the first thing of a type -/
def tlF (l : List Tl) (k : UInt8) : Option (List UInt8) := (l.find? (fun x => x.k == k)).map Tl.v
theorem tlB_len (x : Tl) : (tlB x).length = 3 + x.v.length := by
  unfold tlB
  rw [List.length_cons, List.length_append, dig_len]
  omega
theorem tlE_app (a b : List Tl) : tlE (a ++ b) = if tlE a = 0 then tlE b else tlE a := by
  induction a with
  | nil => simp [tlE]
  | cons x a ih =>
    by_cases h1 : x.k = 0
    · simp [tlE, h1]
    · by_cases h2 : 1480 < x.v.length
      · simp [tlE, h1, h2]
      · simp only [List.cons_append, tlE, h1, h2, if_false]
        exact ih
theorem tlE_at {l : List Tl} {k : Nat} {x : Tl} (hx : l[k]? = some x) (h0 : tlE (l.take k) = 0) : tlE l = if x.k = 0 then 2 else if 1480 < x.v.length then 5 else tlE (l.drop (k + 1)) := by
  obtain ⟨hk, he⟩ := List.getElem?_eq_some_iff.1 hx
  have e : l = l.take k ++ (x :: l.drop (k + 1)) := by
    rw [← he, List.getElem_cons_drop, List.take_append_drop]
  have h1 := tlE_app (l.take k) (x :: l.drop (k + 1))
  rw [← e, if_pos h0] at h1
  exact h1
theorem tlE_step {l : List Tl} {k : Nat} {x : Tl} (hx : l[k]? = some x) (h0 : tlE (l.take k) = 0) (h1 : x.k ≠ 0) (h2 : ¬ 1480 < x.v.length) : tlE (l.take (k + 1)) = 0 ∧ tlsB (l.take (k + 1)) = tlsB (l.take k) ++ tlB x := by
  obtain ⟨hk, he⟩ := List.getElem?_eq_some_iff.1 hx
  have e : l.take (k + 1) = l.take k ++ [x] := by rw [List.take_succ_eq_append_getElem hk, he]
  constructor
  · rw [e, tlE_app, if_pos h0]
    simp [tlE, h1, h2]
  · rw [e]
    simp [tlsB]
theorem tlE_k {l : List Tl} (h : tlE l = 0) : ∀ x ∈ l, x.k ≠ 0 ∧ x.v.length ≤ 1480 := by
  induction l with
  | nil => intro x hx; cases hx
  | cons y l ih =>
    unfold tlE at h
    by_cases h1 : y.k = 0
    · simp [h1] at h
    · by_cases h2 : 1480 < y.v.length
      · simp [h1, h2] at h
      · rw [if_neg h1, if_neg h2] at h
        intro x hx
        rcases List.mem_cons.1 hx with rfl | hx
        · exact ⟨h1, by omega⟩
        · exact ih h x hx
theorem tlE_of {l : List Tl} (h : ∀ x ∈ l, x.k ≠ 0 ∧ x.v.length ≤ 1480) : tlE l = 0 := by
  induction l with
  | nil => rfl
  | cons y l ih =>
    unfold tlE
    have := h y (by simp)
    rw [if_neg this.1, if_neg (by omega)]
    exact ih (fun x hx => h x (by simp [hx]))
theorem tlsB_take_len {l : List Tl} (k : Nat) (h : tlE (l.take k) = 0) : (tlsB (l.take k)).length ≤ 1483 * k := by
  have hk := tlE_k h
  have hl : (l.take k).length ≤ k := List.length_take_le _ _
  generalize l.take k = m at *
  have : (tlsB m).length ≤ 1483 * m.length := by
    clear hl h
    induction m with
    | nil => simp [tlsB]
    | cons x m ih =>
      have h1 := hk x (by simp)
      have h2 := ih (fun y hy => hk y (by simp [hy]))
      unfold tlsB at h2 ⊢
      rw [List.flatMap_cons, List.length_append, tlB_len, List.length_cons]
      omega
  have h2 : 1483 * m.length ≤ 1483 * k := Nat.mul_le_mul_left _ hl
  omega
theorem tlF_hit {l : List Tl} {k : Nat} {x : Tl} {q : UInt8} (hx : l[k]? = some x) (h0 : ∀ y ∈ l.take k, y.k ≠ q) (h : x.k = q) : tlF l q = some x.v := by
  obtain ⟨hk, he⟩ := List.getElem?_eq_some_iff.1 hx
  have e : l = l.take k ++ (x :: l.drop (k + 1)) := by
    rw [← he, List.getElem_cons_drop, List.take_append_drop]
  unfold tlF
  rw [e, List.find?_append]
  have hn : List.find? (fun x => x.k == q) (l.take k) = none := List.find?_eq_none.2 (fun y hy => by simpa using h0 y hy)
  rw [hn, List.find?_cons]
  simp [h]
theorem tlF_none {l : List Tl} {q : UInt8} (h0 : ∀ y ∈ l, y.k ≠ q) : tlF l q = none := by
  unfold tlF
  rw [List.find?_eq_none.2 (fun y hy => by simpa using h0 y hy)]
  rfl
theorem tl_take_all {l : List Tl} {k : Nat} {x : Tl} {q : UInt8} (hx : l[k]? = some x) (h0 : ∀ y ∈ l.take k, y.k ≠ q) (h : x.k ≠ q) : ∀ y ∈ l.take (k + 1), y.k ≠ q := by
  obtain ⟨hk, he⟩ := List.getElem?_eq_some_iff.1 hx
  rw [List.take_succ_eq_append_getElem hk, he]
  intro y hy
  rcases List.mem_append.1 hy with hy | hy
  · exact h0 y hy
  · rw [List.mem_singleton.1 hy]; exact h

/-- the things of the row that bytes begin with, and what is behind it -/
def tkF : Nat → List UInt8 → Option (List Tl × List UInt8)
  | 0, _ => none
  | _ + 1, [] => none
  | f + 1, k :: r =>
    if k = 0 then some ([], r)
    else if r.length < 2 then none
    else if (r.drop 2).length < num (r.take 2) then none
    else (tkF f ((r.drop 2).drop (num (r.take 2)))).map (fun q => (⟨k, (r.drop 2).take (num (r.take 2))⟩ :: q.1, q.2))
theorem tkF_same : ∀ (f g : Nat) (s : List UInt8), s.length < f → s.length < g → tkF f s = tkF g s := by
  intro f
  induction f with
  | zero => intro g s h; omega
  | succ f ih =>
    intro g s h1 h2
    cases g with
    | zero => omega
    | succ g =>
      cases s with
      | nil => rfl
      | cons k r =>
        simp only [List.length_cons] at h1 h2
        unfold tkF
        split
        · rfl
        · split
          · rfl
          · split
            · rfl
            · rw [ih g _ (by simp; omega) (by simp; omega)]
def tks (s : List UInt8) : Option (List Tl × List UInt8) := tkF (s.length + 1) s
theorem tks_nil : tks [] = none := rfl
theorem tks_zero (r : List UInt8) : tks (0 :: r) = some ([], r) := by
  simp [tks, tkF]
theorem tks_cons (k : UInt8) (r : List UInt8) (hk : k ≠ 0) : tks (k :: r) = if r.length < 2 then none else if (r.drop 2).length < num (r.take 2) then none else (tks ((r.drop 2).drop (num (r.take 2)))).map (fun q => (⟨k, (r.drop 2).take (num (r.take 2))⟩ :: q.1, q.2)) := by
  unfold tks
  rw [tkF, if_neg hk]
  split
  · rfl
  · split
    · rfl
    · rw [tkF_same _ (((r.drop 2).drop (num (r.take 2))).length + 1) _ (by simp; omega) (by omega)]
theorem dig2_take (n : Nat) (r : List UInt8) : (dig 2 n ++ r).take 2 = dig 2 n ∧ (dig 2 n ++ r).drop 2 = r := by
  have h := dig_len 2 n
  exact ⟨List.take_left' h, List.drop_left' h⟩
theorem tks_tlB (x : Tl) (r : List UInt8) (hk : x.k ≠ 0) (hv : x.v.length ≤ 65535) : tks (tlB x ++ r) = (tks r).map (fun q => (x :: q.1, q.2)) := by
  unfold tlB
  rw [List.cons_append, List.append_assoc, tks_cons _ _ hk]
  obtain ⟨h1, h2⟩ := dig2_take x.v.length (x.v ++ r)
  have hn : num (dig 2 x.v.length) = x.v.length := by rw [num_dig]; omega
  rw [if_neg (by rw [List.length_append, dig_len]; omega), h1, h2, hn, if_neg (by simp), List.take_left, List.drop_left]
theorem tks_put (l : List Tl) (h : tlE l = 0) (q : List UInt8) : tks (tlsB l ++ 0 :: q) = some (l, q) := by
  have hk := tlE_k h
  clear h
  induction l with
  | nil => exact tks_zero q
  | cons x l ih =>
    have h1 := hk x (by simp)
    have e : tlsB (x :: l) ++ 0 :: q = tlB x ++ (tlsB l ++ 0 :: q) := by simp [tlsB]
    rw [e, tks_tlB x _ h1.1 (by omega), ih (fun y hy => hk y (by simp [hy]))]
    rfl
theorem tks_short (l : List Tl) (h : tlE l = 0) : tks (tlsB l) = none := by
  have hk := tlE_k h
  clear h
  induction l with
  | nil => exact tks_nil
  | cons x l ih =>
    have h1 := hk x (by simp)
    have e : tlsB (x :: l) = tlB x ++ tlsB l := by simp [tlsB]
    rw [e, tks_tlB x _ h1.1 (by omega), ih (fun y hy => hk y (by simp [hy]))]
    rfl
theorem tks_back : ∀ (n : Nat) (s : List UInt8), s.length ≤ n → ∀ l q, tks s = some (l, q) → s = tlsB l ++ 0 :: q ∧ (∀ x ∈ l, x.k ≠ 0 ∧ x.v.length ≤ s.length) ∧ l.length ≤ s.length := by
  intro n
  induction n with
  | zero =>
    intro s hs l q h
    have : s = [] := List.eq_nil_of_length_eq_zero (by omega)
    subst this
    rw [tks_nil] at h
    cases h
  | succ n ih =>
    intro s hs l q h
    cases s with
    | nil => rw [tks_nil] at h; cases h
    | cons k r =>
      by_cases hk : k = 0
      · subst hk
        rw [tks_zero] at h
        simp only [Option.some.injEq, Prod.mk.injEq] at h
        obtain ⟨rfl, rfl⟩ := h
        exact ⟨rfl, (by intro x hx; cases hx), by simp⟩
      · rw [tks_cons k r hk] at h
        split at h
        · cases h
        · rename_i h2
          split at h
          · cases h
          · rename_i h3
            simp only [List.length_cons] at hs
            cases hr : tks ((r.drop 2).drop (num (r.take 2))) with
            | none => rw [hr] at h; cases h
            | some p =>
              obtain ⟨l', q'⟩ := p
              rw [hr] at h
              simp only [Option.map_some, Option.some.injEq, Prod.mk.injEq] at h
              obtain ⟨rfl, rfl⟩ := h
              have hlen : ((r.drop 2).drop (num (r.take 2))).length + 2 + num (r.take 2) = r.length := by
                simp only [List.length_drop] at h3 ⊢
                omega
              obtain ⟨e1, e2, e3⟩ := ih _ (by omega) l' q' hr
              have htk : (r.take 2).length = 2 := by rw [List.length_take]; omega
              have hd : dig 2 (num (r.take 2)) = r.take 2 := by have := dig_num (r.take 2); rwa [htk] at this
              have hvl : ((r.drop 2).take (num (r.take 2))).length = num (r.take 2) := by rw [List.length_take]; omega
              refine ⟨?_, fun x hx => ?_, by simp only [List.length_cons]; omega⟩
              · have e : tlsB (⟨k, (r.drop 2).take (num (r.take 2))⟩ :: l') ++ 0 :: q' = k :: (r.take 2 ++ ((r.drop 2).take (num (r.take 2)) ++ (tlsB l' ++ 0 :: q'))) := by
                  simp only [tlsB, List.flatMap_cons, tlB, hvl, hd]
                  simp
                rw [e, ← e1, List.take_append_drop, List.take_append_drop]
              · rcases List.mem_cons.1 hx with rfl | hx
                · exact ⟨hk, by simp only [List.length_cons, hvl]; omega⟩
                · have := e2 x hx
                  exact ⟨this.1, by simp only [List.length_cons]; omega⟩
end Go.Proofs.Ytfdiolfelecccaa


/- A world that has grown out of another one: draws, and new blocks. -/
namespace Go.Proofs.Ytfdiolfelecccaa
open Go.RowKit
set_option linter.unusedVariables false
set_option linter.unusedSimpArgs false
set_option maxRecDepth 100000

/-- nothing that was there has changed; draws and new blocks alone came to it -/
structure Gro (w w' : World) : Prop where
  below : Below w.heap.size w w'
  drawn : w.drawn ≤ w'.drawn
section
variable {w w' w'' : World}
theorem Gro.refl (w : World) : Gro w w := ⟨Below.refl _ _, Nat.le_refl _⟩
theorem Gro.size (h : Gro w w') : w.heap.size ≤ w'.heap.size := h.below.size
theorem Gro.trans (h : Gro w w') (h' : Gro w' w'') : Gro w w'' := ⟨h.below.trans (h'.below.mono h.size), Nat.le_trans h.drawn h'.drawn⟩
theorem Gro.drew (h : Gro w w') : Gro w w'.drew := ⟨h.below.drew, Nat.le_trans h.drawn (Nat.le_succ _)⟩
theorem Gro.drewN (h : Gro w w') (n : Nat) : Gro w (w'.drewN n) := ⟨⟨h.below.os, h.below.tape, h.below.output, h.below.size, h.below.block⟩, Nat.le_trans h.drawn (Nat.le_add_right _ _)⟩
theorem Gro.alloc (h : Gro w w') (o : Obj) : Gro w (w'.alloc o) := ⟨h.below.alloc h.size o, h.drawn⟩
theorem Gro.setCell (h : Gro w w') {p : Addr} (hp : w.heap.size ≤ p.block) (u : Value) : Gro w (w'.setCell p u) := ⟨h.below.setCell hp u, h.drawn⟩
theorem Gro.block (h : Gro w w') {k : Nat} (hk : k < w.heap.size) : w'.heap[k]? = w.heap[k]? := h.below.block k hk
theorem Gro.cell (h : Gro w w') {p : Addr} (hp : p.block < w.heap.size) : w'.cell? p = w.cell? p := h.below.cell hp
theorem Gro.blk (h : Gro w w') {g : Nat} {t : TypeId} {cs : Array Value} (hb : Blk w g t cs) : Blk w' g t cs := hb.below h.below hb.lt
/-- said as the shelf's sort says it -/
theorem Gro.out (h : Gro w w') : ∃ q os, w' = Sort.grow (w.drewN q) os := by
  refine ⟨w'.drawn - w.drawn, w'.heap.extract w.heap.size w'.heap.size, ?_⟩
  obtain ⟨⟨h1, h2, h3, h4, h5⟩, h6⟩ := h
  obtain ⟨heap, tape, drawn, os, output⟩ := w
  obtain ⟨heap', tape', drawn', os', output'⟩ := w'
  simp only [Sort.grow, World.drewN] at *
  subst h1 h2 h3
  have hd : drawn' = drawn + (drawn' - drawn) := by omega
  have hh : heap' = heap ++ heap'.extract heap.size heap'.size := by
    apply Array.ext_getElem?
    intro k
    rcases Nat.lt_or_ge k heap.size with hk | hk
    · rw [Array.getElem?_append_left hk, h5 k hk]
    · rw [Array.getElem?_append_right hk, Array.getElem?_extract]
      rcases Nat.lt_or_ge k heap'.size with hk' | hk'
      · rw [if_pos (by omega), show heap.size + (k - heap.size) = k by omega]
      · rw [if_neg (by omega), Array.getElem?_eq_none hk']
  rw [← hh, ← hd]
theorem Gro.of_grow (q : Nat) (os : Array Obj) : Gro w (Sort.grow (w.drewN q) os) := by
  refine ⟨⟨rfl, rfl, rfl, ?_, fun k hk => ?_⟩, ?_⟩
  · simp [Sort.grow, World.drewN]
  · simp only [Sort.grow, World.drewN]; rw [Array.getElem?_append_left hk]
  · simp [Sort.grow, World.drewN]
end
end Go.Proofs.Ytfdiolfelecccaa


/- Layer 11: things in memory, and as arguments. -/
namespace Go.Proofs.Ytfdiolfelecccaa
open Go.ChangeShapes Go.WideShapes Go.ChangeAt Go.RowKit
set_option linter.unusedVariables false
set_option linter.unusedSimpArgs false
set_option maxRecDepth 100000

section
variable {w w' : World} {A : Option Addr} {L : List Tl}
theorem tl_at {x : Tl} {k : Nat} (h : Els 2 tlV w A L) (hx : L[k]? = some x) : ∃ b off, A = some ⟨b, off, none⟩ ∧ b < w.heap.size ∧ w.cell? ⟨b, off + k * 2, none⟩ = some (.int .u8 x.k.toNat) ∧ w.cell? ⟨b, off + k * 2 + 1, none⟩ = some (.string ⟨x.v.toArray⟩) := by
  obtain ⟨hk, rfl⟩ := List.getElem?_eq_some_iff.1 hx
  obtain ⟨b, off, e, hlt, hc⟩ := h (by omega)
  exact ⟨b, off, e, hlt, hc k hk 0 _ rfl, hc k hk 1 _ rfl⟩
theorem els_nilL (w : World) (A : Option Addr) : Els 2 tlV w A [] := fun h => absurd h (by simp)
/-- one thing, in a block of its own -/
theorem els_oneL (w : World) (t : TypeId) (x : Tl) (cs : Array Value) (h : cs = (tlV x).toArray) : Els 2 tlV (w.alloc (.cells cs t)) (some ⟨w.heap.size, 0, none⟩) [x] := by
  subst h
  intro _
  refine ⟨_, 0, rfl, by simp, fun i hi j v hv => ?_⟩
  obtain rfl : i = 0 := by simpa using hi
  have := (Blk.new w t (tlV x).toArray).cell j
  rw [show 0 + 0 * 2 + j = j by omega, this]
  simpa using hv
end
theorem tl_eqI (x y : UInt8) : ((x.toNat : Int) == (y.toNat : Int)) = (x == y) := by
  rw [Bool.eq_iff_iff]
  simp only [beq_iff_eq]
  exact ⟨fun e => UInt8.toNat_inj.1 (by omega), fun e => by rw [e]⟩
section
variable {H : Type} {enc : TypeId × Value → H} {w : World} {base : Nat} {spare : Nat → Bool} {held : Bool}
theorem u8_ofL {n : Int} (h : (Lit.int .u8 n).wf = true) : ∃ u : UInt8, n = (u.toNat : Int) := by
  have hb : 0 ≤ n ∧ n ≤ 255 := by
    simp [Lit.wf, IntKind.has, IntKind.min, IntKind.max, IntKind.signed, IntKind.bits] at h
    omega
  refine ⟨UInt8.ofNat n.toNat, ?_⟩
  have : n.toNat % 256 = n.toNat := by omega
  simp [this]
  omega
theorem tl_trod {t : TypeId} {f0 f1 : Field} (hs : Try.prog.underlying t = some (.struct #[f0, f1])) (ht : f0.type = 5 ∧ f1.type = 9) (ho : f0.offset = 0 ∧ f1.offset = 1)
    {fuel : Nat} {cs : List Value} {x : DataW H × List MemPlace} (hl : cs.length = 2) (h : DataW.trod enc Try.prog w base spare held fuel t cs = some x) : ∃ v : Tl, True ∧ cs = tlV v := by
  obtain ⟨t0, t1⟩ := ht
  obtain ⟨o0, o1⟩ := ho
  obtain ⟨n0, e0, w0⟩ := trod_fldInt hs h 0 f0 rfl (k := .u8) (by rw [t0]; exact Try.underlying5) (by rw [t0]; kernel_rfl)
  obtain ⟨fm, y, e1⟩ := trod_fld hs h 1 f1 rfl
  rw [o0] at e0
  rw [o1, t1, show Try.prog.cellsOf 9 = 1 by kernel_rfl] at e1
  obtain ⟨v0, rfl⟩ := u8_ofL w0
  obtain ⟨s, es, _, _⟩ := DataW.trod_string Try.underlying9 e1
  match cs, hl with
  | [c0, c1], _ =>
    simp at e0 es
    subst e0 es
    obtain ⟨⟨l⟩⟩ := s
    exact ⟨⟨v0, l⟩, trivial, rfl⟩
end
theorem OwnB.lowL {w : World} {base base' : Nat} {v : Value} {l : List UInt8} (h : OwnB w base v l) (hb : base' ≤ base) : OwnB w base' v l := by
  refine ⟨h.1, ?_⟩
  rcases h.2 with hn | ⟨g, cap, cur, hv, hbg, rest⟩
  · exact .inl hn
  · exact .inr ⟨g, cap, cur, hv, Nat.le_trans hb hbg, rest⟩
theorem own_neL {w : World} {base : Nat} {e t : TypeId} {size n g : Nat} {v : Value} {xs : List Value} {cs : Array Value} (h : w.ownsRow base e size v n xs) (hb : Blk w g t cs) (ht : t ≠ e) : some g ≠ v.ownBlock := by
  rcases h.2 with ⟨rfl, _⟩ | ⟨g', cap, cur, rfl, _, hg, _⟩
  · intro h; cases h
  · intro h
    simp only [Value.ownBlock, Option.some.injEq] at h
    subst h
    unfold Blk at hb
    rw [hb] at hg
    simp only [Option.some.injEq, Obj.cells.injEq] at hg
    exact ht hg.2.1
theorem blk_grownL {w w' : World} {g : Nat} {t : TypeId} {cs : Array Value} {row : Option Nat} (hk : Blk w g t cs) (hg : w.grownBy w' row) (hn : some g ≠ row) : Blk w' g t cs := (hg.block g hk.lt hn).trans hk
theorem append_textL {w : World} {ops : Array Oper} {rest : List Oper} {o : Oper} {a : Act} {Q : Exit → Act → World → Prop} (hgd : o.guard = none) (s x : Operand)
    (ho : o.op = .call { callee := .builtin .append, args := #[s, x], argTypes := #[110, 9] })
    (base : Nat) (v : Value) (l : List UInt8) (hs : a.eval s = v) (hown : OwnB w base v l) (r : List UInt8) (hx : a.eval x = .string ⟨r.toArray⟩)
    (hlen : l.length + r.length ≤ 140737488355328) (hbase : base ≤ w.heap.size)
    (h : ∀ v' w', OwnB w' base v' (l ++ r) → w.grownBy w' v.ownBlock → wpList Try.prog ops Q rest (a.put o.dst v') w') : wpList Try.prog ops Q (o :: rest) a w := by
  obtain ⟨i, hi, hz0, hz1, hz2⟩ := info_parts u8_info
  have hsz : (⟨r.toArray⟩ : ByteArray).size = r.length := rfl
  refine Lib.wpList_append_own_string w hgd s x _ _ ho base 5 i Try.underlying110 Try.underlying9 hi hz0 hz1 hz2 v l.length (bvals l) hs hown ⟨r.toArray⟩ hx (by rw [hsz]; simp only [maxLen]; omega) (by rw [hsz]; exact hlen) hbase ?_
  intro v' w' h1 h2 _
  exact h v' w' (by unfold OwnB; rw [List.length_append, bvals_app]; exact h1) h2
end Go.Proofs.Ytfdiolfelecccaa


/- Regions that draw their order, walked by hand: a whole struct's load and store; append. -/
namespace Go.Proofs.Ytfdiolfelecccaa
open Go.RowKit
set_option linter.unusedVariables false
set_option linter.unusedSimpArgs false
set_option maxRecDepth 100000

theorem step_store_rowH {P : Program} {ops : Array Oper} {o : Oper} {a : Act} {w : World} {K : Act → World → Prop} {Q : Exit → Act → World → Prop} {E : Prop} (hgd : o.guard = none) (ty : TypeId) (p v : Operand) (ho : o.op = .store ty p v)
    (g : Nat) (hp : a.eval p = .pointer (some ⟨g, 0, none⟩)) (c' : Array Value) (hv : a.eval v = .agg c') (t : TypeId) (cs : Array Value) (hg : Blk w g t cs)
    (hi : (P.info? ty).map (·.size) = some c'.size) (hs : cs.size = c'.size) (h1 : c'.all (·.oneCell') = true)
    (h : K (a.put o.dst (.tuple #[])) (w.setRow g c')) : if Region.wanted o (yielded ops a.tmps) = true then Oper.wp P o a w K Q else E := by
  have hw : Region.wanted o (yielded ops a.tmps) = true := by simp [Region.wanted, hgd]
  rw [if_pos hw]
  unfold Oper.wp execOp
  simp only [ho, hp, hv, Instr.storeAt, Instr.sureAddr, Sem.run_bind, Sem.run_pure, Result.andThen_ok, run_storeVar_row w g t ty cs c' hg hi hs h1]
  exact h
theorem yieldsIf_rowH {P : Program} {ops : Array Oper} {S : World → Prop} {a : Act} {o : Oper} (ty : TypeId) (x : Nat) (ho : o.op = .load ty (.tmp x)) (hw : Region.wanted o (yielded ops a.tmps) = true) (g : Nat)
    (hx : a.eval (.tmp x) = .pointer (some ⟨g, 0, none⟩)) (t : TypeId) (cs : Array Value) (d : TypeDesc) (hg : ∀ w, S w → Blk w g t cs)
    (hu : P.underlying ty = some d) (hd : (match d with | .struct _ | .array _ _ => true | _ => false) = true) (hi : (P.info? ty).map (·.size) = some cs.size) : YieldsIf P ops S o (.agg cs) a :=
  .inl ⟨hw, fun w hS => by
    unfold execOp
    simp only [ho, hx, Instr.loadAt, Instr.sureAddr, Sem.run_bind, Sem.run_pure, Result.andThen_ok, run_loadVar_row w g t ty cs (0, 0) d (hg w hS) hu hd hi]⟩
end Go.Proofs.Ytfdiolfelecccaa


/- A slice that stands as a struct's field, opened. -/
namespace Go.Proofs.Ytfdiolfelecccaa
open Go.ChangeShapes Go.WideShapes Go.ChangeAt Go.RowKit
set_option linter.unusedVariables false
set_option linter.unusedSimpArgs false
set_option maxRecDepth 100000

/-- a slice that stands as a struct's field, element by element -/
theorem open_cellsU {H : Type} {enc : TypeId × Value → H} {P : Program} {W : World} {fuel : Nat} {t e : TypeId} {u : Value} {x : DataW H × List MemPlace}
    (ht : P.underlying t = some (.slice e)) (hsz : 0 < P.cellsOf e)
    (hf : DataW.trod enc P W 0 (fun _ => true) true fuel t [u] = some x) : ∃ A n c, u = .slice A n c ∧ n ≤ maxLen ∧ (A = none → n = 0 ∧ c = 0) ∧ (0 < n → ∃ b off, A = some ⟨b, off, none⟩ ∧ b < W.heap.size ∧ ∀ i, i < n → ∃ (cs : List Value) (fuel : Nat) (x : DataW H × List MemPlace),
      cs.length = P.cellsOf e ∧ (∀ j u, cs[j]? = some u → W.cell? ⟨b, off + i * P.cellsOf e + j, none⟩ = some u) ∧ DataW.trod enc P W 0 (fun _ => true) true fuel e cs = some x) := by
  rcases Go.Deep.open_slice ht hf with ⟨hcs, _⟩ | ⟨a, l, c, m, n, D, Pl, hcs, _, hl, hm, hmm, _, hel⟩
  · simp at hcs
    subst hcs
    exact ⟨none, 0, 0, rfl, by simp, fun _ => ⟨rfl, rfl⟩, fun h => absurd h (by omega)⟩
  · simp at hcs
    subst hcs
    simp at hmm
    subst hmm
    refine ⟨some a, _, _, rfl, by omega, by simp, fun h0 => ?_⟩
    have key : ∀ i, i < l → ∃ (cs : List Value) (x : DataW H × List MemPlace), cs.length = P.cellsOf e ∧ (∀ j, j < P.cellsOf e → W.cell? (a.add (i * P.cellsOf e + j)) = cs[j]?) ∧ DataW.trod enc P W 0 (fun _ => true) true n e cs = some x := by
      intro i hi
      obtain ⟨cs, hc, htr⟩ := hel i (by omega)
      obtain ⟨_, hlen, hat⟩ := World.cells?_some hc
      refine ⟨cs, _, hlen, fun j hj => ?_, htr⟩
      rw [← hat j hj, Go.Deep.add_add]
    obtain ⟨cs, x, hlen, hat, _⟩ := key 0 h0
    have h00 := hat 0 hsz
    simp only [Nat.zero_mul, Nat.zero_add] at h00
    have hsome : cs[0]? = some (cs[0]'(by omega)) := List.getElem?_eq_getElem (by omega)
    have hsp := World.cell?_spot (h00.trans hsome)
    obtain ⟨b, off, spot⟩ := a
    simp only [Addr.add, ↓reduceIte] at hsp
    subst hsp
    refine ⟨b, off, rfl, World.block_lt_of_cell? W _ (by simpa [Addr.add] using h00.trans hsome), fun i hi => ?_⟩
    obtain ⟨cs, x, hlen, hat, htr⟩ := key i hi
    refine ⟨cs, n, x, hlen, fun j u hu => ?_, htr⟩
    have hj : j < P.cellsOf e := by rw [← hlen]; exact (List.getElem?_eq_some_iff.1 hu).1
    rw [← hu, ← hat j hj, Nat.add_assoc]
    simp only [Addr.add]
    split <;> simp_all
/-- such a slice as a list -/
theorem open_elsU {H : Type} {enc : TypeId × Value → H} {P : Program} {W : World} {fuel : Nat} {t e : TypeId} {u : Value} {x : DataW H × List MemPlace} {α : Type} (k : Nat) (en : α → List Value)
    (ht : P.underlying t = some (.slice e)) (hk : P.cellsOf e = k) (hsz : 0 < k)
    (hone : ∀ (cs : List Value) (fuel : Nat) (x : DataW H × List MemPlace), cs.length = P.cellsOf e → DataW.trod enc P W 0 (fun _ => true) true fuel e cs = some x → ∃ a, cs = en a)
    (hf : DataW.trod enc P W 0 (fun _ => true) true fuel t [u] = some x) :
    ∃ (A : Option Addr) (c : Nat) (l : List α), u = .slice A l.length c ∧ l.length ≤ maxLen ∧ (A = none → l = [] ∧ c = 0) ∧ Els k en W A l := by
  obtain ⟨A, n, c, rfl, hn, hz, hel⟩ := open_cellsU ht (by omega) hf
  rcases Nat.eq_zero_or_pos n with h0 | h0
  · subst h0
    exact ⟨A, c, [], rfl, by simp, fun e => ⟨rfl, (hz e).2⟩, fun h => absurd h (by simp)⟩
  · obtain ⟨b, off, rfl, hb, hel⟩ := hel h0
    rw [hk] at hel
    obtain ⟨l, hl, hp⟩ := list_at (α := α) n (fun i a => ∀ j u, (en a)[j]? = some u → W.cell? ⟨b, off + i * k + j, none⟩ = some u) (by
      intro i hi
      obtain ⟨cs, fuel, x, hlen, hat, htr⟩ := hel i hi
      obtain ⟨a, rfl⟩ := hone cs fuel x (by rw [hk]; exact hlen) htr
      exact ⟨a, hat⟩)
    subst hl
    exact ⟨_, c, l, rfl, hn, by simp, fun _ => ⟨b, off, rfl, hb, fun i hi j u hu => hp i hi j u hu⟩⟩
end Go.Proofs.Ytfdiolfelecccaa


/- Layer 16, the program: maps by spots. -/
namespace Go.Proofs.Ytfdiolfelecccaa
open Go.RowKit
open Go.Maps (Keyed)
set_option linter.unusedVariables false
set_option linter.unusedSimpArgs false
set_option maxRecDepth 100000

structure Sp where
  p : UInt8
  v : UInt16
  deriving DecidableEq, Inhabited
section
variable {β : Type}
/-- what a spot has -/
def sget (S : List (Sp × β)) (k : Sp) : Option β := (S.find? fun x => decide (x.1 = k)).map (·.2)
def shas (S : List (Sp × β)) (k : Sp) : Bool := S.any fun x => decide (x.1 = k)
def sput (S : List (Sp × β)) (k : Sp) (v : β) : List (Sp × β) := if shas S k then S.map (fun x => if x.1 = k then (k, v) else x) else S ++ [(k, v)]
def sdel (S : List (Sp × β)) (k : Sp) : List (Sp × β) := S.filter fun x => !decide (x.1 = k)
theorem shas_get (S : List (Sp × β)) (k : Sp) : shas S k = (sget S k).isSome := by
  unfold shas sget
  rw [Option.isSome_map]
  induction S with
  | nil => rfl
  | cons x S ih =>
    rw [List.any_cons, List.find?_cons]
    cases decide (x.1 = k) <;> simp [ih]
theorem sget_none {S : List (Sp × β)} {k : Sp} (h : shas S k = false) : sget S k = none := by
  rw [shas_get] at h
  simpa using h
theorem sget_map (S : List (Sp × β)) (k k' : Sp) (v : β) : sget (S.map (fun x => if x.1 = k then (k, v) else x)) k' = if k' = k then (if shas S k then some v else none) else sget S k' := by
  unfold sget shas
  induction S with
  | nil => simp
  | cons x S ih =>
    rw [List.map_cons, List.find?_cons, List.any_cons, List.find?_cons]
    by_cases h : x.1 = k
    · by_cases h' : k' = k
      · subst h'; simp [h]
      · have h2 : ¬ k = k' := fun e => h' e.symm
        simp only [h, if_true, h2, decide_false, decide_true, Bool.true_or, if_neg h']
        rw [ih]; simp [h']
    · by_cases h' : k' = k
      · subst h'
        simp only [h, if_false, decide_false, Bool.false_or]
        rw [ih]
        simp
      · simp only [h, if_false, decide_false, Bool.false_or]
        by_cases h3 : x.1 = k'
        · simp [h3, h']
        · simp only [h3, decide_false]
          rw [ih]
theorem sget_put (S : List (Sp × β)) (k k' : Sp) (v : β) : sget (sput S k v) k' = if k' = k then some v else sget S k' := by
  unfold sput
  split
  · rename_i h
    rw [sget_map, h]; rfl
  · rename_i h
    have h0 : sget S k = none := sget_none (by simpa using h)
    unfold sget at h0 ⊢
    rw [List.find?_append]
    by_cases e : k' = k
    · subst e
      have h1 : S.find? (fun x => decide (x.1 = k')) = none := by
        cases hh : S.find? (fun x => decide (x.1 = k')) with
        | none => rfl
        | some y => rw [hh] at h0; cases h0
      rw [h1]
      simp
    · have h2 : ¬ k = k' := fun e' => e e'.symm
      rw [if_neg e]
      cases S.find? (fun x => decide (x.1 = k')) <;> simp [h2]
theorem shas_put (S : List (Sp × β)) (k k' : Sp) (v : β) : shas (sput S k v) k' = (decide (k' = k) || shas S k') := by
  rw [shas_get, sget_put, shas_get]
  by_cases e : k' = k <;> simp [e]
theorem sget_del (S : List (Sp × β)) (k k' : Sp) : sget (sdel S k) k' = if k' = k then none else sget S k' := by
  unfold sget sdel
  induction S with
  | nil => simp
  | cons x S ih =>
    rw [List.filter_cons]
    by_cases h : x.1 = k
    · simp only [h, decide_true, Bool.not_true, Bool.false_eq_true, if_false]
      rw [ih]
      by_cases h' : k' = k
      · simp [h']
      · have h2 : ¬ k = k' := fun e => h' e.symm
        rw [if_neg h', if_neg h', List.find?_cons, h]; simp [h2]
    · simp only [h, decide_false, Bool.not_false, if_true]
      rw [List.find?_cons, List.find?_cons]
      by_cases h3 : x.1 = k'
      · have h' : ¬ k' = k := fun e => h (h3.trans e)
        simp [h3, h']
      · simp only [h3, decide_false]
        exact ih
theorem shas_del (S : List (Sp × β)) (k k' : Sp) : shas (sdel S k) k' = (!decide (k' = k) && shas S k') := by
  rw [shas_get, sget_del, shas_get]
  by_cases e : k' = k <;> simp [e]
theorem sput_len (S : List (Sp × β)) (k : Sp) (v : β) : (sput S k v).length = if shas S k then S.length else S.length + 1 := by
  unfold sput
  split <;> simp
def Nd (S : List (Sp × β)) : Prop := S.Pairwise fun x y => x.1 ≠ y.1
theorem Nd.put {S : List (Sp × β)} (h : Nd S) (k : Sp) (v : β) : Nd (sput S k v) := by
  unfold sput Nd at *
  split
  · rw [List.pairwise_map]
    refine h.imp fun {x y} hne => ?_
    by_cases h1 : x.1 = k <;> by_cases h2 : y.1 = k <;> simp [h1, h2]
    · exact hne (h1.trans h2.symm)
    · exact fun e => h2 e.symm
    · exact hne
  · rename_i hh
    rw [List.pairwise_append]
    refine ⟨h, by simp, fun x hx y hy => ?_⟩
    obtain rfl : y = (k, v) := by simpa using hy
    intro e
    refine hh ?_
    unfold shas
    exact List.any_eq_true.2 ⟨x, hx, by simpa using e⟩
theorem Nd.del {S : List (Sp × β)} (h : Nd S) (k : Sp) : Nd (sdel S k) := List.Pairwise.filter _ h
theorem sdel_len {S : List (Sp × β)} (h : Nd S) (k : Sp) : (sdel S k).length + (if shas S k then 1 else 0) = S.length := by
  unfold sdel shas
  induction S with
  | nil => simp
  | cons x S ih =>
    obtain ⟨h1, h2⟩ := List.pairwise_cons.1 h
    have ih := ih h2
    rw [List.filter_cons, List.any_cons]
    by_cases e : x.1 = k
    · have h0 : S.any (fun y => decide (y.1 = k)) = false := by
        rw [List.any_eq_false]
        intro y hy
        have := h1 y hy
        simp only [decide_eq_true_eq]
        exact fun e' => this (e.trans e'.symm)
      rw [h0] at ih
      simp [e] at ih ⊢
      exact ih
    · have e' : decide (x.1 = k) = false := by simpa using e
      rw [e', Bool.false_or]
      simp only [Bool.not_false, if_true, List.length_cons]
      omega
end
/-- a spot as a map's key -/
def kLs (k : Sp) : List Lit := [.int .u8 k.p.toNat, .int .u16 k.v.toNat]
def kL (k : Sp) : Lit := .string (keyBytes (kLs k))
abbrev kV (k : Sp) : Value := .agg #[.int .u8 k.p.toNat, .int .u16 k.v.toNat]
theorem wf16 (v : UInt16) : (Lit.int .u16 (v.toNat : Int)).wf = true := by
  have h : v.toNat < 65536 := by simpa using v.toNat_lt
  simp [Lit.wf, IntKind.has, IntKind.min, IntKind.max, IntKind.signed, IntKind.bits]
  omega
theorem wf8 (v : UInt8) : (Lit.int .u8 (v.toNat : Int)).wf = true := by
  have h : v.toNat < 256 := by simpa using v.toNat_lt
  simp [Lit.wf, IntKind.has, IntKind.min, IntKind.max, IntKind.signed, IntKind.bits]
  omega
theorem lits8 (d : Nat) (x : UInt8) : Try.prog.keyLits (d + 1) 5 [.int .u8 x.toNat] = some [.int .u8 x.toNat] := by
  simp [Program.keyLits, Try.underlying5, wf8]
theorem lits16 (d : Nat) (x : UInt16) : Try.prog.keyLits (d + 1) 23 [.int .u16 x.toNat] = some [.int .u16 x.toNat] := by
  simp [Program.keyLits, Try.underlying23, wf16]
theorem key_atP (k : Sp) : keyOf Try.prog 88 (kV k) = some (kL k) := by
  have h0 : Try.prog.cellsOf 5 = 1 := by kernel_rfl
  have h2 : Try.prog.cellsOf 88 = 2 := by kernel_rfl
  have h3 : Try.prog.cellsOf 23 = 1 := by kernel_rfl
  have h4 : Try.prog.keyType 88 = true := by kernel_rfl
  have h5 : Try.prog.types.size + 1 = (Try.prog.types.size - 2) + 3 := by kernel_rfl
  unfold keyOf
  rw [Try.underlying88, h5]
  generalize Try.prog.types.size - 2 = d
  simp only [h4, Value.formed, Try.underlying88, h2, Value.cells]
  unfold Program.keyLits
  rw [Try.underlying88]
  simp [h0, h2, h3, lits16, lits8, kL, kLs]
theorem key_lawP : Keyed Try.prog 88 := Keyed.of_law (deep_law_laid (by kernel_rfl) (m := 3) (by omega) (of_decide_eq_true (by kernel_rfl)) (by kernel_rfl) (by rw [Try.underlying88]))
theorem kL_neP {k k' : Sp} (h : k ≠ k') : kL k ≠ kL k' := by
  intro e
  have := key_lawP.inj (key_atP k) (e ▸ key_atP k')
  refine h ?_
  obtain ⟨p, v⟩ := k
  obtain ⟨p', v'⟩ := k'
  simp only [kV, Value.agg.injEq, Array.mk.injEq, List.cons.injEq, Value.int.injEq, true_and, and_true] at this
  obtain ⟨h0, h1⟩ := this
  have g0 : p = p' := UInt8.toNat_inj.1 (by omega)
  have g1 : v = v' := UInt16.toNat_inj.1 (by omega)
  subst g0 g1
  rfl
theorem map_undP : Try.prog.underlying 66 = some (.map 88 5) := Try.underlying66
abbrev DP := DataW Unit
theorem RP_mk (x : UInt8) : plainElem (H := Unit) Try.prog 5 (.int .u8 x.toNat) = some (.lit (.int .u8 x.toNat), []) := plainElem_int Try.underlying5 (wf8 x)
theorem zeroP (w : World) : (zeroValue 5).run Try.prog w = .ok (.int .u8 0) w := by kernel_rfl
theorem RinvP {v : Value} {x : UInt8} {ps : List MemPlace} (h : plainElem (H := Unit) Try.prog 5 v = some (.lit (.int .u8 x.toNat), ps)) : v = .int .u8 x.toNat := by
  obtain ⟨a, rfl, e, _⟩ := plainElem_int_inv Try.underlying5 h
  simp only [Prod.mk.injEq, DataW.lit.injEq, Lit.int.injEq, true_and] at e
  rw [← e.1]
/-- the map's block reads as this list -/
def SmapP (w : World) (b : Nat) (S : List (Sp × UInt8)) : Prop := ∃ D : DP, w.ownsMap Try.prog 88 (plainElem (H := Unit) Try.prog 5) b S.length D ∧ Maps.size D = S.length ∧ (∀ k, Maps.has D (kL k) = shas S k) ∧ ∀ k x, sget S k = some x → ∀ z, D.atKey (kL k) z = .lit (.int .u8 x.toNat)
section
variable {w w' : World} {b n : Nat} {S : List (Sp × UInt8)} {D : DP}
theorem own_sizeP (h : w.ownsMap Try.prog 88 (plainElem (H := Unit) Try.prog 5) b n D) {m : Nat} (hm : Maps.size D = m) : w.ownsMap Try.prog 88 (plainElem (H := Unit) Try.prog 5) b m D := by
  obtain ⟨es, clock, hb, F, hs, hD⟩ := h
  refine ⟨es, clock, hb, F, ?_, hD⟩
  rw [hD] at hm
  simp only [Maps.size, length_sorted, List.length_map, Array.length_toList] at hm
  omega
theorem SmapP.lt (h : SmapP w b S) : b < w.heap.size := by obtain ⟨D, h, _⟩ := h; exact World.ownsMap.lt h
theorem SmapP.chg {X : Nat → Prop} (h : SmapP w b S) (hc : Chg X w w') (hn : ¬ X b) : SmapP w' b S := by
  have hl := h.lt
  obtain ⟨D, ⟨es, clock, hb, r⟩, q⟩ := h
  exact ⟨D, ⟨es, clock, (hc.block b hl hn).trans hb, r⟩, q⟩
theorem SmapP.made (w : World) : SmapP (w.alloc (.map #[] 0)) w.heap.size [] :=
  ⟨_, World.ownsMap_made w _ _ _, rfl, fun k => by simp [Maps.has, shas, sget], fun k x hx => by simp [sget] at hx⟩
theorem SmapP.put (h : SmapP w b S) (hl : S.length < maxLen) (k : Sp) (x : UInt8) : ∃ w', (Instr.mapUpdate 66 (.map (some b)) (kV k) (.int .u8 x.toNat)).run Try.prog w = .ok () w' ∧ SmapP w' b (sput S k x) ∧ w.mapTurned w' b := by
  obtain ⟨D, ho, hs, hh, hg⟩ := h
  have hT := World.ownsMap.tidy ho key_lawP
  obtain ⟨w', hr, ho', ht⟩ := World.ownsMap.store ho key_lawP map_undP hl (key_atP k) (RP_mk x)
  have hsz : Maps.size (D.put (kL k) (.lit (.int .u8 x.toNat))) = (sput S k x).length := by
    rw [Maps.size_put hT, hh, hs, sput_len]
  refine ⟨w', hr, ⟨_, own_sizeP ho' hsz, hsz, fun k' => ?_, fun k' y hy z => ?_⟩, ht⟩
  · rw [shas_put]
    by_cases e : k' = k
    · subst e
      rw [Maps.has_put_same hT.isMap (key_lawP.key (key_atP k'))]; simp
    · rw [Maps.has_put_other (kL_neP e), hh]; simp [e]
  · rw [sget_put] at hy
    by_cases e : k' = k
    · subst e
      rw [if_pos rfl] at hy
      cases hy
      exact Maps.atKey_put_same hT.isMap (key_lawP.key (key_atP k')) _ _
    · rw [if_neg e] at hy
      rw [Maps.atKey_put_other (kL_neP e)]
      exact hg k' y hy z
theorem SmapP.del (h : SmapP w b S) (hn : Nd S) (k : Sp) (ty : TypeId) : ∃ w', (Builtin.delete_ #[66, 88] ty #[.map (some b), kV k]).run Try.prog w = .ok (.tuple #[]) w' ∧ SmapP w' b (sdel S k) ∧ w.mapTurned w' b := by
  obtain ⟨D, ho, hs, hh, hg⟩ := h
  have hT := World.ownsMap.tidy ho key_lawP
  obtain ⟨w', hr, ho', ht⟩ := World.ownsMap.drop ho key_lawP map_undP (key_atP k) ty
  have hsz : Maps.size (D.del (kL k)) = (sdel S k).length := by
    have h1 := Maps.size_del (k := kL k) hT
    have h2 := sdel_len hn k
    rw [hh, hs] at h1
    cases e : shas S k <;> rw [e] at h1 h2 <;> simp at h1 h2 <;> omega
  refine ⟨w', hr, ⟨_, own_sizeP ho' hsz, hsz, fun k' => ?_, fun k' y hy z => ?_⟩, ht⟩
  · rw [shas_del]
    by_cases e : k' = k
    · subst e
      rw [Maps.has_del_same]; simp
    · rw [Maps.has_del_other (kL_neP e), hh]; simp [e]
  · rw [sget_del] at hy
    by_cases e : k' = k
    · rw [if_pos e] at hy; cases hy
    · rw [if_neg e] at hy
      rw [Maps.atKey_del_other (kL_neP e)]
      exact hg k' y hy z
/-- nil, or a map -/
def SVP (w : World) (mb : Option Nat) (S : List (Sp × UInt8)) : Prop := match mb with | none => S = [] | some b => SmapP w b S
theorem SVP.chg {X : Nat → Prop} {mb : Option Nat} (h : SVP w mb S) (hc : Chg X w w') (hn : ∀ b, mb = some b → ¬ X b) : SVP w' mb S := by
  cases mb with
  | none => exact h
  | some b => exact SmapP.chg h hc (hn b rfl)
theorem SVP.run {mb : Option Nat} (h : SVP w mb S) (k : Sp) (c : Bool) : (Instr.lookup 66 (.map mb) (kV k) c).run Try.prog w = .ok (if c then .tuple #[.int .u8 ((sget S k).getD (0 : UInt8)).toNat, .bool (shas S k)] else .int .u8 ((sget S k).getD (0 : UInt8)).toNat) w := by
  cases mb with
  | none =>
    obtain rfl : S = [] := h
    exact Maps.look_nil c key_lawP map_undP (zeroP w) (key_atP k)
  | some b =>
    obtain ⟨D, ho, hs, hh, hg⟩ := h
    have hat : D.atKey (kL k) (.lit (.int .u8 (0 : UInt8).toNat)) = .lit (.int .u8 ((sget S k).getD (0 : UInt8)).toNat) := by
      cases e : sget S k with
      | none =>
        have : shas S k = false := by rw [shas_get, e]; rfl
        rw [← hh k] at this
        exact Maps.atKey_of_not_has this _
      | some x => exact hg k x e _
    cases c with
    | true =>
      obtain ⟨x, ps, hr, hx⟩ := ho.look_ok key_lawP map_undP (zeroP w) (RP_mk (0 : UInt8)) (key_atP k)
      rw [hat] at hx
      rw [hh] at hr
      rw [hr]
      have : x = .int .u8 ((sget S k).getD (0 : UInt8)).toNat := RinvP hx
      rw [this]; rfl
    | false =>
      obtain ⟨x, ps, hr, hx⟩ := ho.lookup key_lawP map_undP (zeroP w) (RP_mk (0 : UInt8)) (key_atP k)
      rw [hat] at hx
      rw [hr]
      have : x = .int .u8 ((sget S k).getD (0 : UInt8)).toNat := RinvP hx
      rw [this]; rfl
theorem SVP.len {mb : Option Nat} (h : SVP w mb S) (ty : TypeId) : (Builtin.len_ #[66] ty #[.map mb]).run Try.prog w = .ok (.int .i64 S.length) w := by
  cases mb with
  | none =>
    obtain rfl : S = [] := h
    exact Maps.len_nil map_undP ty
  | some b =>
    obtain ⟨D, ho, hs, _⟩ := h
    have := World.ownsMap.len ho map_undP ty
    rw [hs] at this
    exact this
end
end Go.Proofs.Ytfdiolfelecccaa


/- Layer 8: places, entries and acts as values; rows of whole structs in memory. -/
namespace Go.Proofs.Ytfdiolfelecccaa
open Go.RowKit
set_option linter.unusedVariables false
set_option linter.unusedSimpArgs false
set_option maxRecDepth 100000

/-- an address -/
structure Mc where
  a : UInt8
  b : UInt8
  c : UInt8
  d : UInt8
  e : UInt8
  f : UInt8
  deriving DecidableEq, Inhabited
/-- a VLAN and an address -/
structure Pl where
  v : UInt16
  m : Mc
  deriving DecidableEq, Inhabited
/-- a learnt one -/
structure En where
  k : Pl
  p : UInt8
  a : Nat
  deriving DecidableEq, Inhabited
def mcB (m : Mc) : List UInt8 := [m.a, m.b, m.c, m.d, m.e, m.f]
def plV (k : Pl) : List Value := [.int .u16 k.v.toNat, .int .u8 k.m.a.toNat, .int .u8 k.m.b.toNat, .int .u8 k.m.c.toNat, .int .u8 k.m.d.toNat, .int .u8 k.m.e.toNat, .int .u8 k.m.f.toNat]
def enV (e : En) : List Value := [.int .u16 e.k.v.toNat, .int .u8 e.k.m.a.toNat, .int .u8 e.k.m.b.toNat, .int .u8 e.k.m.c.toNat, .int .u8 e.k.m.d.toNat, .int .u8 e.k.m.e.toNat, .int .u8 e.k.m.f.toNat, .int .u8 e.p.toNat, .int .i64 (e.a : Nat)]
theorem enV_len (e : En) : (enV e).length = 9 := rfl
theorem mcB_inj {m n : Mc} (h : mcB m = mcB n) : m = n := by
  cases m; cases n
  simp only [mcB, List.cons.injEq, and_true] at h
  obtain ⟨rfl, rfl, rfl, rfl, rfl, rfl⟩ := h
  rfl
theorem mcB_eq (m n : Mc) : (mcB m == mcB n) = decide (m = n) := by
  rw [Bool.eq_iff_iff]
  simp only [beq_iff_eq, decide_eq_true_eq]
  exact ⟨mcB_inj, fun e => by rw [e]⟩
theorem pl_eq (k l : Pl) : decide (k = l) = (decide (k.v = l.v) && decide (k.m = l.m)) := by
  cases k; cases l
  rw [Bool.eq_iff_iff]
  simp
theorem u16_eqI (x y : UInt16) : ((x.toNat : Int) == (y.toNat : Int)) = decide (x = y) := by
  rw [Bool.eq_iff_iff]
  simp only [beq_iff_eq, decide_eq_true_eq]
  exact ⟨fun e => UInt16.toNat_inj.1 (by omega), fun e => by rw [e]⟩
theorem u8_eqI (x y : UInt8) : ((x.toNat : Int) == (y.toNat : Int)) = decide (x = y) := by
  rw [Bool.eq_iff_iff]
  simp only [beq_iff_eq, decide_eq_true_eq]
  exact ⟨fun e => UInt8.toNat_inj.1 (by omega), fun e => by rw [e]⟩
section
variable {P : Program} {w w' : World} {g : Nat} {t : TypeId}
/-- a run of cells put into a block known whole -/
theorem blk_setCells : ∀ (vs p m q : List Value) (w : World), Blk w g t (p ++ m ++ q).toArray → m.length = vs.length → Blk (w.setCells g p.length vs) g t (p ++ vs ++ q).toArray
  | [], p, m, q, w, h, hl => by
    obtain rfl : m = [] := List.length_eq_zero_iff.1 hl
    exact h
  | v :: r, p, m, q, w, h, hl => by
    cases m with
    | nil => simp at hl
    | cons m0 m' =>
      have h1 := Blk.put h p.length v
      have e : (p ++ m0 :: m' ++ q).toArray.setIfInBounds p.length v = ((p ++ [v]) ++ m' ++ q).toArray := by
        rw [List.setIfInBounds_toArray]
        congr 1
        simp
      rw [e] at h1
      have := blk_setCells r (p ++ [v]) m' q _ h1 (by simpa using hl)
      simpa [World.setCells] using this
theorem chg_setCells {S : Nat → Prop} {w0 : World} : ∀ (vs : List Value) (o : Nat) (w : World), Chg S w0 w → (w0.heap.size ≤ g ∨ S g) → Chg S w0 (w.setCells g o vs)
  | [], _, _, h, _ => h
  | v :: r, o, w, h, hg => chg_setCells r (o + 1) _ (h.setCell (p := ⟨g, o, none⟩) hg v) hg
theorem run_stores (p m q vs : List Value) (h : Blk w g t (p ++ m ++ q).toArray) (hl : m.length = vs.length) (h1 : ∀ v ∈ vs, v.oneCell' = true) :
    (storeCells ⟨g, p.length, none⟩ vs 0).run P w = .ok () (w.setCells g p.length vs) := by
  have := run_storeCells_cells (P := P) g p.length vs 0 w (fun j hj => by
    rw [Blk.cell h, Nat.add_zero]
    have : p.length + j < (p ++ m ++ q).length := by simp; omega
    rw [List.getElem?_toArray, List.getElem?_eq_getElem this]
    rfl) (fun j _ => Blk.frozen h _) h1
  simpa using this
/-- a load of a whole struct out of a row, as a step of a list -/
theorem wpList_load_at {ops : Array Oper} {rest : List Oper} {o : Oper} {a : Act} {Q : Exit → Act → World → Prop} (ty : TypeId) (x : Nat) (ho : o.op = .load ty (.tmp x)) (hw : Region.wanted o (yielded ops a.tmps) = true) (b i : Nat) (cs : List Value)
    (hx : a.eval (.tmp x) = .pointer (some ⟨b, i, none⟩)) (h : ∀ j u, cs[j]? = some u → w.cell? ⟨b, i + j, none⟩ = some u)
    (ha : ∀ w, (isAgg ty).run P w = .ok true w) (hs : ∀ w, (Go.sizeOf ty).run P w = .ok cs.length w) (hK : wpList P ops Q rest (a.put o.dst (.agg cs.toArray)) w) : wpList P ops Q (o :: rest) a w :=
  wpList_step fun K hK' => by
    rw [if_pos hw]
    have hl := run_loadCells_list (P := P) (w := w) ⟨b, i, none⟩ cs (fun j u hu => by
      have hadd : (⟨b, i, none⟩ : Addr).add j = ⟨b, i + j, none⟩ := by unfold Addr.add; split <;> simp_all
      rw [hadd]; exact h j u hu)
    unfold Oper.wp execOp
    simp only [ho, hx, Instr.loadAt, Instr.sureAddr, loadVar, Sem.run_bind, Sem.run_pure, Result.andThen_ok, ha, hs, hl, if_true]
    exact hK' _ _ hK
/-- a store of a whole struct into a row, as a step of a list -/
theorem wpList_store_at {ops : Array Oper} {rest : List Oper} {o : Oper} {a : Act} {Q : Exit → Act → World → Prop} (hgd : o.guard = none) (ty : TypeId) (x y : Operand) (ho : o.op = .store ty x y) (p m q vs : List Value)
    (hx : a.eval x = .pointer (some ⟨g, p.length, none⟩)) (hy : a.eval y = .agg vs.toArray) (h : Blk w g t (p ++ m ++ q).toArray) (hl : m.length = vs.length) (h1 : ∀ v ∈ vs, v.oneCell' = true)
    (hs : ∀ w, (Go.sizeOf ty).run P w = .ok vs.length w) (hK : wpList P ops Q rest (a.put o.dst (.tuple #[])) (w.setCells g p.length vs)) : wpList P ops Q (o :: rest) a w :=
  wpList_plain hgd fun _ hK' => by
    have hr := run_stores (P := P) p m q vs h hl h1
    unfold Oper.wp execOp
    simp only [ho, hx, hy, Instr.storeAt, Instr.sureAddr, storeVar, Sem.run_bind, Sem.run_pure, Result.andThen_ok, hs, Value.cells, List.size_toArray, ne_eq, not_true_eq_false, if_false, hr]
    exact hK' _ _ hK
/-- a store whose run is known, as a step of a list -/
theorem wpList_store_run {ops : Array Oper} {rest : List Oper} {o : Oper} {a : Act} {Q : Exit → Act → World → Prop} (hgd : o.guard = none) (ty : TypeId) (x y : Operand) (ho : o.op = .store ty x y) (i : Nat) (vs : List Value)
    (hx : a.eval x = .pointer (some ⟨g, i, none⟩)) (hy : a.eval y = .agg vs.toArray) (hs : ∀ w, (Go.sizeOf ty).run P w = .ok vs.length w) (hr : (storeCells ⟨g, i, none⟩ vs 0).run P w = .ok () w')
    (hK : wpList P ops Q rest (a.put o.dst (.tuple #[])) w') : wpList P ops Q (o :: rest) a w :=
  wpList_plain hgd fun _ hK' => by
    unfold Oper.wp execOp
    simp only [ho, hx, hy, Instr.storeAt, Instr.sureAddr, storeVar, Sem.run_bind, Sem.run_pure, Result.andThen_ok, hs, Value.cells, List.size_toArray, ne_eq, not_true_eq_false, if_false, hr]
    exact hK' _ _ hK
/-- clear of n structs of k cells each -/
theorem run_clear_at (e ty : TypeId) (z : List Value) (ht : P.underlying t = some (.slice e)) (hv : ∀ w, (zeroValue e).run P w = .ok (.agg z.toArray) w) (h1 : ∀ v ∈ z, v.oneCell' = true) (te : TypeId) (n c : Nat) (p m q : List Value) (hb : Blk w g te (p ++ m ++ q).toArray) (hn : 0 < n) (hm : m.length = n * z.length) :
    ∃ zs : List Value, zs.length = m.length ∧ (Builtin.clear_ #[t] ty #[.slice (some ⟨g, p.length, none⟩) n c]).run P w = .ok (.tuple #[]) (w.setCells g p.length zs) := by
  have hsz : (Builtin.zeroCells z.toArray n).toList.length = m.length := by rw [hm]; simp [size_zeroCells]
  have hone : ∀ v ∈ (Builtin.zeroCells z.toArray n).toList, v.oneCell' = true := by
    intro v hv'
    rw [Builtin.zeroCells, Array.toList_map, List.mem_map] at hv'
    obtain ⟨i, hi, rfl⟩ := hv'
    have hi' : i < n * z.length := by simpa using hi
    have hz : 0 < z.length := by
      rcases Nat.eq_zero_or_pos z.length with e | e
      · rw [e] at hi'; simp at hi'
      · exact e
    have hlt : i % z.length < z.length := Nat.mod_lt _ hz
    refine h1 _ ?_
    have e : z.toArray[i % z.toArray.size]! = z[i % z.length] := by
      simp [getElem!_pos, hlt]
    rw [e]
    exact List.getElem_mem hlt
  have hr := run_stores (P := P) p m q _ hb hsz.symm hone
  obtain ⟨k, rfl⟩ : ∃ k, n = k + 1 := ⟨n - 1, by omega⟩
  refine ⟨_, hsz, ?_⟩
  simp [Builtin.clear_, run_underlying ht, hv, Value.cells, hr, Result.andThen]
end
end Go.Proofs.Ytfdiolfelecccaa


/- package maid's Put. -/
namespace Go.Proofs.Ytfdiolfelecccaa
open Go.RowKit
set_option linter.unusedVariables false
set_option linter.unusedSimpArgs false
set_option maxRecDepth 100000

theorem OwnB.low {w : World} {base base' : Nat} {v : Value} {l : List UInt8} (h : OwnB w base v l) (hb : base' ≤ base) : OwnB w base' v l := by
  refine ⟨h.1, ?_⟩
  rcases h.2 with hn | ⟨g, cap, cur, hv, hbg, rest⟩
  · exact .inl hn
  · exact .inr ⟨g, cap, cur, hv, Nat.le_trans hb hbg, rest⟩
theorem strCells_bvals (l : List UInt8) : Lib.strCells ⟨l.toArray⟩ = bvals l := rfl
/-- append of a text onto a slice of the call's own -/
theorem append_text {w : World} {ops : Array Oper} {rest : List Oper} {o : Oper} {a : Act} {Q : Exit → Act → World → Prop} (hgd : o.guard = none) (s x : Operand)
    (ho : o.op = .call { callee := .builtin .append, args := #[s, x], argTypes := #[110, 9] })
    (base : Nat) (v : Value) (l : List UInt8) (hs : a.eval s = v) (hown : OwnB w base v l) (r : List UInt8) (hx : a.eval x = .string ⟨r.toArray⟩)
    (hlen : l.length + r.length ≤ 140737488355328) (hbase : base ≤ w.heap.size)
    (h : ∀ v' w', OwnB w' base v' (l ++ r) → w.grownBy w' v.ownBlock → wpList Try.prog ops Q rest (a.put o.dst v') w') : wpList Try.prog ops Q (o :: rest) a w := by
  obtain ⟨i, hi, hz0, hz1, hz2⟩ := info_parts u8_info
  have hsz : (⟨r.toArray⟩ : ByteArray).size = r.length := rfl
  refine Lib.wpList_append_own_string w hgd s x _ _ ho base 5 i Try.underlying110 Try.underlying9 hi hz0 hz1 hz2 v l.length (bvals l) hs hown ⟨r.toArray⟩ hx (by rw [hsz]; simp only [maxLen]; omega) (by rw [hsz]; exact hlen) hbase ?_
  intro v' w' h1 h2 _
  exact h v' w' (by unfold OwnB; rw [List.length_append, bvals_app]; exact h1) h2
theorem dig1 (n : Nat) (h : n < 256) : dig 1 n = [UInt8.ofNat n] := by
  simp only [dig]
  rw [Nat.mod_eq_of_lt h]
  rfl
theorem own_len {w : World} {base : Nat} {v : Value} {l : List UInt8} (h : OwnB w base v l) : ∃ A c, v = .slice A l.length c ∧ (A = none → c = 0) ∧ Byt w A l := h.str
set_option maxHeartbeats 1000000 in
theorem putname_any (A : Option Addr) (c : Nat) (l : List UInt8) (m : Nat) (n : List UInt8) (w : World) (hA : Byt w A l) (hz : A = none → c = 0) (hl : l.length ≤ 1000) (hm : m < 256) (hn : n.length ≤ 44) :
    Calls Try.prog 57 #[.slice A l.length c, .int .u8 (m : Int), .string ⟨n.toArray⟩] w fun e w' => ∃ v, e = .returned v ∧ OwnB w' w.heap.size v (l ++ [UInt8.ofNat m, UInt8.ofNat n.length] ++ n) ∧ Below w.heap.size w w' := by
  have HA := Lib.hid hA
  have HZ := Lib.hid hz
  have HM := Lib.hid hm
  have HN := Lib.hid hn
  obtain ⟨i, hi, hz0, hz1, hz2⟩ := info_parts u8_info
  clear hA hz
  go_enter Try.func57, Try.ntmps57
  go_wp2_with fail
  refine (put8_any A c l (m : Int) HA.out HZ.out (by omega) (by omega) (by omega)).mono ?_
  rw [show ((m : Int)).toNat = m by omega, dig1 m hm]
  obtain ⟨L1, hL1⟩ : ∃ L1, l ++ [UInt8.ofNat m] = L1 := ⟨_, rfl⟩
  have hLl : L1.length ≤ 1001 := by rw [← hL1]; simp; omega
  rw [hL1]
  have HL1 := Lib.hid hL1
  have HLL := Lib.hid hLl
  clear hL1 hLl
  rintro e w1 ⟨v1, rfl, ho1, hb1⟩
  obtain ⟨A1, c1, rfl, hz1', hB1⟩ := own_len ho1
  have hw1 : IntKind.u8.wrap (n.length : Int) = (n.length : Int) := by simp [IntKind.wrap, IntKind.signed, IntKind.bits]; omega
  have HO1 := Lib.hid ho1
  have HZ1 := Lib.hid hz1'
  have HY1 := Lib.hid hB1
  have HB1 := Lib.hid hb1
  clear ho1 hz1' hB1 hb1
  go_wp2_with fail
  refine (put8_any A1 c1 L1 (n.length : Int) HY1.out HZ1.out (by have := HLL.out; omega) (by omega) (by omega)).mono ?_
  rw [show ((n.length : Int)).toNat = n.length by omega, dig1 n.length (by omega)]
  rintro e w2 ⟨v2, rfl, ho2, hb2⟩
  have HO2 : Hid (OwnB w2 w.heap.size v2 (l ++ [UInt8.ofNat m, UInt8.ofNat n.length])) := Lib.hid (by have := OwnB.low ho2 HB1.out.size; rw [← HL1.out, List.append_assoc] at this; exact this)
  have HB2 : Hid (Below w.heap.size w w2) := Lib.hid (HB1.out.trans (hb2.mono HB1.out.size))
  clear ho2 hb2 hm hn
  go_wp2_with (at_builtin; refine append_text rfl (.tmp 15) (.tmp 16) rfl w.heap.size _ (l ++ [UInt8.ofNat m, UInt8.ofNat n.length]) rfl HO2.out n rfl (by have := HN.out; simp; omega) HB2.out.size ?_)
  intro v3 w3 ho3 hg3
  have hb3 : Below w.heap.size w w3 := HB2.out.grown hg3 HB2.out.size (fun k hk => (HO2.out.lt k hk).1)
  go_wp2
  go_ret
  exact ⟨v3, rfl, by simpa using ho3, hb3⟩
set_option maxHeartbeats 1000000 in
theorem putdomain_any (a : List UInt8) (w : World) (ha : a.length ≤ 44) :
    Calls Try.prog 58 #[.string ⟨a.toArray⟩] w fun e w' => ∃ v, e = .returned v ∧ OwnB w' w.heap.size v (mdH a) ∧ Below w.heap.size w w' := by
  by_cases h : a = []
  · subst h
    go_enter Try.func58, Try.ntmps58
    go_wp2_with fail
    refine (put8_any none 0 [] 1 (Byt.nil_ _ _) (fun _ => rfl) (by simp) (by omega) (by omega)).mono ?_
    rintro e w1 ⟨v1, rfl, ho1, hb1⟩
    go_wp2
    go_ret
    exact ⟨v1, rfl, ho1, hb1⟩
  · have hne : ((⟨a.toArray⟩ : ByteArray).toList == (⟨#[]⟩ : ByteArray).toList) = false := by
      rw [ByteArray.toList_eq, ByteArray.toList_eq]
      simpa using h
    have hne2 : (a == []) = false := by simpa using h
    have hne3 : a.isEmpty = false := by simpa using h
    have HH := Lib.hid h
    clear h
    go_enter Try.func58, Try.ntmps58
    go_wp2_with fail
    refine (putname_any none 0 [] 4 a _ (Byt.nil_ _ _) (fun _ => rfl) (by simp) (by omega) ha).mono ?_
    rintro e w1 ⟨v1, rfl, ho1, hb1⟩
    go_wp2
    go_ret
    refine ⟨v1, rfl, ?_, hb1⟩
    unfold mdH
    rw [if_neg HH.out]
    simpa using ho1

/-- strings.Repeat at noughts -/
def RepC : Prop := ∀ (c : Nat) (w : World), c ≤ 48 → Calls Try.prog 59 #[.string ⟨#[0]⟩, .int .i64 (c : Int)] w fun e w' => e = .returned (.string ⟨(List.replicate c (0 : UInt8)).toArray⟩) ∧ Below w.heap.size w w'
theorem below_it {B : Nat} {a w w' : World} {s : ByteArray} (h : Below B a w) (hs : B ≤ w.heap.size) (h' : ∃ pos, w' = w.iter s pos) : Below B a w' := by
  obtain ⟨pos, rfl⟩ := h'
  exact h.trans ((below_iter w s pos).mono hs)
set_option maxRecDepth 20000 in
set_option maxHeartbeats 2000000 in
theorem mdput_any (KR : RepC) (a b : List UInt8) (w : World) (hal : a.length ≤ 1000000) (hbl : b.length ≤ 1000000) :
    Calls Try.prog 49 #[.string ⟨a.toArray⟩, .string ⟨b.toArray⟩] w fun e w' => e = .returned (.tuple #[.string ⟨(mdV a b).toArray⟩, .int .i64 (mdE a b)]) ∧ Below w.heap.size w w' := by
  obtain ⟨ea, hea⟩ : ∃ q, isn a = q := ⟨_, rfl⟩
  obtain ⟨eb, heb⟩ : ∃ q, isn b = q := ⟨_, rfl⟩
  obtain ⟨ez, hez⟩ : ∃ q, a.isEmpty = q := ⟨_, rfl⟩
  have hz1 : (a == []) = ez := by rw [← hez]; cases a <;> rfl
  have KA := Lib.hid (fun w => isname_any a w)
  have KB := Lib.hid (fun w => isname_any b w)
  rw [hea] at KA
  rw [heb] at KB
  have HEA := Lib.hid hea
  have HEB := Lib.hid heb
  have HEZ := Lib.hid hez
  have HB0 := Lib.hid (Below.refl w.heap.size w)
  clear hea heb hez
  have tail2 : mdE a b = 2 → Ending.returned (.tuple #[.string ⟨#[]⟩, .int .i64 2]) = Ending.returned (.tuple #[.string ⟨(mdV a b).toArray⟩, .int .i64 (mdE a b)]) := fun h => by rw [mdV_ne (by omega), h]
  have tail5 : mdE a b = 5 → Ending.returned (.tuple #[.string ⟨#[]⟩, .int .i64 5]) = Ending.returned (.tuple #[.string ⟨(mdV a b).toArray⟩, .int .i64 (mdE a b)]) := fun h => by rw [mdV_ne (by omega), h]
  have T2 := Lib.hid tail2
  have T5 := Lib.hid tail5
  clear tail2 tail5
  cases ez
  · cases ea
    · have h2 : mdE a b = 2 := by unfold mdE; rw [HEZ.out, HEA.out]; rfl
      have H2 := Lib.hid h2
      clear h2
      go_enter Try.func49, Try.ntmps49
      go_wp2_with fail
      refine (KA.out _).mono ?_
      rintro e w1 ⟨rfl, hb1⟩
      have HB1 : Hid (Below w.heap.size w w1) := Lib.hid (below_it HB0.out (Nat.le_refl _) hb1)
      clear hb1
      go_wp2
      go_ret2
      exact ⟨T2.out H2.out, HB1.out⟩
    · cases eb
      · have h2 : mdE a b = 2 := by unfold mdE; rw [HEZ.out, HEA.out, HEB.out]; rfl
        have H2 := Lib.hid h2
        clear h2
        go_enter Try.func49, Try.ntmps49
        go_wp2_with fail
        refine (KA.out _).mono ?_
        rintro e w1 ⟨rfl, hb1⟩
        have HB1 : Hid (Below w.heap.size w w1) := Lib.hid (below_it HB0.out (Nat.le_refl _) hb1)
        clear hb1
        go_wp2_with fail
        refine (KB.out _).mono ?_
        rintro e w2 ⟨rfl, hb2⟩
        have HB2 : Hid (Below w.heap.size w w2) := Lib.hid (below_it HB1.out HB1.out.size hb2)
        clear hb2
        go_wp2
        go_ret2
        exact ⟨T2.out H2.out, HB2.out⟩
      · have hE : mdE a b = if 44 < a.length + b.length then 5 else 0 := by unfold mdE; rw [HEZ.out, HEA.out, HEB.out]; rfl
        have HE := Lib.hid hE
        clear hE
        go_enter Try.func49, Try.ntmps49
        go_wp2_with fail
        refine (KA.out _).mono ?_
        rintro e w1 ⟨rfl, hb1⟩
        have HB1 : Hid (Below w.heap.size w w1) := Lib.hid (below_it HB0.out (Nat.le_refl _) hb1)
        clear hb1
        go_wp2_with fail
        refine (KB.out _).mono ?_
        rintro e w2 ⟨rfl, hb2⟩
        have HB2 : Hid (Below w.heap.size w w2) := Lib.hid (below_it HB1.out HB1.out.size hb2)
        clear hb2
        by_cases hlen : 44 < a.length + b.length
        · have h5 : mdE a b = 5 := by rw [HE.out, if_pos hlen]
          have H5 := Lib.hid h5
          have d1 : (44 : Int) < (a.length : Int) + (b.length : Int) := by omega
          clear h5 hlen
          go_wp2
          go_ret2
          exact ⟨T5.out H5.out, HB2.out⟩
        · have h0 : mdE a b = 0 := by rw [HE.out, if_neg hlen]
          have H0 := Lib.hid h0
          have HL : Hid (a.length + b.length ≤ 44) := Lib.hid (by omega)
          have d1 : decide ((44 : Int) < (a.length : Int) + (b.length : Int)) = false := by simp; omega
          clear h0
          go_wp2_with fail
          refine (putdomain_any a _ (by have := HL.out; omega)).mono ?_
          rintro e w3 ⟨v3, rfl, ho3, hb3⟩
          obtain ⟨D, hD⟩ : ∃ D, mdH a = D := ⟨_, rfl⟩
          have hdl : D.length ≤ 46 := by rw [← hD, mdH_len]; have := HL.out; split <;> omega
          rw [hD] at ho3
          obtain ⟨A3, c3, rfl, hz3, hy3⟩ := own_len ho3
          have HZ3 := Lib.hid hz3
          have HY3 := Lib.hid hy3
          have HD := Lib.hid hD
          have HDL := Lib.hid hdl
          have HB3 : Hid (Below w.heap.size w w3) := Lib.hid (HB2.out.trans (hb3.mono HB2.out.size))
          clear hb3 hz3 hy3 ho3 hlen d1 hD hdl
          go_wp2_with fail
          refine (putname_any A3 c3 D 2 b w3 HY3.out HZ3.out (by have := HDL.out; omega) (by omega) (by have := HL.out; omega)).mono ?_
          rintro e w4 ⟨v4, rfl, ho4, hb4⟩
          obtain ⟨M, hM⟩ : ∃ M, mdB a b = M := ⟨_, rfl⟩
          have ho5 : OwnB w4 w3.heap.size v4 M := by
            have e : D ++ [UInt8.ofNat 2, UInt8.ofNat b.length] ++ b = mdB a b := by unfold mdB; rw [← HD.out]; simp
            rw [e, hM] at ho4; exact ho4
          have hst := ho5.str
          obtain ⟨A4, c4, rfl, hz4, hy4⟩ := own_len ho5
          have hcv := hst.conv
          have HB4 : Hid (Below w.heap.size w w4) := Lib.hid (HB3.out.trans (hb4.mono HB3.out.size))
          have hml : M.length ≤ 48 := by rw [← hM]; exact mdB_le H0.out
          have hvv : mdV a b = M ++ List.replicate (48 - M.length) 0 := by unfold mdV mdW; rw [if_pos H0.out, hM]
          obtain ⟨k, hk⟩ : ∃ k, 48 - M.length = k := ⟨_, rfl⟩
          have hk2 : (48 : Int) - (M.length : Int) = (k : Int) := by omega
          have hkl : k ≤ 48 := by omega
          have hadd : ∀ W : World, (Op.stringOp .add ⟨M.toArray⟩ ⟨(List.replicate k (0 : UInt8)).toArray⟩).run Try.prog W = .ok (.string ⟨(M ++ List.replicate k 0).toArray⟩) W := fun W => run_string_add_lists W M (List.replicate k 0) (by omega) (by simp; omega)
          have HVV := Lib.hid hvv
          have HK := Lib.hid hk
          have hcvd : (convert 110 9 (.slice A4 M.length c4)).run Try.prog w4.drew = .ok (.string ⟨M.toArray⟩) w4.drew := Str.conv (w := w4.drew) hst
          have HST : Hid (Str w4.drew (.slice A4 M.length c4) M) := Lib.hid hst
          have hk3 : IntKind.i64.wrap ((48 : Int) - (M.length : Int)) = (k : Int) := by rw [hk2]; simp [IntKind.wrap, IntKind.signed, IntKind.bits]; omega
          have KR' : Hid (∀ W : World, Calls Try.prog 59 #[.string ⟨#[0]⟩, .int .i64 (k : Int)] W fun e w' => e = .returned (.string ⟨(List.replicate k (0 : UInt8)).toArray⟩) ∧ Below W.heap.size W w') := Lib.hid (fun W => KR k W hkl)
          obtain ⟨R, hR⟩ : ∃ R, List.replicate k (0 : UInt8) = R := ⟨_, rfl⟩
          rw [hR] at KR'
          simp only [hR] at hadd
          have HR := Lib.hid hR
          have HBd : Hid (Below w.heap.size w w4.drew) := Lib.hid (Below.drew HB4.out)
          clear hb4 hz4 hy4 ho4 ho5 hst hM hvv hml hk hkl hk2 hcv hR
          go_wp2_with fail
          go_region_law ((go_simp; go_at_call 59; refine (KR'.out _).mono ?_; rintro r w_ ⟨rfl, hb_⟩; have hcv_ := (HST.out.below hb_).conv; have kB := Lib.hid (HBd.out.trans (hb_.mono HBd.out.size)); clear hb_))
          all_goals (
            clear hadd
            go_wp2
            go_ret2
            exact ⟨by rw [HVV.out, HK.out, H0.out, HR.out]; rfl, kB.out⟩)
  · cases eb
    · have h2 : mdE a b = 2 := by unfold mdE; rw [HEZ.out, HEB.out]; rfl
      have H2 := Lib.hid h2
      clear h2
      go_enter Try.func49, Try.ntmps49
      go_wp2_with fail
      refine (KB.out _).mono ?_
      rintro e w2 ⟨rfl, hb2⟩
      have HB2 : Hid (Below w.heap.size w w2) := Lib.hid (below_it HB0.out (Nat.le_refl _) hb2)
      clear hb2
      go_wp2
      go_ret2
      exact ⟨T2.out H2.out, HB2.out⟩
    · have hE : mdE a b = if 44 < a.length + b.length then 5 else 0 := by unfold mdE; rw [HEZ.out, HEB.out]; rfl
      have HE := Lib.hid hE
      clear hE
      go_enter Try.func49, Try.ntmps49
      go_wp2_with fail
      refine (KB.out _).mono ?_
      rintro e w2 ⟨rfl, hb2⟩
      have HB2 : Hid (Below w.heap.size w w2) := Lib.hid (below_it HB0.out (Nat.le_refl _) hb2)
      clear hb2
      by_cases hlen : 44 < a.length + b.length
      · have h5 : mdE a b = 5 := by rw [HE.out, if_pos hlen]
        have H5 := Lib.hid h5
        have d1 : (44 : Int) < (a.length : Int) + (b.length : Int) := by omega
        clear h5 hlen
        go_wp2
        go_ret2
        exact ⟨T5.out H5.out, HB2.out⟩
      · have h0 : mdE a b = 0 := by rw [HE.out, if_neg hlen]
        have H0 := Lib.hid h0
        have HL : Hid (a.length + b.length ≤ 44) := Lib.hid (by omega)
        have d1 : decide ((44 : Int) < (a.length : Int) + (b.length : Int)) = false := by simp; omega
        clear h0
        go_wp2_with fail
        refine (putdomain_any a _ (by have := HL.out; omega)).mono ?_
        rintro e w3 ⟨v3, rfl, ho3, hb3⟩
        obtain ⟨D, hD⟩ : ∃ D, mdH a = D := ⟨_, rfl⟩
        have hdl : D.length ≤ 46 := by rw [← hD, mdH_len]; have := HL.out; split <;> omega
        rw [hD] at ho3
        obtain ⟨A3, c3, rfl, hz3, hy3⟩ := own_len ho3
        have HZ3 := Lib.hid hz3
        have HY3 := Lib.hid hy3
        have HD := Lib.hid hD
        have HDL := Lib.hid hdl
        have HB3 : Hid (Below w.heap.size w w3) := Lib.hid (HB2.out.trans (hb3.mono HB2.out.size))
        clear hb3 hz3 hy3 ho3 hlen d1 hD hdl
        go_wp2_with fail
        refine (putname_any A3 c3 D 2 b w3 HY3.out HZ3.out (by have := HDL.out; omega) (by omega) (by have := HL.out; omega)).mono ?_
        rintro e w4 ⟨v4, rfl, ho4, hb4⟩
        obtain ⟨M, hM⟩ : ∃ M, mdB a b = M := ⟨_, rfl⟩
        have ho5 : OwnB w4 w3.heap.size v4 M := by
          have e : D ++ [UInt8.ofNat 2, UInt8.ofNat b.length] ++ b = mdB a b := by unfold mdB; rw [← HD.out]; simp
          rw [e, hM] at ho4; exact ho4
        have hst := ho5.str
        obtain ⟨A4, c4, rfl, hz4, hy4⟩ := own_len ho5
        have hcv := hst.conv
        have HB4 : Hid (Below w.heap.size w w4) := Lib.hid (HB3.out.trans (hb4.mono HB3.out.size))
        have hml : M.length ≤ 48 := by rw [← hM]; exact mdB_le H0.out
        have hvv : mdV a b = M ++ List.replicate (48 - M.length) 0 := by unfold mdV mdW; rw [if_pos H0.out, hM]
        obtain ⟨k, hk⟩ : ∃ k, 48 - M.length = k := ⟨_, rfl⟩
        have hk2 : (48 : Int) - (M.length : Int) = (k : Int) := by omega
        have hkl : k ≤ 48 := by omega
        have hadd : ∀ W : World, (Op.stringOp .add ⟨M.toArray⟩ ⟨(List.replicate k (0 : UInt8)).toArray⟩).run Try.prog W = .ok (.string ⟨(M ++ List.replicate k 0).toArray⟩) W := fun W => run_string_add_lists W M (List.replicate k 0) (by omega) (by simp; omega)
        have HVV := Lib.hid hvv
        have HK := Lib.hid hk
        have hcvd : (convert 110 9 (.slice A4 M.length c4)).run Try.prog w4.drew = .ok (.string ⟨M.toArray⟩) w4.drew := Str.conv (w := w4.drew) hst
        have HST : Hid (Str w4.drew (.slice A4 M.length c4) M) := Lib.hid hst
        have hk3 : IntKind.i64.wrap ((48 : Int) - (M.length : Int)) = (k : Int) := by rw [hk2]; simp [IntKind.wrap, IntKind.signed, IntKind.bits]; omega
        have KR' : Hid (∀ W : World, Calls Try.prog 59 #[.string ⟨#[0]⟩, .int .i64 (k : Int)] W fun e w' => e = .returned (.string ⟨(List.replicate k (0 : UInt8)).toArray⟩) ∧ Below W.heap.size W w') := Lib.hid (fun W => KR k W hkl)
        obtain ⟨R, hR⟩ : ∃ R, List.replicate k (0 : UInt8) = R := ⟨_, rfl⟩
        rw [hR] at KR'
        simp only [hR] at hadd
        have HR := Lib.hid hR
        have HBd : Hid (Below w.heap.size w w4.drew) := Lib.hid (Below.drew HB4.out)
        clear hb4 hz4 hy4 ho4 ho5 hst hM hvv hml hk hkl hk2 hcv hR
        go_wp2_with fail
        go_region_law ((go_simp; go_at_call 59; refine (KR'.out _).mono ?_; rintro r w_ ⟨rfl, hb_⟩; have hcv_ := (HST.out.below hb_).conv; have kB := Lib.hid (HBd.out.trans (hb_.mono HBd.out.size)); clear hb_))
        all_goals (
          clear hadd
          go_wp2
          go_ret2
          exact ⟨by rw [HVV.out, HK.out, H0.out, HR.out]; rfl, kB.out⟩)
end Go.Proofs.Ytfdiolfelecccaa


/- strings.Repeat at noughts, off the shelf. -/
namespace Go.Proofs.Ytfdiolfelecccaa
open Go.RowKit
set_option linter.unusedVariables false

def repeat_ren : Go.Shelf.Ren := ⟨fun | 99 => 64 | 105 => 59 | 165 => 65 | 166 => 66 | 169 => 68 | 170 => 67 | 206 => 72 | 212 => 63 | 240 => 73 | 241 => 74 | 263 => 70 | 264 => 71 | 276 => 76 | 277 => 77 | n => n, fun | 0 => 0 | 3 => 3 | 4 => 4 | 5 => 5 | 9 => 9 | 20 => 20 | 37 => 110 | 46 => 117 | 51 => 131 | 53 => 134 | 70 => 121 | 72 => 123 | 75 => 126 | 76 => 127 | 80 => 130 | 109 => 118 | 127 => 137 | 146 => 132 | 148 => 135 | 164 => 139 | n => n, fun | n => n⟩
theorem repeat_lays : Go.Proofs.Lays.n105 Try.prog repeat_ren := {
  mixed := by kernel_rfl
  f99 := Try.func64.trans (congrArg some (by kernel_rfl))
  f105 := Try.func59.trans (congrArg some (by kernel_rfl))
  f165 := Try.func65.trans (congrArg some (by kernel_rfl))
  f166 := Try.func66.trans (congrArg some (by kernel_rfl))
  f169 := Try.func68.trans (congrArg some (by kernel_rfl))
  f170 := Try.func67.trans (congrArg some (by kernel_rfl))
  f206 := Try.func72.trans (congrArg some (by kernel_rfl))
  f212 := Try.func63.trans (congrArg some (by kernel_rfl))
  f240 := Try.func73.trans (congrArg some (by kernel_rfl))
  f241 := Try.func74.trans (congrArg some (by kernel_rfl))
  f263 := Try.func70.trans (congrArg some (by kernel_rfl))
  f264 := Try.func71.trans (congrArg some (by kernel_rfl))
  f276 := Try.func76.trans (congrArg some (by kernel_rfl))
  f277 := Try.func77.trans (congrArg some (by kernel_rfl))
  t0 := by first | exact Try.underlying0 | kernel_rfl
  a0 := by first | exact Try.isAgg0 | (intro w; kernel_rfl)
  z0 := by first | exact Try.sizeOf0 | (intro w; kernel_rfl)
  v0 := by first | exact Try.zeroValue0 | (intro w; kernel_rfl)
  t3 := by first | exact Try.underlying3 | kernel_rfl
  a3 := by first | exact Try.isAgg3 | (intro w; kernel_rfl)
  z3 := by first | exact Try.sizeOf3 | (intro w; kernel_rfl)
  v3 := by first | exact Try.zeroValue3 | (intro w; kernel_rfl)
  t4 := by first | exact Try.underlying4 | kernel_rfl
  a4 := by first | exact Try.isAgg4 | (intro w; kernel_rfl)
  z4 := by first | exact Try.sizeOf4 | (intro w; kernel_rfl)
  v4 := by first | exact Try.zeroValue4 | (intro w; kernel_rfl)
  t5 := by first | exact Try.underlying5 | kernel_rfl
  a5 := by first | exact Try.isAgg5 | (intro w; kernel_rfl)
  z5 := by first | exact Try.sizeOf5 | (intro w; kernel_rfl)
  v5 := by first | exact Try.zeroValue5 | (intro w; kernel_rfl)
  t9 := by first | exact Try.underlying9 | kernel_rfl
  a9 := by first | exact Try.isAgg9 | (intro w; kernel_rfl)
  z9 := by first | exact Try.sizeOf9 | (intro w; kernel_rfl)
  v9 := by first | exact Try.zeroValue9 | (intro w; kernel_rfl)
  t20 := by first | exact Try.underlying20 | kernel_rfl
  a20 := by first | exact Try.isAgg20 | (intro w; kernel_rfl)
  z20 := by first | exact Try.sizeOf20 | (intro w; kernel_rfl)
  v20 := by first | exact Try.zeroValue20 | (intro w; kernel_rfl)
  t37 := by first | exact Try.underlying110 | kernel_rfl
  a37 := by first | exact Try.isAgg110 | (intro w; kernel_rfl)
  z37 := by first | exact Try.sizeOf110 | (intro w; kernel_rfl)
  v37 := by first | exact Try.zeroValue110 | (intro w; kernel_rfl)
  t46 := by first | exact Try.underlying117 | kernel_rfl
  a46 := by first | exact Try.isAgg117 | (intro w; kernel_rfl)
  z46 := by first | exact Try.sizeOf117 | (intro w; kernel_rfl)
  v46 := by first | exact Try.zeroValue117 | (intro w; kernel_rfl)
  t51 := by first | exact Try.underlying131 | kernel_rfl
  a51 := by first | exact Try.isAgg131 | (intro w; kernel_rfl)
  z51 := by first | exact Try.sizeOf131 | (intro w; kernel_rfl)
  v51 := by first | exact Try.zeroValue131 | (intro w; kernel_rfl)
  t53 := by first | exact Try.underlying134 | kernel_rfl
  a53 := by first | exact Try.isAgg134 | (intro w; kernel_rfl)
  z53 := by first | exact Try.sizeOf134 | (intro w; kernel_rfl)
  v53 := by first | exact Try.zeroValue134 | (intro w; kernel_rfl)
  t70 := by first | exact Try.underlying121 | kernel_rfl
  a70 := by first | exact Try.isAgg121 | (intro w; kernel_rfl)
  z70 := by first | exact Try.sizeOf121 | (intro w; kernel_rfl)
  v70 := by first | exact Try.zeroValue121 | (intro w; kernel_rfl)
  t72 := by first | exact Try.underlying123 | kernel_rfl
  a72 := by first | exact Try.isAgg123 | (intro w; kernel_rfl)
  z72 := by first | exact Try.sizeOf123 | (intro w; kernel_rfl)
  v72 := by first | exact Try.zeroValue123 | (intro w; kernel_rfl)
  t75 := by first | exact Try.underlying126 | kernel_rfl
  a75 := by first | exact Try.isAgg126 | (intro w; kernel_rfl)
  z75 := by first | exact Try.sizeOf126 | (intro w; kernel_rfl)
  v75 := by first | exact Try.zeroValue126 | (intro w; kernel_rfl)
  t76 := by first | exact Try.underlying127 | kernel_rfl
  a76 := by first | exact Try.isAgg127 | (intro w; kernel_rfl)
  z76 := by first | exact Try.sizeOf127 | (intro w; kernel_rfl)
  v76 := by first | exact Try.zeroValue127 | (intro w; kernel_rfl)
  t109 := by first | exact Try.underlying118 | kernel_rfl
  a109 := by first | exact Try.isAgg118 | (intro w; kernel_rfl)
  z109 := by first | exact Try.sizeOf118 | (intro w; kernel_rfl)
  v109 := by first | exact Try.zeroValue118 | (intro w; kernel_rfl)
  t127 := by first | exact Try.underlying137 | kernel_rfl
  a127 := by first | exact Try.isAgg137 | (intro w; kernel_rfl)
  z127 := by first | exact Try.sizeOf137 | (intro w; kernel_rfl)
  v127 := by first | exact Try.zeroValue137 | (intro w; kernel_rfl)
  t146 := by first | exact Try.underlying132 | kernel_rfl
  a146 := by first | exact Try.isAgg132 | (intro w; kernel_rfl)
  z146 := by first | exact Try.sizeOf132 | (intro w; kernel_rfl)
  v146 := by first | exact Try.zeroValue132 | (intro w; kernel_rfl)
  t148 := by first | exact Try.underlying135 | kernel_rfl
  a148 := by first | exact Try.isAgg135 | (intro w; kernel_rfl)
  z148 := by first | exact Try.sizeOf135 | (intro w; kernel_rfl)
  v148 := by first | exact Try.zeroValue135 | (intro w; kernel_rfl)
  t164 := by first | exact Try.underlying139 | kernel_rfl
  a164 := by first | exact Try.isAgg139 | (intro w; kernel_rfl)
  z164 := by first | exact Try.sizeOf139 | (intro w; kernel_rfl)
  v164 := by first | exact Try.zeroValue139 | (intro w; kernel_rfl) }
theorem repeat_extra : Go.Proofs.Builder.Extra Try.prog repeat_ren where
  sizeBuilder := by kernel_rfl
  liesBuilder := by kernel_rfl
  t5 := repeat_lays.t5
  a5 := repeat_lays.a5
  z5 := repeat_lays.z5
  v5 := repeat_lays.v5
  infoByte := by kernel_rfl
  cellsByte := by kernel_rfl
  sizeByte := by kernel_rfl
  neB5 := by decide
theorem rep_noughts (c : Nat) : Lib.repeatL [(0 : UInt8)] c = List.replicate c 0 := by
  have := Lib.repeatL_replicate 0 1 c
  simpa using this
theorem repeat_any : RepC := by
  intro c w hc
  refine (Any.strings_Repeat repeat_lays repeat_extra ⟨#[0]⟩ c w (by omega) (by show 1 * c ≤ _; omega)).mono ?_
  rintro e w' ⟨rfl, hb⟩
  refine ⟨?_, hb⟩
  show Ending.returned (.string ⟨(Lib.repeatL [(0 : UInt8)] c).toArray⟩) = _
  rw [rep_noughts]
theorem mdput (a b : List UInt8) (w : World) (hal : a.length ≤ 1000000) (hbl : b.length ≤ 1000000) :
    Calls Try.prog 49 #[.string ⟨a.toArray⟩, .string ⟨b.toArray⟩] w fun e w' => e = .returned (.tuple #[.string ⟨(mdV a b).toArray⟩, .int .i64 (mdE a b)]) ∧ Below w.heap.size w w' := mdput_any repeat_any a b w hal hbl
end Go.Proofs.Ytfdiolfelecccaa

