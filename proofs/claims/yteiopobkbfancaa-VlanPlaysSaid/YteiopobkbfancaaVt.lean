/- VLANs: the list of them as it reads; a map that reads as such a list; a table of ports. -/
import Derived.Test.YteiopobkbfancaaRow
import Derived.Test.YteiopobkbfancaaOpenS
import Derived.Maps.OwnSet
import Derived.Maps.RangeWalk
namespace Go.Proofs.Yteiopobkbfancaa
open Go.RowKit
open Go.Maps (Keyed)
set_option linter.unusedVariables false
set_option linter.unusedSimpArgs false
set_option maxRecDepth 100000

/-- a VLAN: its number, its members, its untagged ones -/
structure Vn where
  v : UInt16
  m : UInt8
  u : UInt8
def vhas (L : List Vn) (v : UInt16) : Bool := L.any fun x => x.v == v
def vfind (L : List Vn) (v : UInt16) : Option Vn := L.find? fun x => x.v == v
def vm (L : List Vn) (v : UInt16) : UInt8 := match vfind L v with | some x => x.m | none => 0
def vu (L : List Vn) (v : UInt16) : UInt8 := match vfind L v with | some x => x.u | none => 0
def vdel (L : List Vn) (v : UInt16) : List Vn := L.filter fun x => !(x.v == v)
def vins (x : Vn) : List Vn → List Vn
  | [] => [x]
  | y :: r => if x.v.toNat < y.v.toNat then x :: y :: r else y :: vins x r
def vput (L : List Vn) (x : Vn) : List Vn := vins x (vdel L x.v)
/-- rising -/
def Ris (L : List Vn) : Prop := L.Pairwise fun x y => x.v.toNat < y.v.toNat
theorem vins_mem {x y : Vn} : ∀ {L : List Vn}, y ∈ vins x L ↔ y = x ∨ y ∈ L
  | [] => by simp [vins]
  | z :: r => by
    unfold vins
    split
    · simp
    · simp [vins_mem (L := r)]
      constructor <;> (rintro (h | h | h) <;> simp [h])
theorem vins_ris {x : Vn} : ∀ {L : List Vn}, Ris L → (∀ y ∈ L, y.v ≠ x.v) → Ris (vins x L)
  | [], _, _ => by simp [vins, Ris]
  | y :: r, h, hn => by
    obtain ⟨h1, h2⟩ := List.pairwise_cons.1 h
    unfold vins
    split
    · rename_i hb
      exact List.pairwise_cons.2 ⟨fun q hq => by
        rcases List.mem_cons.1 hq with rfl | hq
        · exact hb
        · exact Nat.lt_trans hb (h1 q hq), h⟩
    · rename_i hb
      refine List.pairwise_cons.2 ⟨fun q hq => ?_, vins_ris h2 (fun z hz => hn z (by simp [hz]))⟩
      rcases vins_mem.1 hq with rfl | hq
      · have := hn y (by simp)
        have : y.v.toNat ≠ q.v.toNat := fun e => this (UInt16.toNat_inj.1 e)
        omega
      · exact h1 q hq
theorem vdel_ris {L : List Vn} (v : UInt16) (h : Ris L) : Ris (vdel L v) := List.Pairwise.filter _ h
theorem vput_ris {L : List Vn} (x : Vn) (h : Ris L) : Ris (vput L x) := vins_ris (vdel_ris _ h) (fun y hy => by
  have := (List.mem_filter.1 hy).2
  simpa using this)
theorem vins_len (x : Vn) : ∀ L : List Vn, (vins x L).length = L.length + 1
  | [] => rfl
  | y :: r => by
    unfold vins
    split
    · simp
    · simp [vins_len x r]
theorem vdel_le (L : List Vn) (v : UInt16) : (vdel L v).length ≤ L.length := List.length_filter_le _ _
theorem vdel_lt {L : List Vn} {v : UInt16} (h : vhas L v = true) : (vdel L v).length < L.length := by
  unfold vdel
  refine List.length_filter_lt_length_iff_exists.2 ?_
  obtain ⟨x, hx, hv⟩ := List.any_eq_true.1 h
  exact ⟨x, hx, by simp [hv]⟩
theorem vput_le {L : List Vn} {x : Vn} (h : vhas L x.v = true ∨ L.length < 8) (h8 : L.length ≤ 8) : (vput L x).length ≤ 8 := by
  unfold vput
  rw [vins_len]
  rcases h with h | h
  · have := vdel_lt h; omega
  · have := vdel_le L x.v; omega
theorem vfind_none {L : List Vn} {v : UInt16} : vfind L v = none ↔ vhas L v = false := by
  unfold vfind vhas
  rw [List.find?_eq_none, List.any_eq_false]
theorem vm_none {L : List Vn} {v : UInt16} (h : vhas L v = false) : vm L v = 0 := by unfold vm; rw [vfind_none.2 h]
theorem vu_none {L : List Vn} {v : UInt16} (h : vhas L v = false) : vu L v = 0 := by unfold vu; rw [vfind_none.2 h]

/-- as a map reads -/
abbrev D0 := DataW Unit
def encS (m u : Int) : D0 := .agg [.lit (.int .u8 m), .lit (.int .u8 u)]
def setsR : Value → Option (D0 × List MemPlace)
  | .agg ⟨[.int .u8 m, .int .u8 u]⟩ => some (encS m u, [])
  | _ => none
theorem setsR_mk (m u : Int) : setsR (.agg #[.int .u8 m, .int .u8 u]) = some (encS m u, []) := rfl
theorem setsR_inv {v : Value} {y : D0 × List MemPlace} (h : setsR v = some y) : ∃ m u, v = .agg #[.int .u8 m, .int .u8 u] ∧ y = (encS m u, []) := by
  unfold setsR at h
  split at h
  · cases h; exact ⟨_, _, rfl, rfl⟩
  · cases h
theorem encS_inj {a b c d : Int} (h : encS a b = encS c d) : a = c ∧ b = d := by
  unfold encS at h
  simp only [DataW.agg.injEq, List.cons.injEq, DataW.lit.injEq, Lit.int.injEq, and_true, true_and] at h
  exact h
def kL (v : UInt16) : Lit := .int .u16 v.toNat
def encE (x : Vn) : Lit × D0 := (kL x.v, encS x.m.toNat x.u.toNat)
def encL (L : List Vn) : D0 := .map (L.map encE)
theorem kL_same (a b : UInt16) : (kL a).sameKey (kL b) = (a == b) := by
  unfold kL Lit.sameKey
  rw [Bool.eq_iff_iff]
  simp only [true_and, decide_eq_true_eq, beq_iff_eq]
  exact ⟨fun e => UInt16.toNat_inj.1 (by omega), fun e => by rw [e]⟩
theorem kL_before (a b : UInt16) : (kL a).before (kL b) = decide (a.toNat < b.toNat) := by
  unfold kL Lit.before
  simp
theorem insert_enc (x : Vn) : ∀ L : List Vn, DataW.insert (encE x) (L.map encE) = (vins x L).map encE
  | [] => rfl
  | y :: r => by
    simp only [List.map_cons, DataW.insert, vins]
    rw [show (encE x).1.before (encE y).1 = decide (x.v.toNat < y.v.toNat) from kL_before _ _]
    by_cases h : x.v.toNat < y.v.toNat
    · simp [h]
    · simp [h, insert_enc x r]
theorem filter_enc (v : UInt16) (L : List Vn) : (L.map encE).filter (fun p => !p.1.sameKey (kL v)) = (vdel L v).map encE := by
  unfold vdel
  rw [List.filter_map]
  congr 1
  apply List.filter_congr
  intro x _
  simp only [Function.comp, encE, kL_same]
theorem put_enc (L : List Vn) (x : Vn) : (encL L).put (kL x.v) (encS x.m.toNat x.u.toNat) = encL (vput L x) := by
  show DataW.map (DataW.insert (encE x) _) = _
  rw [filter_enc, insert_enc]
  rfl
theorem del_enc (L : List Vn) (v : UInt16) : (encL L).del (kL v) = encL (vdel L v) := by
  show DataW.map _ = _
  rw [filter_enc]
  rfl
theorem has_enc (L : List Vn) (v : UInt16) : Maps.has (encL L) (kL v) = vhas L v := by
  unfold encL vhas
  rw [Maps.has_eq, List.any_map]
  congr 1
  funext x
  simp only [Function.comp, encE, kL_same]
theorem at_enc (L : List Vn) (v : UInt16) : (encL L).atKey (kL v) (encS 0 0) = encS (vm L v).toNat (vu L v).toNat := by
  unfold encL DataW.atKey vm vu vfind
  simp only [List.find?_map]
  have : ((fun p : Lit × D0 => p.1.sameKey (kL v)) ∘ encE) = fun x => x.v == v := by funext x; simp only [Function.comp, encE, kL_same]
  rw [this]
  cases L.find? (fun x => x.v == v) <;> rfl
theorem size_enc (L : List Vn) : Maps.size (encL L) = L.length := by simp [encL, Maps.size]
theorem key_ok (v : UInt16) : (Lit.int .u16 (v.toNat : Int)).wf = true := by
  have h := v.toNat_lt
  have h' : v.toNat < 65536 := by simpa using h
  simp [Lit.wf, IntKind.has, IntKind.min, IntKind.max, IntKind.signed, IntKind.bits]
  omega
theorem key_law : Keyed Try.prog 23 := Maps.int_keyed Try.underlying23
theorem key_at (v : UInt16) : keyOf Try.prog 23 (.int .u16 v.toNat) = some (kL v) := Maps.keyOf_int_mk Try.underlying23 (key_ok v)
theorem map_und : Try.prog.underlying 55 = some (.map 23 69) := Try.underlying55
theorem sets_zero (w : World) : (zeroValue 69).run Try.prog w = .ok (.agg #[.int .u8 0, .int .u8 0]) w := by kernel_rfl

/-- block b is a map that reads as L -/
def Vmap (w : World) (b : Nat) (L : List Vn) : Prop := w.ownsMap Try.prog 23 setsR b L.length (encL L)
section
variable {w w' : World} {b n : Nat} {L : List Vn}
theorem Vmap.of (h : w.ownsMap Try.prog 23 setsR b n (encL L)) : Vmap w b L := by
  obtain ⟨es, clock, hb, F, hs, hD⟩ := h
  refine ⟨es, clock, hb, F, ?_, hD⟩
  have h1 := congrArg Maps.size hD
  rw [size_enc] at h1
  simp only [Maps.size, length_sorted, List.length_map, Array.length_toList] at h1
  omega
theorem Vmap.lt (h : Vmap w b L) : b < w.heap.size := World.ownsMap.lt h
theorem Vmap.chg {S : Nat → Prop} (h : Vmap w b L) (hc : Chg S w w') (hn : ¬ S b) : Vmap w' b L := by
  have hl := h.lt
  obtain ⟨es, clock, hb, r⟩ := h
  exact ⟨es, clock, (hc.block b hl hn).trans hb, r⟩
theorem Vmap.made (w : World) : Vmap (w.alloc (.map #[] 0)) w.heap.size [] := World.ownsMap_made w _ _ _
theorem Vmap.put (h : Vmap w b L) (hl : L.length ≤ 8) (x : Vn) : ∃ w', (Instr.mapUpdate 55 (.map (some b)) (.int .u16 x.v.toNat) (.agg #[.int .u8 x.m.toNat, .int .u8 x.u.toNat])).run Try.prog w = .ok () w' ∧ Vmap w' b (vput L x) ∧ w.mapTurned w' b := by
  obtain ⟨w', hr, ho, ht⟩ := World.ownsMap.store h key_law map_und (by unfold maxLen; omega) (key_at x.v) (setsR_mk _ _)
  rw [put_enc] at ho
  exact ⟨w', hr, Vmap.of ho, ht⟩
theorem Vmap.del (h : Vmap w b L) (v : UInt16) (ty : TypeId) : ∃ w', (Builtin.delete_ #[55, 23] ty #[.map (some b), .int .u16 v.toNat]).run Try.prog w = .ok (.tuple #[]) w' ∧ Vmap w' b (vdel L v) ∧ w.mapTurned w' b := by
  obtain ⟨w', hr, ho, ht⟩ := World.ownsMap.drop h key_law map_und (key_at v) ty
  rw [del_enc] at ho
  exact ⟨w', hr, Vmap.of ho, ht⟩
theorem Vmap.not_blk {t : TypeId} {cs : Array Value} (h : Vmap w b L) {g : Nat} (hg : Blk w g t cs) : b ≠ g := by
  rintro rfl
  obtain ⟨es, clock, hb, _⟩ := h
  rw [show w.heap[b]? = _ from hg] at hb
  cases hb
end

/-- the set of all ports -/
def mask (N : Nat) : Nat := 2 ^ N - 1
/-- the cells of a table -/
structure TabV (cs : Array Value) (N : Nat) (mb : Option Nat) (own : List UInt16) : Prop where
  sz : cs.size = 10
  c0 : cs[0]? = some (.int .u8 (mask N : Nat))
  c1 : cs[1]? = some (.map mb)
  own8 : own.length = 8
  co : ∀ i x, own[i]? = some x → cs[2 + i]? = some (.int .u16 x.toNat)
/-- the map of a table reads as L -/
def Vof (w : World) (mb : Option Nat) (L : List Vn) : Prop := match mb with | none => L = [] | some b => Vmap w b L
/-- a table at t -/
structure Tbl (w : World) (t : Nat) (mb : Option Nat) (N : Nat) (L : List Vn) (own : List UInt16) : Prop where
  cells : ∃ cs, Blk w t 57 cs ∧ TabV cs N mb own
  vof : Vof w mb L
  n1 : 1 ≤ N
  n8 : N ≤ 8
  l8 : L.length ≤ 8
  ris : Ris L
/-- the blocks that a table has -/
def tset (t : Nat) (mb : Option Nat) : Nat → Prop := fun k => k = t ∨ mb = some k
section
variable {w w' : World} {t N : Nat} {mb : Option Nat} {L : List Vn} {own : List UInt16}
theorem Vof.chg {S : Nat → Prop} (h : Vof w mb L) (hc : Chg S w w') (hn : ∀ b, mb = some b → ¬ S b) : Vof w' mb L := by
  cases mb with
  | none => exact h
  | some b => exact Vmap.chg h hc (hn b rfl)
theorem Vof.run (h : Vof w mb L) (v : UInt16) (c : Bool) : (Instr.lookup 55 (.map mb) (.int .u16 v.toNat) c).run Try.prog w = .ok (if c then .tuple #[.agg #[.int .u8 (vm L v).toNat, .int .u8 (vu L v).toNat], .bool (vhas L v)] else .agg #[.int .u8 (vm L v).toNat, .int .u8 (vu L v).toNat]) w := by
  cases mb with
  | none =>
    obtain rfl : L = [] := h
    exact Maps.look_nil c key_law map_und (sets_zero w) (key_at v)
  | some b =>
    have h' : w.ownsMap Try.prog 23 setsR b L.length (encL L) := h
    cases c with
    | true =>
      obtain ⟨x, ps, hr, hx⟩ := h'.look_ok key_law map_und (sets_zero w) (setsR_mk 0 0) (key_at v)
      rw [at_enc] at hx
      rw [has_enc] at hr
      obtain ⟨m, u, rfl, he⟩ := setsR_inv hx
      simp only [Prod.mk.injEq, and_true] at he
      obtain ⟨rfl, rfl⟩ := encS_inj he.1
      exact hr
    | false =>
      obtain ⟨x, ps, hr, hx⟩ := h'.lookup key_law map_und (sets_zero w) (setsR_mk 0 0) (key_at v)
      rw [at_enc] at hx
      obtain ⟨m, u, rfl, he⟩ := setsR_inv hx
      simp only [Prod.mk.injEq, and_true] at he
      obtain ⟨rfl, rfl⟩ := encS_inj he.1
      exact hr
theorem Vof.len (h : Vof w mb L) (ty : TypeId) : (Builtin.len_ #[55] ty #[.map mb]).run Try.prog w = .ok (.int .i64 L.length) w := by
  cases mb with
  | none =>
    obtain rfl : L = [] := h
    exact Maps.len_nil map_und ty
  | some b =>
    have := World.ownsMap.len h map_und ty
    rw [size_enc] at this
    exact this
theorem Vof.lt {b : Nat} (h : Vof w (some b) L) : b < w.heap.size := Vmap.lt h
theorem Tbl.lt (h : Tbl w t mb N L own) : ∀ k, tset t mb k → k < w.heap.size := by
  rintro k (rfl | rfl)
  · obtain ⟨cs, hb, _⟩ := h.cells; exact hb.lt
  · exact h.vof.lt
theorem Tbl.lt0 (h : Tbl w t mb N L own) : t < w.heap.size := h.lt t (.inl rfl)
theorem Tbl.chg {S : Nat → Prop} (h : Tbl w t mb N L own) (hc : Chg S w w') (hn : ∀ k, tset t mb k → ¬ S k) : Tbl w' t mb N L own := by
  obtain ⟨cs, hb, hv⟩ := h.cells
  exact ⟨⟨cs, hb.chg hc (hn t (.inl rfl)), hv⟩, h.vof.chg hc (fun b e => hn b (.inr e)), h.n1, h.n8, h.l8, h.ris⟩
theorem Tbl.next (h : Tbl w t mb N L own) (hc : Below w.heap.size w w') : Tbl w' t mb N L own := h.chg (S := fun _ => False) ⟨hc.os, hc.tape, hc.output, hc.size, fun k hk _ => hc.block k hk⟩ (fun _ _ h => h)
theorem Tbl.drew (h : Tbl w t mb N L own) : Tbl w.drew t mb N L own := h.next ((Below.refl _ _).drew)
theorem Tbl.c0 (h : Tbl w t mb N L own) : w.cell? ⟨t, 0, none⟩ = some (.int .u8 (mask N : Nat)) := by
  obtain ⟨cs, hb, hv⟩ := h.cells
  rw [hb.cell 0, hv.c0]
theorem Tbl.c1 (h : Tbl w t mb N L own) : w.cell? ⟨t, 1, none⟩ = some (.map mb) := by
  obtain ⟨cs, hb, hv⟩ := h.cells
  rw [hb.cell 1, hv.c1]
theorem Tbl.co (h : Tbl w t mb N L own) {i : Nat} {x : UInt16} (hi : own[i]? = some x) : w.cell? ⟨t, 2 + i, none⟩ = some (.int .u16 x.toNat) := by
  obtain ⟨cs, hb, hv⟩ := h.cells
  rw [hb.cell (2 + i), hv.co i x hi]
theorem Tbl.fz (h : Tbl w t mb N L own) (i : Nat) : w.frozen? ⟨t, i, none⟩ = false := by
  obtain ⟨cs, hb, hv⟩ := h.cells
  exact hb.frozen i
theorem Tbl.own8 (h : Tbl w t mb N L own) : own.length = 8 := by
  obtain ⟨cs, hb, hv⟩ := h.cells
  exact hv.own8
theorem Tbl.ne {b : Nat} (h : Tbl w t (some b) N L own) : b ≠ t := by
  obtain ⟨cs, hb, _⟩ := h.cells
  exact Vmap.not_blk h.vof hb
/-- a VLAN put into the map, or taken out of it -/
theorem Tbl.turn {b : Nat} {L' : List Vn} (h : Tbl w t (some b) N L own) (hm : Vmap w' b L') (ht : w.mapTurned w' b) (h8 : L'.length ≤ 8) (hr : Ris L') : Tbl w' t (some b) N L' own ∧ Chg (tset t (some b)) w w' := by
  have hne := h.ne
  obtain ⟨cs, hb, hv⟩ := h.cells
  have hg := ht.grown
  exact ⟨⟨⟨cs, (hg.block t hb.lt (fun e => hne (by cases e; rfl))).trans hb, hv⟩, hm, h.n1, h.n8, h8, hr⟩, Chg.of_grown hg (fun k e => .inr (.inr e))⟩
/-- a port's own VLAN set -/
theorem Tbl.setOwn (h : Tbl w t mb N L own) {p : Nat} (hp : p < 8) (x : UInt16) : Tbl (w.setCell ⟨t, 2 + p, none⟩ (.int .u16 x.toNat)) t mb N L (own.set p x) ∧ Chg (tset t mb) w (w.setCell ⟨t, 2 + p, none⟩ (.int .u16 x.toNat)) := by
  obtain ⟨cs, hb, hv⟩ := h.cells
  have hc : Chg (fun k => k = t) w (w.setCell ⟨t, 2 + p, none⟩ (.int .u16 x.toNat)) := (Chg.refl (fun k => k = t) w).setCell (p := ⟨t, 2 + p, none⟩) (.inr rfl) _
  refine ⟨⟨⟨_, hb.put (2 + p) _, ?_⟩, h.vof.chg hc (fun b e hbt => ?_), h.n1, h.n8, h.l8, h.ris⟩, hc.mono fun k _ hk => .inl hk⟩
  · refine ⟨by simp [hv.sz], ?_, ?_, by simp [hv.own8], fun i y hy => ?_⟩
    · rw [Array.getElem?_setIfInBounds_ne (by omega)]; exact hv.c0
    · rw [Array.getElem?_setIfInBounds_ne (by omega)]; exact hv.c1
    · rw [List.getElem?_set] at hy
      have h8 := hv.own8
      have hz := hv.sz
      split at hy
      · rename_i e
        subst e
        rw [if_pos (by omega)] at hy
        cases hy
        rw [Array.getElem?_setIfInBounds_self_of_lt (by omega)]
      · rw [Array.getElem?_setIfInBounds_ne (by omega)]
        exact hv.co i y hy
  · subst e
    exact h.ne hbt
/-- the map made -/
theorem Tbl.made (h : Tbl w t none N L own) : Tbl ((w.alloc (.map #[] 0)).setCell ⟨t, 1, none⟩ (.map (some w.heap.size))) t (some w.heap.size) N L own ∧ Chg (tset t none) w ((w.alloc (.map #[] 0)).setCell ⟨t, 1, none⟩ (.map (some w.heap.size))) := by
  obtain ⟨cs, hb, hv⟩ := h.cells
  obtain rfl : L = [] := h.vof
  have hlt := hb.lt
  refine ⟨⟨⟨_, (hb.alloc _).put 1 _, ?_⟩, ?_, h.n1, h.n8, h.l8, h.ris⟩, ((Chg.refl _ w).alloc _).setCell (p := ⟨t, 1, none⟩) (.inr (.inl rfl)) _⟩
  · refine ⟨by simp [hv.sz], ?_, ?_, hv.own8, fun i y hy => ?_⟩
    · rw [Array.getElem?_setIfInBounds_ne (by omega)]; exact hv.c0
    · have := hv.sz
      rw [Array.getElem?_setIfInBounds_self_of_lt (by omega)]
    · rw [Array.getElem?_setIfInBounds_ne (by omega)]
      exact hv.co i y hy
  · exact World.ownsMap.setCell (Vmap.made w) (a := ⟨t, 1, none⟩) (show w.heap.size ≠ t by omega) _
end
end Go.Proofs.Yteiopobkbfancaa
