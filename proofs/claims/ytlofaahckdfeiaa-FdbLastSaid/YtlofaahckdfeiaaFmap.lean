/- Layer 8: maps by places. -/
import Derived.Test.YtlofaahckdfeiaaFe
import Derived.Maps.OwnSet
import Derived.Maps.Views
import Derived.DeepKeys4
namespace Go.Proofs.Ytlofaahckdfeiaa
open Go.RowKit
open Go.Maps (Keyed)
set_option linter.unusedVariables false
set_option linter.unusedSimpArgs false
set_option maxRecDepth 100000

section
variable {β : Type}
/-- what a place has -/
def sget (S : List (Pl × β)) (k : Pl) : Option β := (S.find? fun x => decide (x.1 = k)).map (·.2)
def shas (S : List (Pl × β)) (k : Pl) : Bool := S.any fun x => decide (x.1 = k)
def sput (S : List (Pl × β)) (k : Pl) (v : β) : List (Pl × β) := if shas S k then S.map (fun x => if x.1 = k then (k, v) else x) else S ++ [(k, v)]
def sdel (S : List (Pl × β)) (k : Pl) : List (Pl × β) := S.filter fun x => !decide (x.1 = k)
theorem shas_get (S : List (Pl × β)) (k : Pl) : shas S k = (sget S k).isSome := by
  unfold shas sget
  rw [Option.isSome_map]
  induction S with
  | nil => rfl
  | cons x S ih =>
    rw [List.any_cons, List.find?_cons]
    cases decide (x.1 = k) <;> simp [ih]
theorem sget_none {S : List (Pl × β)} {k : Pl} (h : shas S k = false) : sget S k = none := by
  rw [shas_get] at h
  simpa using h
theorem sget_map (S : List (Pl × β)) (k k' : Pl) (v : β) : sget (S.map (fun x => if x.1 = k then (k, v) else x)) k' = if k' = k then (if shas S k then some v else none) else sget S k' := by
  unfold sget shas
  induction S with
  | nil => simp
  | cons x S ih =>
    rw [List.map_cons, List.find?_cons, List.any_cons, List.find?_cons]
    by_cases h : x.1 = k
    · by_cases h' : k' = k
      · subst h'; simp [h]
      · have h2 : ¬ k = k' := fun e => h' e.symm
        simp only [h, if_true, h2, decide_false, decide_true, Bool.true_or, if_neg h']
        rw [ih]; simp [h']
    · by_cases h' : k' = k
      · subst h'
        simp only [h, if_false, decide_false, Bool.false_or]
        rw [ih]
        simp
      · simp only [h, if_false, decide_false, Bool.false_or]
        by_cases h3 : x.1 = k'
        · simp [h3, h']
        · simp only [h3, decide_false]
          rw [ih]
theorem sget_put (S : List (Pl × β)) (k k' : Pl) (v : β) : sget (sput S k v) k' = if k' = k then some v else sget S k' := by
  unfold sput
  split
  · rename_i h
    rw [sget_map, h]; rfl
  · rename_i h
    have h0 : sget S k = none := sget_none (by simpa using h)
    unfold sget at h0 ⊢
    rw [List.find?_append]
    by_cases e : k' = k
    · subst e
      have h1 : S.find? (fun x => decide (x.1 = k')) = none := by
        cases hh : S.find? (fun x => decide (x.1 = k')) with
        | none => rfl
        | some y => rw [hh] at h0; cases h0
      rw [h1]
      simp
    · have h2 : ¬ k = k' := fun e' => e e'.symm
      rw [if_neg e]
      cases S.find? (fun x => decide (x.1 = k')) <;> simp [h2]
theorem shas_put (S : List (Pl × β)) (k k' : Pl) (v : β) : shas (sput S k v) k' = (decide (k' = k) || shas S k') := by
  rw [shas_get, sget_put, shas_get]
  by_cases e : k' = k <;> simp [e]
theorem sget_del (S : List (Pl × β)) (k k' : Pl) : sget (sdel S k) k' = if k' = k then none else sget S k' := by
  unfold sget sdel
  induction S with
  | nil => simp
  | cons x S ih =>
    rw [List.filter_cons]
    by_cases h : x.1 = k
    · simp only [h, decide_true, Bool.not_true, Bool.false_eq_true, if_false]
      rw [ih]
      by_cases h' : k' = k
      · simp [h']
      · have h2 : ¬ k = k' := fun e => h' e.symm
        rw [if_neg h', if_neg h', List.find?_cons, h]; simp [h2]
    · simp only [h, decide_false, Bool.not_false, if_true]
      rw [List.find?_cons, List.find?_cons]
      by_cases h3 : x.1 = k'
      · have h' : ¬ k' = k := fun e => h (h3.trans e)
        simp [h3, h']
      · simp only [h3, decide_false]
        exact ih
theorem shas_del (S : List (Pl × β)) (k k' : Pl) : shas (sdel S k) k' = (!decide (k' = k) && shas S k') := by
  rw [shas_get, sget_del, shas_get]
  by_cases e : k' = k <;> simp [e]
theorem sput_len (S : List (Pl × β)) (k : Pl) (v : β) : (sput S k v).length = if shas S k then S.length else S.length + 1 := by
  unfold sput
  split <;> simp
def Nd (S : List (Pl × β)) : Prop := S.Pairwise fun x y => x.1 ≠ y.1
theorem Nd.put {S : List (Pl × β)} (h : Nd S) (k : Pl) (v : β) : Nd (sput S k v) := by
  unfold sput Nd at *
  split
  · rw [List.pairwise_map]
    refine h.imp fun {x y} hne => ?_
    by_cases h1 : x.1 = k <;> by_cases h2 : y.1 = k <;> simp [h1, h2]
    · exact hne (h1.trans h2.symm)
    · exact fun e => h2 e.symm
    · exact hne
  · rename_i hh
    rw [List.pairwise_append]
    refine ⟨h, by simp, fun x hx y hy => ?_⟩
    obtain rfl : y = (k, v) := by simpa using hy
    intro e
    refine hh ?_
    unfold shas
    exact List.any_eq_true.2 ⟨x, hx, by simpa using e⟩
theorem Nd.del {S : List (Pl × β)} (h : Nd S) (k : Pl) : Nd (sdel S k) := List.Pairwise.filter _ h
theorem sdel_len {S : List (Pl × β)} (h : Nd S) (k : Pl) : (sdel S k).length + (if shas S k then 1 else 0) = S.length := by
  unfold sdel shas
  induction S with
  | nil => simp
  | cons x S ih =>
    obtain ⟨h1, h2⟩ := List.pairwise_cons.1 h
    have ih := ih h2
    rw [List.filter_cons, List.any_cons]
    by_cases e : x.1 = k
    · have h0 : S.any (fun y => decide (y.1 = k)) = false := by
        rw [List.any_eq_false]
        intro y hy
        have := h1 y hy
        simp only [decide_eq_true_eq]
        exact fun e' => this (e.trans e'.symm)
      rw [h0] at ih
      simp [e] at ih ⊢
      exact ih
    · have e' : decide (x.1 = k) = false := by simpa using e
      rw [e', Bool.false_or]
      simp only [Bool.not_false, if_true, List.length_cons]
      omega
end
/-- a place as a map's key -/
def kLs (k : Pl) : List Lit := [.int .u16 k.v.toNat, .int .u8 k.m.a.toNat, .int .u8 k.m.b.toNat, .int .u8 k.m.c.toNat, .int .u8 k.m.d.toNat, .int .u8 k.m.e.toNat, .int .u8 k.m.f.toNat]
def kL (k : Pl) : Lit := .string (keyBytes (kLs k))
abbrev kV (k : Pl) : Value := .agg #[.int .u16 k.v.toNat, .int .u8 k.m.a.toNat, .int .u8 k.m.b.toNat, .int .u8 k.m.c.toNat, .int .u8 k.m.d.toNat, .int .u8 k.m.e.toNat, .int .u8 k.m.f.toNat]
theorem wf16 (v : UInt16) : (Lit.int .u16 (v.toNat : Int)).wf = true := by
  have h : v.toNat < 65536 := by simpa using v.toNat_lt
  simp [Lit.wf, IntKind.has, IntKind.min, IntKind.max, IntKind.signed, IntKind.bits]
  omega
theorem wf8 (v : UInt8) : (Lit.int .u8 (v.toNat : Int)).wf = true := by
  have h : v.toNat < 256 := by simpa using v.toNat_lt
  simp [Lit.wf, IntKind.has, IntKind.min, IntKind.max, IntKind.signed, IntKind.bits]
  omega
theorem lits8 (d : Nat) (x : UInt8) : Try.prog.keyLits (d + 1) 5 [.int .u8 x.toNat] = some [.int .u8 x.toNat] := by
  simp [Program.keyLits, Try.underlying5, wf8]
theorem lits16 (d : Nat) (x : UInt16) : Try.prog.keyLits (d + 1) 23 [.int .u16 x.toNat] = some [.int .u16 x.toNat] := by
  simp [Program.keyLits, Try.underlying23, wf16]
theorem litsM (d : Nat) (m : Mc) : Try.prog.keyLits (d + 2) 25 [.int .u8 m.a.toNat, .int .u8 m.b.toNat, .int .u8 m.c.toNat, .int .u8 m.d.toNat, .int .u8 m.e.toNat, .int .u8 m.f.toNat] = some [.int .u8 m.a.toNat, .int .u8 m.b.toNat, .int .u8 m.c.toNat, .int .u8 m.d.toNat, .int .u8 m.e.toNat, .int .u8 m.f.toNat] := by
  have h1 : Try.prog.cellsOf 5 = 1 := by kernel_rfl
  have h2 : Try.prog.cellsOf 25 = 6 := by kernel_rfl
  unfold Program.keyLits
  rw [Try.underlying25]
  simp [h1, h2, lits8, show List.range 6 = [0, 1, 2, 3, 4, 5] from rfl]

/- maps from fdb.place to UInt8 -/
theorem key_atP (k : Pl) : keyOf Try.prog 71 (kV k) = some (kL k) := by
  have h1 : Try.prog.cellsOf 25 = 6 := by kernel_rfl
  have h2 : Try.prog.cellsOf 71 = 7 := by kernel_rfl
  have h3 : Try.prog.cellsOf 23 = 1 := by kernel_rfl
  have h4 : Try.prog.keyType 71 = true := by kernel_rfl
  have h5 : Try.prog.types.size + 1 = (Try.prog.types.size - 2) + 3 := by kernel_rfl
  unfold keyOf
  rw [Try.underlying71, h5]
  generalize Try.prog.types.size - 2 = d
  simp only [h4, Value.formed, Try.underlying71, h2, Value.cells]
  unfold Program.keyLits
  rw [Try.underlying71]
  simp [h1, h2, h3, lits16, litsM, kL, kLs]
theorem key_lawP : Keyed Try.prog 71 := Keyed.of_law (deep_law_laid (by kernel_rfl) (m := 3) (by omega) (of_decide_eq_true (by kernel_rfl)) (by kernel_rfl) (by rw [Try.underlying71]))
theorem kL_neP {k k' : Pl} (h : k ≠ k') : kL k ≠ kL k' := by
  intro e
  have := key_lawP.inj (key_atP k) (e ▸ key_atP k')
  refine h ?_
  obtain ⟨v, ⟨a, b, c, d, e', f⟩⟩ := k
  obtain ⟨v', ⟨a', b', c', d', e'', f'⟩⟩ := k'
  simp only [kV, Value.agg.injEq, Array.mk.injEq, List.cons.injEq, Value.int.injEq, true_and, and_true] at this
  obtain ⟨h0, h1, h2, h3, h4, h5, h6⟩ := this
  have g0 : v = v' := UInt16.toNat_inj.1 (by omega)
  have g1 : a = a' := UInt8.toNat_inj.1 (by omega)
  have g2 : b = b' := UInt8.toNat_inj.1 (by omega)
  have g3 : c = c' := UInt8.toNat_inj.1 (by omega)
  have g4 : d = d' := UInt8.toNat_inj.1 (by omega)
  have g5 : e' = e'' := UInt8.toNat_inj.1 (by omega)
  have g6 : f = f' := UInt8.toNat_inj.1 (by omega)
  subst g0 g1 g2 g3 g4 g5 g6
  rfl
theorem map_undP : Try.prog.underlying 60 = some (.map 71 5) := Try.underlying60
abbrev DP := DataW Unit
theorem RP_mk (x : UInt8) : plainElem (H := Unit) Try.prog 5 (.int .u8 x.toNat) = some (.lit (.int .u8 x.toNat), []) := plainElem_int Try.underlying5 (wf8 x)
theorem zeroP (w : World) : (zeroValue 5).run Try.prog w = .ok (.int .u8 0) w := by kernel_rfl
theorem RinvP {v : Value} {x : UInt8} {ps : List MemPlace} (h : plainElem (H := Unit) Try.prog 5 v = some (.lit (.int .u8 x.toNat), ps)) : v = .int .u8 x.toNat := by
  obtain ⟨a, rfl, e, _⟩ := plainElem_int_inv Try.underlying5 h
  simp only [Prod.mk.injEq, DataW.lit.injEq, Lit.int.injEq, true_and] at e
  rw [← e.1]
/-- the map's block reads as this list -/
def SmapP (w : World) (b : Nat) (S : List (Pl × UInt8)) : Prop := ∃ D : DP, w.ownsMap Try.prog 71 (plainElem (H := Unit) Try.prog 5) b S.length D ∧ Maps.size D = S.length ∧ (∀ k, Maps.has D (kL k) = shas S k) ∧ ∀ k x, sget S k = some x → ∀ z, D.atKey (kL k) z = .lit (.int .u8 x.toNat)
section
variable {w w' : World} {b n : Nat} {S : List (Pl × UInt8)} {D : DP}
theorem own_sizeP (h : w.ownsMap Try.prog 71 (plainElem (H := Unit) Try.prog 5) b n D) {m : Nat} (hm : Maps.size D = m) : w.ownsMap Try.prog 71 (plainElem (H := Unit) Try.prog 5) b m D := by
  obtain ⟨es, clock, hb, F, hs, hD⟩ := h
  refine ⟨es, clock, hb, F, ?_, hD⟩
  rw [hD] at hm
  simp only [Maps.size, length_sorted, List.length_map, Array.length_toList] at hm
  omega
theorem SmapP.lt (h : SmapP w b S) : b < w.heap.size := by obtain ⟨D, h, _⟩ := h; exact World.ownsMap.lt h
theorem SmapP.chg {X : Nat → Prop} (h : SmapP w b S) (hc : Chg X w w') (hn : ¬ X b) : SmapP w' b S := by
  have hl := h.lt
  obtain ⟨D, ⟨es, clock, hb, r⟩, q⟩ := h
  exact ⟨D, ⟨es, clock, (hc.block b hl hn).trans hb, r⟩, q⟩
theorem SmapP.made (w : World) : SmapP (w.alloc (.map #[] 0)) w.heap.size [] :=
  ⟨_, World.ownsMap_made w _ _ _, rfl, fun k => by simp [Maps.has, shas, sget], fun k x hx => by simp [sget] at hx⟩
theorem SmapP.put (h : SmapP w b S) (hl : S.length < maxLen) (k : Pl) (x : UInt8) : ∃ w', (Instr.mapUpdate 60 (.map (some b)) (kV k) (.int .u8 x.toNat)).run Try.prog w = .ok () w' ∧ SmapP w' b (sput S k x) ∧ w.mapTurned w' b := by
  obtain ⟨D, ho, hs, hh, hg⟩ := h
  have hT := World.ownsMap.tidy ho key_lawP
  obtain ⟨w', hr, ho', ht⟩ := World.ownsMap.store ho key_lawP map_undP hl (key_atP k) (RP_mk x)
  have hsz : Maps.size (D.put (kL k) (.lit (.int .u8 x.toNat))) = (sput S k x).length := by
    rw [Maps.size_put hT, hh, hs, sput_len]
  refine ⟨w', hr, ⟨_, own_sizeP ho' hsz, hsz, fun k' => ?_, fun k' y hy z => ?_⟩, ht⟩
  · rw [shas_put]
    by_cases e : k' = k
    · subst e
      rw [Maps.has_put_same hT.isMap (key_lawP.key (key_atP k'))]; simp
    · rw [Maps.has_put_other (kL_neP e), hh]; simp [e]
  · rw [sget_put] at hy
    by_cases e : k' = k
    · subst e
      rw [if_pos rfl] at hy
      cases hy
      exact Maps.atKey_put_same hT.isMap (key_lawP.key (key_atP k')) _ _
    · rw [if_neg e] at hy
      rw [Maps.atKey_put_other (kL_neP e)]
      exact hg k' y hy z
theorem SmapP.del (h : SmapP w b S) (hn : Nd S) (k : Pl) (ty : TypeId) : ∃ w', (Builtin.delete_ #[60, 71] ty #[.map (some b), kV k]).run Try.prog w = .ok (.tuple #[]) w' ∧ SmapP w' b (sdel S k) ∧ w.mapTurned w' b := by
  obtain ⟨D, ho, hs, hh, hg⟩ := h
  have hT := World.ownsMap.tidy ho key_lawP
  obtain ⟨w', hr, ho', ht⟩ := World.ownsMap.drop ho key_lawP map_undP (key_atP k) ty
  have hsz : Maps.size (D.del (kL k)) = (sdel S k).length := by
    have h1 := Maps.size_del (k := kL k) hT
    have h2 := sdel_len hn k
    rw [hh, hs] at h1
    cases e : shas S k <;> rw [e] at h1 h2 <;> simp at h1 h2 <;> omega
  refine ⟨w', hr, ⟨_, own_sizeP ho' hsz, hsz, fun k' => ?_, fun k' y hy z => ?_⟩, ht⟩
  · rw [shas_del]
    by_cases e : k' = k
    · subst e
      rw [Maps.has_del_same]; simp
    · rw [Maps.has_del_other (kL_neP e), hh]; simp [e]
  · rw [sget_del] at hy
    by_cases e : k' = k
    · rw [if_pos e] at hy; cases hy
    · rw [if_neg e] at hy
      rw [Maps.atKey_del_other (kL_neP e)]
      exact hg k' y hy z
/-- nil, or a map -/
def SVP (w : World) (mb : Option Nat) (S : List (Pl × UInt8)) : Prop := match mb with | none => S = [] | some b => SmapP w b S
theorem SVP.chg {X : Nat → Prop} {mb : Option Nat} (h : SVP w mb S) (hc : Chg X w w') (hn : ∀ b, mb = some b → ¬ X b) : SVP w' mb S := by
  cases mb with
  | none => exact h
  | some b => exact SmapP.chg h hc (hn b rfl)
theorem SVP.run {mb : Option Nat} (h : SVP w mb S) (k : Pl) (c : Bool) : (Instr.lookup 60 (.map mb) (kV k) c).run Try.prog w = .ok (if c then .tuple #[.int .u8 ((sget S k).getD (0 : UInt8)).toNat, .bool (shas S k)] else .int .u8 ((sget S k).getD (0 : UInt8)).toNat) w := by
  cases mb with
  | none =>
    obtain rfl : S = [] := h
    exact Maps.look_nil c key_lawP map_undP (zeroP w) (key_atP k)
  | some b =>
    obtain ⟨D, ho, hs, hh, hg⟩ := h
    have hat : D.atKey (kL k) (.lit (.int .u8 (0 : UInt8).toNat)) = .lit (.int .u8 ((sget S k).getD (0 : UInt8)).toNat) := by
      cases e : sget S k with
      | none =>
        have : shas S k = false := by rw [shas_get, e]; rfl
        rw [← hh k] at this
        exact Maps.atKey_of_not_has this _
      | some x => exact hg k x e _
    cases c with
    | true =>
      obtain ⟨x, ps, hr, hx⟩ := ho.look_ok key_lawP map_undP (zeroP w) (RP_mk (0 : UInt8)) (key_atP k)
      rw [hat] at hx
      rw [hh] at hr
      rw [hr]
      have : x = .int .u8 ((sget S k).getD (0 : UInt8)).toNat := RinvP hx
      rw [this]; rfl
    | false =>
      obtain ⟨x, ps, hr, hx⟩ := ho.lookup key_lawP map_undP (zeroP w) (RP_mk (0 : UInt8)) (key_atP k)
      rw [hat] at hx
      rw [hr]
      have : x = .int .u8 ((sget S k).getD (0 : UInt8)).toNat := RinvP hx
      rw [this]; rfl
theorem SVP.len {mb : Option Nat} (h : SVP w mb S) (ty : TypeId) : (Builtin.len_ #[60] ty #[.map mb]).run Try.prog w = .ok (.int .i64 S.length) w := by
  cases mb with
  | none =>
    obtain rfl : S = [] := h
    exact Maps.len_nil map_undP ty
  | some b =>
    obtain ⟨D, ho, hs, _⟩ := h
    have := World.ownsMap.len ho map_undP ty
    rw [hs] at this
    exact this
end

/- maps from viaductlaw08.key to UInt8 -/
theorem key_atQ (k : Pl) : keyOf Try.prog 57 (kV k) = some (kL k) := by
  have h1 : Try.prog.cellsOf 25 = 6 := by kernel_rfl
  have h2 : Try.prog.cellsOf 57 = 7 := by kernel_rfl
  have h3 : Try.prog.cellsOf 23 = 1 := by kernel_rfl
  have h4 : Try.prog.keyType 57 = true := by kernel_rfl
  have h5 : Try.prog.types.size + 1 = (Try.prog.types.size - 2) + 3 := by kernel_rfl
  unfold keyOf
  rw [Try.underlying57, h5]
  generalize Try.prog.types.size - 2 = d
  simp only [h4, Value.formed, Try.underlying57, h2, Value.cells]
  unfold Program.keyLits
  rw [Try.underlying57]
  simp [h1, h2, h3, lits16, litsM, kL, kLs]
theorem key_lawQ : Keyed Try.prog 57 := Keyed.of_law (deep_law_laid (by kernel_rfl) (m := 3) (by omega) (of_decide_eq_true (by kernel_rfl)) (by kernel_rfl) (by rw [Try.underlying57]))
theorem kL_neQ {k k' : Pl} (h : k ≠ k') : kL k ≠ kL k' := by
  intro e
  have := key_lawQ.inj (key_atQ k) (e ▸ key_atQ k')
  refine h ?_
  obtain ⟨v, ⟨a, b, c, d, e', f⟩⟩ := k
  obtain ⟨v', ⟨a', b', c', d', e'', f'⟩⟩ := k'
  simp only [kV, Value.agg.injEq, Array.mk.injEq, List.cons.injEq, Value.int.injEq, true_and, and_true] at this
  obtain ⟨h0, h1, h2, h3, h4, h5, h6⟩ := this
  have g0 : v = v' := UInt16.toNat_inj.1 (by omega)
  have g1 : a = a' := UInt8.toNat_inj.1 (by omega)
  have g2 : b = b' := UInt8.toNat_inj.1 (by omega)
  have g3 : c = c' := UInt8.toNat_inj.1 (by omega)
  have g4 : d = d' := UInt8.toNat_inj.1 (by omega)
  have g5 : e' = e'' := UInt8.toNat_inj.1 (by omega)
  have g6 : f = f' := UInt8.toNat_inj.1 (by omega)
  subst g0 g1 g2 g3 g4 g5 g6
  rfl
theorem map_undQ : Try.prog.underlying 55 = some (.map 57 5) := Try.underlying55
abbrev DQ := DataW Unit
theorem RQ_mk (x : UInt8) : plainElem (H := Unit) Try.prog 5 (.int .u8 x.toNat) = some (.lit (.int .u8 x.toNat), []) := plainElem_int Try.underlying5 (wf8 x)
theorem zeroQ (w : World) : (zeroValue 5).run Try.prog w = .ok (.int .u8 0) w := by kernel_rfl
theorem RinvQ {v : Value} {x : UInt8} {ps : List MemPlace} (h : plainElem (H := Unit) Try.prog 5 v = some (.lit (.int .u8 x.toNat), ps)) : v = .int .u8 x.toNat := by
  obtain ⟨a, rfl, e, _⟩ := plainElem_int_inv Try.underlying5 h
  simp only [Prod.mk.injEq, DataW.lit.injEq, Lit.int.injEq, true_and] at e
  rw [← e.1]
/-- the map's block reads as this list -/
def SmapQ (w : World) (b : Nat) (S : List (Pl × UInt8)) : Prop := ∃ D : DQ, w.ownsMap Try.prog 57 (plainElem (H := Unit) Try.prog 5) b S.length D ∧ Maps.size D = S.length ∧ (∀ k, Maps.has D (kL k) = shas S k) ∧ ∀ k x, sget S k = some x → ∀ z, D.atKey (kL k) z = .lit (.int .u8 x.toNat)
section
variable {w w' : World} {b n : Nat} {S : List (Pl × UInt8)} {D : DQ}
theorem own_sizeQ (h : w.ownsMap Try.prog 57 (plainElem (H := Unit) Try.prog 5) b n D) {m : Nat} (hm : Maps.size D = m) : w.ownsMap Try.prog 57 (plainElem (H := Unit) Try.prog 5) b m D := by
  obtain ⟨es, clock, hb, F, hs, hD⟩ := h
  refine ⟨es, clock, hb, F, ?_, hD⟩
  rw [hD] at hm
  simp only [Maps.size, length_sorted, List.length_map, Array.length_toList] at hm
  omega
theorem SmapQ.lt (h : SmapQ w b S) : b < w.heap.size := by obtain ⟨D, h, _⟩ := h; exact World.ownsMap.lt h
theorem SmapQ.chg {X : Nat → Prop} (h : SmapQ w b S) (hc : Chg X w w') (hn : ¬ X b) : SmapQ w' b S := by
  have hl := h.lt
  obtain ⟨D, ⟨es, clock, hb, r⟩, q⟩ := h
  exact ⟨D, ⟨es, clock, (hc.block b hl hn).trans hb, r⟩, q⟩
theorem SmapQ.made (w : World) : SmapQ (w.alloc (.map #[] 0)) w.heap.size [] :=
  ⟨_, World.ownsMap_made w _ _ _, rfl, fun k => by simp [Maps.has, shas, sget], fun k x hx => by simp [sget] at hx⟩
theorem SmapQ.put (h : SmapQ w b S) (hl : S.length < maxLen) (k : Pl) (x : UInt8) : ∃ w', (Instr.mapUpdate 55 (.map (some b)) (kV k) (.int .u8 x.toNat)).run Try.prog w = .ok () w' ∧ SmapQ w' b (sput S k x) ∧ w.mapTurned w' b := by
  obtain ⟨D, ho, hs, hh, hg⟩ := h
  have hT := World.ownsMap.tidy ho key_lawQ
  obtain ⟨w', hr, ho', ht⟩ := World.ownsMap.store ho key_lawQ map_undQ hl (key_atQ k) (RQ_mk x)
  have hsz : Maps.size (D.put (kL k) (.lit (.int .u8 x.toNat))) = (sput S k x).length := by
    rw [Maps.size_put hT, hh, hs, sput_len]
  refine ⟨w', hr, ⟨_, own_sizeQ ho' hsz, hsz, fun k' => ?_, fun k' y hy z => ?_⟩, ht⟩
  · rw [shas_put]
    by_cases e : k' = k
    · subst e
      rw [Maps.has_put_same hT.isMap (key_lawQ.key (key_atQ k'))]; simp
    · rw [Maps.has_put_other (kL_neQ e), hh]; simp [e]
  · rw [sget_put] at hy
    by_cases e : k' = k
    · subst e
      rw [if_pos rfl] at hy
      cases hy
      exact Maps.atKey_put_same hT.isMap (key_lawQ.key (key_atQ k')) _ _
    · rw [if_neg e] at hy
      rw [Maps.atKey_put_other (kL_neQ e)]
      exact hg k' y hy z
theorem SmapQ.del (h : SmapQ w b S) (hn : Nd S) (k : Pl) (ty : TypeId) : ∃ w', (Builtin.delete_ #[55, 57] ty #[.map (some b), kV k]).run Try.prog w = .ok (.tuple #[]) w' ∧ SmapQ w' b (sdel S k) ∧ w.mapTurned w' b := by
  obtain ⟨D, ho, hs, hh, hg⟩ := h
  have hT := World.ownsMap.tidy ho key_lawQ
  obtain ⟨w', hr, ho', ht⟩ := World.ownsMap.drop ho key_lawQ map_undQ (key_atQ k) ty
  have hsz : Maps.size (D.del (kL k)) = (sdel S k).length := by
    have h1 := Maps.size_del (k := kL k) hT
    have h2 := sdel_len hn k
    rw [hh, hs] at h1
    cases e : shas S k <;> rw [e] at h1 h2 <;> simp at h1 h2 <;> omega
  refine ⟨w', hr, ⟨_, own_sizeQ ho' hsz, hsz, fun k' => ?_, fun k' y hy z => ?_⟩, ht⟩
  · rw [shas_del]
    by_cases e : k' = k
    · subst e
      rw [Maps.has_del_same]; simp
    · rw [Maps.has_del_other (kL_neQ e), hh]; simp [e]
  · rw [sget_del] at hy
    by_cases e : k' = k
    · rw [if_pos e] at hy; cases hy
    · rw [if_neg e] at hy
      rw [Maps.atKey_del_other (kL_neQ e)]
      exact hg k' y hy z
/-- nil, or a map -/
def SVQ (w : World) (mb : Option Nat) (S : List (Pl × UInt8)) : Prop := match mb with | none => S = [] | some b => SmapQ w b S
theorem SVQ.chg {X : Nat → Prop} {mb : Option Nat} (h : SVQ w mb S) (hc : Chg X w w') (hn : ∀ b, mb = some b → ¬ X b) : SVQ w' mb S := by
  cases mb with
  | none => exact h
  | some b => exact SmapQ.chg h hc (hn b rfl)
theorem SVQ.run {mb : Option Nat} (h : SVQ w mb S) (k : Pl) (c : Bool) : (Instr.lookup 55 (.map mb) (kV k) c).run Try.prog w = .ok (if c then .tuple #[.int .u8 ((sget S k).getD (0 : UInt8)).toNat, .bool (shas S k)] else .int .u8 ((sget S k).getD (0 : UInt8)).toNat) w := by
  cases mb with
  | none =>
    obtain rfl : S = [] := h
    exact Maps.look_nil c key_lawQ map_undQ (zeroQ w) (key_atQ k)
  | some b =>
    obtain ⟨D, ho, hs, hh, hg⟩ := h
    have hat : D.atKey (kL k) (.lit (.int .u8 (0 : UInt8).toNat)) = .lit (.int .u8 ((sget S k).getD (0 : UInt8)).toNat) := by
      cases e : sget S k with
      | none =>
        have : shas S k = false := by rw [shas_get, e]; rfl
        rw [← hh k] at this
        exact Maps.atKey_of_not_has this _
      | some x => exact hg k x e _
    cases c with
    | true =>
      obtain ⟨x, ps, hr, hx⟩ := ho.look_ok key_lawQ map_undQ (zeroQ w) (RQ_mk (0 : UInt8)) (key_atQ k)
      rw [hat] at hx
      rw [hh] at hr
      rw [hr]
      have : x = .int .u8 ((sget S k).getD (0 : UInt8)).toNat := RinvQ hx
      rw [this]; rfl
    | false =>
      obtain ⟨x, ps, hr, hx⟩ := ho.lookup key_lawQ map_undQ (zeroQ w) (RQ_mk (0 : UInt8)) (key_atQ k)
      rw [hat] at hx
      rw [hr]
      have : x = .int .u8 ((sget S k).getD (0 : UInt8)).toNat := RinvQ hx
      rw [this]; rfl
theorem SVQ.len {mb : Option Nat} (h : SVQ w mb S) (ty : TypeId) : (Builtin.len_ #[55] ty #[.map mb]).run Try.prog w = .ok (.int .i64 S.length) w := by
  cases mb with
  | none =>
    obtain rfl : S = [] := h
    exact Maps.len_nil map_undQ ty
  | some b =>
    obtain ⟨D, ho, hs, _⟩ := h
    have := World.ownsMap.len ho map_undQ ty
    rw [hs] at this
    exact this
end

/- maps from viaductlaw08.key to Bool -/
theorem key_atA (k : Pl) : keyOf Try.prog 57 (kV k) = some (kL k) := by
  have h1 : Try.prog.cellsOf 25 = 6 := by kernel_rfl
  have h2 : Try.prog.cellsOf 57 = 7 := by kernel_rfl
  have h3 : Try.prog.cellsOf 23 = 1 := by kernel_rfl
  have h4 : Try.prog.keyType 57 = true := by kernel_rfl
  have h5 : Try.prog.types.size + 1 = (Try.prog.types.size - 2) + 3 := by kernel_rfl
  unfold keyOf
  rw [Try.underlying57, h5]
  generalize Try.prog.types.size - 2 = d
  simp only [h4, Value.formed, Try.underlying57, h2, Value.cells]
  unfold Program.keyLits
  rw [Try.underlying57]
  simp [h1, h2, h3, lits16, litsM, kL, kLs]
theorem key_lawA : Keyed Try.prog 57 := Keyed.of_law (deep_law_laid (by kernel_rfl) (m := 3) (by omega) (of_decide_eq_true (by kernel_rfl)) (by kernel_rfl) (by rw [Try.underlying57]))
theorem kL_neA {k k' : Pl} (h : k ≠ k') : kL k ≠ kL k' := by
  intro e
  have := key_lawA.inj (key_atA k) (e ▸ key_atA k')
  refine h ?_
  obtain ⟨v, ⟨a, b, c, d, e', f⟩⟩ := k
  obtain ⟨v', ⟨a', b', c', d', e'', f'⟩⟩ := k'
  simp only [kV, Value.agg.injEq, Array.mk.injEq, List.cons.injEq, Value.int.injEq, true_and, and_true] at this
  obtain ⟨h0, h1, h2, h3, h4, h5, h6⟩ := this
  have g0 : v = v' := UInt16.toNat_inj.1 (by omega)
  have g1 : a = a' := UInt8.toNat_inj.1 (by omega)
  have g2 : b = b' := UInt8.toNat_inj.1 (by omega)
  have g3 : c = c' := UInt8.toNat_inj.1 (by omega)
  have g4 : d = d' := UInt8.toNat_inj.1 (by omega)
  have g5 : e' = e'' := UInt8.toNat_inj.1 (by omega)
  have g6 : f = f' := UInt8.toNat_inj.1 (by omega)
  subst g0 g1 g2 g3 g4 g5 g6
  rfl
theorem map_undA : Try.prog.underlying 85 = some (.map 57 4) := Try.underlying85
abbrev DA := DataW Unit
theorem RA_mk (x : Bool) : plainElem (H := Unit) Try.prog 4 (.bool x) = some (.lit (.bool x), []) := plainElem_bool Try.underlying4 x
theorem zeroA (w : World) : (zeroValue 4).run Try.prog w = .ok (.bool false) w := by kernel_rfl
theorem RinvA {v : Value} {x : Bool} {ps : List MemPlace} (h : plainElem (H := Unit) Try.prog 4 v = some (.lit (.bool x), ps)) : v = .bool x := by
  unfold plainElem at h
  rw [Try.underlying4] at h
  cases v <;> simp at h
  rw [h.1]
/-- the map's block reads as this list -/
def SmapA (w : World) (b : Nat) (S : List (Pl × Bool)) : Prop := ∃ D : DA, w.ownsMap Try.prog 57 (plainElem (H := Unit) Try.prog 4) b S.length D ∧ Maps.size D = S.length ∧ (∀ k, Maps.has D (kL k) = shas S k) ∧ ∀ k x, sget S k = some x → ∀ z, D.atKey (kL k) z = .lit (.bool x)
section
variable {w w' : World} {b n : Nat} {S : List (Pl × Bool)} {D : DA}
theorem own_sizeA (h : w.ownsMap Try.prog 57 (plainElem (H := Unit) Try.prog 4) b n D) {m : Nat} (hm : Maps.size D = m) : w.ownsMap Try.prog 57 (plainElem (H := Unit) Try.prog 4) b m D := by
  obtain ⟨es, clock, hb, F, hs, hD⟩ := h
  refine ⟨es, clock, hb, F, ?_, hD⟩
  rw [hD] at hm
  simp only [Maps.size, length_sorted, List.length_map, Array.length_toList] at hm
  omega
theorem SmapA.lt (h : SmapA w b S) : b < w.heap.size := by obtain ⟨D, h, _⟩ := h; exact World.ownsMap.lt h
theorem SmapA.chg {X : Nat → Prop} (h : SmapA w b S) (hc : Chg X w w') (hn : ¬ X b) : SmapA w' b S := by
  have hl := h.lt
  obtain ⟨D, ⟨es, clock, hb, r⟩, q⟩ := h
  exact ⟨D, ⟨es, clock, (hc.block b hl hn).trans hb, r⟩, q⟩
theorem SmapA.made (w : World) : SmapA (w.alloc (.map #[] 0)) w.heap.size [] :=
  ⟨_, World.ownsMap_made w _ _ _, rfl, fun k => by simp [Maps.has, shas, sget], fun k x hx => by simp [sget] at hx⟩
theorem SmapA.put (h : SmapA w b S) (hl : S.length < maxLen) (k : Pl) (x : Bool) : ∃ w', (Instr.mapUpdate 85 (.map (some b)) (kV k) (.bool x)).run Try.prog w = .ok () w' ∧ SmapA w' b (sput S k x) ∧ w.mapTurned w' b := by
  obtain ⟨D, ho, hs, hh, hg⟩ := h
  have hT := World.ownsMap.tidy ho key_lawA
  obtain ⟨w', hr, ho', ht⟩ := World.ownsMap.store ho key_lawA map_undA hl (key_atA k) (RA_mk x)
  have hsz : Maps.size (D.put (kL k) (.lit (.bool x))) = (sput S k x).length := by
    rw [Maps.size_put hT, hh, hs, sput_len]
  refine ⟨w', hr, ⟨_, own_sizeA ho' hsz, hsz, fun k' => ?_, fun k' y hy z => ?_⟩, ht⟩
  · rw [shas_put]
    by_cases e : k' = k
    · subst e
      rw [Maps.has_put_same hT.isMap (key_lawA.key (key_atA k'))]; simp
    · rw [Maps.has_put_other (kL_neA e), hh]; simp [e]
  · rw [sget_put] at hy
    by_cases e : k' = k
    · subst e
      rw [if_pos rfl] at hy
      cases hy
      exact Maps.atKey_put_same hT.isMap (key_lawA.key (key_atA k')) _ _
    · rw [if_neg e] at hy
      rw [Maps.atKey_put_other (kL_neA e)]
      exact hg k' y hy z
theorem SmapA.del (h : SmapA w b S) (hn : Nd S) (k : Pl) (ty : TypeId) : ∃ w', (Builtin.delete_ #[85, 57] ty #[.map (some b), kV k]).run Try.prog w = .ok (.tuple #[]) w' ∧ SmapA w' b (sdel S k) ∧ w.mapTurned w' b := by
  obtain ⟨D, ho, hs, hh, hg⟩ := h
  have hT := World.ownsMap.tidy ho key_lawA
  obtain ⟨w', hr, ho', ht⟩ := World.ownsMap.drop ho key_lawA map_undA (key_atA k) ty
  have hsz : Maps.size (D.del (kL k)) = (sdel S k).length := by
    have h1 := Maps.size_del (k := kL k) hT
    have h2 := sdel_len hn k
    rw [hh, hs] at h1
    cases e : shas S k <;> rw [e] at h1 h2 <;> simp at h1 h2 <;> omega
  refine ⟨w', hr, ⟨_, own_sizeA ho' hsz, hsz, fun k' => ?_, fun k' y hy z => ?_⟩, ht⟩
  · rw [shas_del]
    by_cases e : k' = k
    · subst e
      rw [Maps.has_del_same]; simp
    · rw [Maps.has_del_other (kL_neA e), hh]; simp [e]
  · rw [sget_del] at hy
    by_cases e : k' = k
    · rw [if_pos e] at hy; cases hy
    · rw [if_neg e] at hy
      rw [Maps.atKey_del_other (kL_neA e)]
      exact hg k' y hy z
/-- nil, or a map -/
def SVA (w : World) (mb : Option Nat) (S : List (Pl × Bool)) : Prop := match mb with | none => S = [] | some b => SmapA w b S
theorem SVA.chg {X : Nat → Prop} {mb : Option Nat} (h : SVA w mb S) (hc : Chg X w w') (hn : ∀ b, mb = some b → ¬ X b) : SVA w' mb S := by
  cases mb with
  | none => exact h
  | some b => exact SmapA.chg h hc (hn b rfl)
theorem SVA.run {mb : Option Nat} (h : SVA w mb S) (k : Pl) (c : Bool) : (Instr.lookup 85 (.map mb) (kV k) c).run Try.prog w = .ok (if c then .tuple #[.bool ((sget S k).getD false), .bool (shas S k)] else .bool ((sget S k).getD false)) w := by
  cases mb with
  | none =>
    obtain rfl : S = [] := h
    exact Maps.look_nil c key_lawA map_undA (zeroA w) (key_atA k)
  | some b =>
    obtain ⟨D, ho, hs, hh, hg⟩ := h
    have hat : D.atKey (kL k) (.lit (.bool false)) = .lit (.bool ((sget S k).getD false)) := by
      cases e : sget S k with
      | none =>
        have : shas S k = false := by rw [shas_get, e]; rfl
        rw [← hh k] at this
        exact Maps.atKey_of_not_has this _
      | some x => exact hg k x e _
    cases c with
    | true =>
      obtain ⟨x, ps, hr, hx⟩ := ho.look_ok key_lawA map_undA (zeroA w) (RA_mk false) (key_atA k)
      rw [hat] at hx
      rw [hh] at hr
      rw [hr]
      have : x = .bool ((sget S k).getD false) := RinvA hx
      rw [this]; rfl
    | false =>
      obtain ⟨x, ps, hr, hx⟩ := ho.lookup key_lawA map_undA (zeroA w) (RA_mk false) (key_atA k)
      rw [hat] at hx
      rw [hr]
      have : x = .bool ((sget S k).getD false) := RinvA hx
      rw [this]; rfl
theorem SVA.len {mb : Option Nat} (h : SVA w mb S) (ty : TypeId) : (Builtin.len_ #[85] ty #[.map mb]).run Try.prog w = .ok (.int .i64 S.length) w := by
  cases mb with
  | none =>
    obtain rfl : S = [] := h
    exact Maps.len_nil map_undA ty
  | some b =>
    obtain ⟨D, ho, hs, _⟩ := h
    have := World.ownsMap.len ho map_undA ty
    rw [hs] at this
    exact this
end
end Go.Proofs.Ytlofaahckdfeiaa
