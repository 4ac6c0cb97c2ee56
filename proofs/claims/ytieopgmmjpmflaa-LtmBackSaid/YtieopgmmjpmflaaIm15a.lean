/- Layer 15: reading, as lists; package ltm's small calls. -/
import Derived.Test.YtieopgmmjpmflaaLaw15
import Derived.Test.YtieopgmmjpmflaaMacNum
import Derived.Test.YtieopgmmjpmflaaFrameAddr
import Derived.Test.YtieopgmmjpmflaaR15
import Derived.Maps.OwnSet
import Derived.BigQuiet
import Derived.Deep.QuietTactic
import Derived.Deep.RegionHeld3
import Derived.Deep.RegionLaw
import Derived.Deep.DeepCutAuto
import Derived.OwnWalk
import Derived.StillTailTactics
namespace Go.Proofs.Ytieopgmmjpmflaa
open Go.RowKit
set_option linter.unusedVariables false
set_option linter.unusedSimpArgs false
set_option maxRecDepth 100000

/-- a text read up to place k -/
def StR (s : List UInt8) (k : Nat) (L : List UInt8) (E : Int) : Prop := (k ≤ s.length ∧ L = s.drop k ∧ E = 0) ∨ (s.length < k ∧ E ≠ 0)
theorem str_0 (s : List UInt8) : StR s 0 s 0 := .inl ⟨Nat.zero_le _, rfl, rfl⟩
theorem str_tk {s : List UInt8} {k : Nat} {L : List UInt8} {E : Int} (n : Nat) (h : StR s k L E) : StR s (k + n) (tkL n L E) (tkE n L E) ∧ (k + n ≤ s.length → tkV n L E = (s.drop k).take n) := by
  rcases h with ⟨h1, rfl, rfl⟩ | ⟨h1, h2⟩
  · by_cases hn : n ≤ (s.drop k).length
    · have hl : k + n ≤ s.length := by simp only [List.length_drop] at hn; omega
      refine ⟨.inl ⟨hl, ?_, ?_⟩, fun _ => ?_⟩
      · unfold tkL; rw [if_pos ⟨rfl, hn⟩, List.drop_drop]
      · unfold tkE; rw [if_neg (by omega)]
      · unfold tkV; rw [if_pos ⟨rfl, hn⟩]
    · have hl : s.length < k + n := by simp only [List.length_drop] at hn; omega
      refine ⟨.inr ⟨hl, ?_⟩, fun h => absurd h (by omega)⟩
      unfold tkE
      rw [if_pos ⟨rfl, by omega⟩]
      decide
  · refine ⟨.inr ⟨by omega, ?_⟩, fun h => absurd h (by omega)⟩
    unfold tkE
    rw [if_neg (fun h => h2 h.1)]
    exact h2
theorem nd_ne {L : List UInt8} {E : Int} (h : E ≠ 0) : ndE L E ≠ 0 := by
  unfold ndE
  rw [if_neg (fun h' => h h'.1)]
  exact h
theorem bd_ne (E : Int) : bdE E ≠ 0 := by
  unfold bdE
  split
  · decide
  · assumption
theorem str_nd {s : List UInt8} {k : Nat} {L : List UInt8} {E : Int} (h : StR s k L E) : (s.length = k → E = 0 ∧ ndE L E = 0) ∧ (s.length ≠ k → ndE L E ≠ 0) := by
  rcases h with ⟨h1, rfl, rfl⟩ | ⟨h1, h2⟩
  · refine ⟨fun h => ⟨rfl, ?_⟩, fun h => ?_⟩
    · unfold ndE; rw [if_neg (by simp only [List.length_drop]; omega)]
    · unfold ndE; rw [if_pos ⟨rfl, by simp only [List.length_drop]; omega⟩]; decide
  · exact ⟨fun h => absurd h (by omega), fun _ => nd_ne h2⟩
theorem one_at {s : List UInt8} {k : Nat} (h : k + 1 ≤ s.length) : UInt8.ofNat (num ((s.drop k).take 1)) = s.getD k 0 := by
  have e : (s.drop k).take 1 = [s.getD k 0] := by
    have h1 : s.drop k = s[k] :: s.drop (k + 1) := List.drop_eq_getElem_cons (by omega)
    rw [h1, List.take_succ_cons, List.take_zero, List.getD_eq_getElem?_getD, List.getElem?_eq_getElem (show k < s.length by omega)]
    rfl
  rw [e]
  simp [num]
/-- an address as a value; what is read as one -/
abbrev A6V (x : A6) : Value := MA x.a x.b x.c x.d x.e x.f
def ta6 (l : List UInt8) (er : Int) : A6 := a6of (tkV 6 l er)
/-- a port as a thing's value tells it -/
def tpB (s : List UInt8) : Bool := decide (s.length = 7) && ((s.getD 0 0 == 1) && decide (a6of (s.drop 1) ≠ A6.z))
def tpA (s : List UInt8) : A6 := if tpB s = true then a6of (s.drop 1) else A6.z
def prR (l : List Tl) (k : UInt8) : A6 := match tlF l k with
  | none => A6.z
  | some s => tpA s
theorem prR_is {l : List Tl} {k : UInt8} (h : prB l k = true) : prR l k = prA l k := by
  unfold prB at h
  unfold prR prA
  cases e : tlF l k with
  | none => rfl
  | some s =>
    rw [e] at h
    simp only at h ⊢
    unfold tpA tpB
    rw [if_pos h]
theorem tp_is (s L1 L2 : List UInt8) (E1 E2 E3 : Int) (f : UInt8) (m : A6) (a1 : tkL 1 s 0 = L1) (b1 : tkE 1 s 0 = E1) (a2 : tkL 6 L1 E1 = L2) (b2 : tkE 6 L1 E1 = E2) (c : UInt8.ofNat (num (tkV 1 s 0)) = f) (d : ta6 L1 E1 = m) (e : ndE L2 E2 = E3) :
    tpB s = (!(E3 != 0) && (!(decide (f ≠ 1)) && !(decide (m = A6.z)))) ∧ (E3 = 0 → f = s.getD 0 0 ∧ m = a6of (s.drop 1)) := by
  obtain ⟨h1, v1⟩ := str_tk 1 (str_0 s)
  rw [a1, b1] at h1
  obtain ⟨h2, v2⟩ := str_tk 6 h1
  rw [a2, b2] at h2
  obtain ⟨n1, n2⟩ := str_nd h2
  rw [e] at n1 n2
  have hk : E3 = 0 → f = s.getD 0 0 ∧ m = a6of (s.drop 1) := by
    intro h0
    have hl : s.length = 0 + 1 + 6 := Decidable.byContradiction fun h => n2 h h0
    refine ⟨?_, ?_⟩
    · rw [← c, v1 (by omega), List.drop_zero]
      have := one_at (s := s) (k := 0) (by omega)
      rwa [List.drop_zero] at this
    · rw [← d]
      unfold ta6
      rw [v2 (by omega), List.take_of_length_le (by simp only [List.length_drop]; omega)]
  refine ⟨?_, hk⟩
  unfold tpB
  by_cases h0 : E3 = 0
  · have hl : s.length = 7 := Decidable.byContradiction fun h => n2 (by omega) h0
    obtain ⟨k1, k2⟩ := hk h0
    rw [h0, ← k1, ← k2, decide_eq_true hl]
    simp
    rw [Bool.eq_iff_iff]
    simp
  · have hl : s.length ≠ 7 := fun h => h0 (n1 (by omega)).2
    rw [decide_eq_false hl]
    simp [h0]
/-- a whole struct's load, as a step of a region that draws -/
theorem step_load_cs15 {P : Program} {ops : Array Oper} {o : Oper} {a : Act} {w : World} {K : Act → World → Prop} {Q : Exit → Act → World → Prop} {E : Prop} (hgd : o.guard = none) (ty : TypeId) (x : Nat) (ho : o.op = .load ty (.tmp x)) (g : Nat) (t : TypeId) (cs : Array Value) (d : TypeDesc)
    (hx : a.eval (.tmp x) = .pointer (some ⟨g, 0, none⟩)) (h : Blk w g t cs) (hu : P.underlying ty = some d) (hd : (match d with | .struct _ | .array _ _ => true | _ => false) = true) (hi : (P.info? ty).map (·.size) = some cs.size) (hK : K (a.put o.dst (.agg cs)) w) :
    if Region.wanted o (yielded ops a.tmps) = true then Oper.wp P o a w K Q else E := by
  have hw : Region.wanted o (yielded ops a.tmps) = true := by simp [Region.wanted, hgd]
  rw [if_pos hw]
  exact wp_load_row ty (.tmp x) ho g hx _ _ (0, 0) _ h hu hd hi hK
/-- a whole struct's store, as a step of a region that draws -/
theorem step_store_row15 {P : Program} {ops : Array Oper} {o : Oper} {a : Act} {w : World} {K : Act → World → Prop} {Q : Exit → Act → World → Prop} {E : Prop} (hgd : o.guard = none) (ty : TypeId) (p v : Operand) (ho : o.op = .store ty p v)
    (g : Nat) (hp : a.eval p = .pointer (some ⟨g, 0, none⟩)) (c' : Array Value) (hv : a.eval v = .agg c') (t : TypeId) (cs : Array Value) (hg : Blk w g t cs)
    (hi : (P.info? ty).map (·.size) = some c'.size) (hs : cs.size = c'.size) (h1 : c'.all (·.oneCell') = true)
    (h : K (a.put o.dst (.tuple #[])) (w.setRow g c')) : if Region.wanted o (yielded ops a.tmps) = true then Oper.wp P o a w K Q else E := by
  have hw : Region.wanted o (yielded ops a.tmps) = true := by simp [Region.wanted, hgd]
  rw [if_pos hw]
  unfold Oper.wp execOp
  simp only [ho, hp, hv, Instr.storeAt, Instr.sureAddr, Sem.run_bind, Sem.run_pure, Result.andThen_ok, run_storeVar_row w g t ty cs c' hg hi hs h1]
  exact h
theorem yieldsIf_row15 {P : Program} {ops : Array Oper} {S : World → Prop} {a : Act} {o : Oper} (ty : TypeId) (x : Nat) (ho : o.op = .load ty (.tmp x)) (hw : Region.wanted o (yielded ops a.tmps) = true) (g : Nat)
    (hx : a.eval (.tmp x) = .pointer (some ⟨g, 0, none⟩)) (t : TypeId) (cs : Array Value) (d : TypeDesc) (hg : ∀ w, S w → Blk w g t cs)
    (hu : P.underlying ty = some d) (hd : (match d with | .struct _ | .array _ _ => true | _ => false) = true) (hi : (P.info? ty).map (·.size) = some cs.size) : YieldsIf P ops S o (.agg cs) a :=
  .inl ⟨hw, fun w hS => by
    unfold execOp
    simp only [ho, hx, Instr.loadAt, Instr.sureAddr, Sem.run_bind, Sem.run_pure, Result.andThen_ok, run_loadVar_row w g t ty cs (0, 0) d (hg w hS) hu hd hi]⟩
theorem lastbyte_any (b : Bool) (w : World) :
    Calls Try.prog 22 #[.bool b] w fun e w' => e = .returned (.int .u8 (if b then (1 : UInt8) else 2).toNat) ∧ w = w' := by
  cases b
  all_goals (
    go_enter Try.func22, Try.ntmps22
    go_wp2
    go_ret
    exact ⟨rfl, rfl⟩)
theorem putflags15_any (r : Ry) (w : World) :
    Calls Try.prog 23 #[RyV r] w fun e w' => e = .returned (.int .u8 (ryG r).toNat) ∧ Below w.heap.size w w' := by
  obtain ⟨l, q, k, s, e, i, u⟩ := r
  have hb : Below w.heap.size w (w.alloc (.cells #[.int .u8 l.toNat, .int .u32 q.toNat, .int .u8 k.toNat, .bool s, .bool e, .int .u8 i.a.toNat, .int .u8 i.b.toNat, .int .u8 i.c.toNat, .int .u8 i.d.toNat, .int .u8 i.e.toNat, .int .u8 i.f.toNat, .int .u8 u.a.toNat, .int .u8 u.b.toNat, .int .u8 u.c.toNat, .int .u8 u.d.toNat, .int .u8 u.e.toNat, .int .u8 u.f.toNat] 43)) := (Below.refl _ _).alloc (Nat.le_refl _) _
  cases s <;> cases e
  all_goals (
    go_enter Try.func23, Try.ntmps23
    go_wp2
    go_ret
    exact ⟨rfl, hb⟩)
theorem u8q_any {w : World} {b : Nat} {l : List UInt8} {er : Int} (h : Rdr w b l er) :
    Calls Try.prog 29 #[.pointer (some ⟨b, 0, none⟩)] w fun e w' => e = .returned (.int .u8 ((UInt8.ofNat (num (tkV 1 l er))).toNat)) ∧ Rdr w' b (tkL 1 l er) (tkE 1 l er) ∧ Chg (only b) w w' := by
  have hlt : num (tkV 1 l er) < 256 := Nat.lt_of_lt_of_le (num_lt _) (Nat.pow_le_pow_right (by omega) (tkV_len 1 l er) : _ ≤ 256 ^ 1)
  refine (u8_any h).mono ?_
  rintro e w' ⟨rfl, hr, hc⟩
  exact ⟨by rw [UInt8.toNat_ofNat', Nat.mod_eq_of_lt hlt], hr, hc⟩
theorem u32q_any {w : World} {b : Nat} {l : List UInt8} {er : Int} (h : Rdr w b l er) :
    Calls Try.prog 49 #[.pointer (some ⟨b, 0, none⟩)] w fun e w' => e = .returned (.int .u32 ((UInt32.ofNat (num (tkV 4 l er))).toNat)) ∧ Rdr w' b (tkL 4 l er) (tkE 4 l er) ∧ Chg (only b) w w' := by
  have hlt : num (tkV 4 l er) < 4294967296 := Nat.lt_of_lt_of_le (num_lt _) (Nat.pow_le_pow_right (by omega) (tkV_len 4 l er) : _ ≤ 256 ^ 4)
  refine (u32_any h).mono ?_
  rintro e w' ⟨rfl, hr, hc⟩
  exact ⟨by rw [UInt32.toNat_ofNat', Nat.mod_eq_of_lt hlt], hr, hc⟩
set_option maxHeartbeats 1000000 in
theorem addr15_of {w : World} {b : Nat} {l : List UInt8} {er : Int} (h : Rdr w b l er) (x0 x1 x2 x3 x4 x5 : UInt8) (hv : tkV 6 l er = [x0, x1, x2, x3, x4, x5]) :
    Calls Try.prog 50 #[.pointer (some ⟨b, 0, none⟩)] w fun r w' => r = .returned (MA x0 x1 x2 x3 x4 x5) ∧ Rdr w' b (tkL 6 l er) (tkE 6 l er) ∧ Chg (only b) w w' := by
  have hbl : b < w.heap.size := h.lt
  have HRR : Hid (Rdr (((w.alloc (.cells #[.int .u8 0, .int .u8 0, .int .u8 0, .int .u8 0, .int .u8 0, .int .u8 0] 24)).alloc (.cells #[.int .u8 0, .int .u8 0, .int .u8 0, .int .u8 0, .int .u8 0, .int .u8 0] 24)).drew) b l er) := Lib.hid (Blk.drew (Blk.alloc (Blk.alloc h _) _))
  have HMM : Hid (Arr (((w.alloc (.cells #[.int .u8 0, .int .u8 0, .int .u8 0, .int .u8 0, .int .u8 0, .int .u8 0] 24)).alloc (.cells #[.int .u8 0, .int .u8 0, .int .u8 0, .int .u8 0, .int .u8 0, .int .u8 0] 24)).drew) (w.heap.size + 1) 0 0 0 0 0 0) := Lib.hid (by have := Arr.zero (w.alloc (.cells #[.int .u8 0, .int .u8 0, .int .u8 0, .int .u8 0, .int .u8 0, .int .u8 0] 24)); simp only [World.size_alloc] at this; exact this.drew)
  have HAA : Hid (Arr (((w.alloc (.cells #[.int .u8 0, .int .u8 0, .int .u8 0, .int .u8 0, .int .u8 0, .int .u8 0] 24)).alloc (.cells #[.int .u8 0, .int .u8 0, .int .u8 0, .int .u8 0, .int .u8 0, .int .u8 0] 24)).drew) w.heap.size 0 0 0 0 0 0) := Lib.hid (Arr.drew ((Arr.zero w).alloc _))
  have HCC : Hid (Chg (only b) w (((w.alloc (.cells #[.int .u8 0, .int .u8 0, .int .u8 0, .int .u8 0, .int .u8 0, .int .u8 0] 24)).alloc (.cells #[.int .u8 0, .int .u8 0, .int .u8 0, .int .u8 0, .int .u8 0, .int .u8 0] 24)).drew)) := Lib.hid (((Chg.refl (only b) w).alloc _).alloc _).drew
  have HV := Lib.hid hv
  clear h hv
  go_enter Try.func50, Try.ntmps50
  go_wp2_with fail
  go_region_law (first
    | (refine step_copy_mac rfl (.tmp 4) (.tmp 6) rfl (w.heap.size + 1) (by simp [Act.eval, Act.put]) x0 x1 x2 x3 x4 x5 (by simp [Act.eval, Act.put]) 0 0 0 0 0 0 HM5.out ?_; intro w6 hm6 hc6; have HM6 := Lib.hid hm6; have HA6 : Hid (Arr w6 w.heap.size 0 0 0 0 0 0) := Lib.hid (Blk.chg HA5.out hc6 (by unfold only; omega)); have HR6 : Hid (Rdr w6 b (tkL 6 l er) (tkE 6 l er)) := Lib.hid (Blk.chg HR5.out hc6 (by unfold only; omega)); have HC6 : Hid (Chg (only b) w w6) := Lib.hid (HC5.out.trans' hc6 (by omega)); clear hm6 hc6)
    | (go_simp; go_at_call 31; refine (text_any 6 HRR.out).mono ?_; rw [show (6 : Int).toNat = 6 from rfl, HV.out]; rintro r w5 ⟨rfl, hr5, hc5⟩; have HR5 := Lib.hid hr5; have HM5 : Hid (Arr w5 (w.heap.size + 1) 0 0 0 0 0 0) := Lib.hid (Blk.chg HMM.out hc5 (by unfold only; omega)); have HA5 : Hid (Arr w5 w.heap.size 0 0 0 0 0 0) := Lib.hid (Blk.chg HAA.out hc5 (by unfold only; omega)); have HC5 : Hid (Chg (only b) w w5) := Lib.hid (HCC.out.trans hc5); clear hr5 hc5))
  all_goals (
    have ha := HA6.out
    have hm := HM6.out
    obtain ⟨f0, f1, f2, f3, f4, f5⟩ := ha.frozens
    obtain ⟨c0, c1, c2, c3, c4, c5⟩ := ha.cells
    obtain ⟨d0, d1, d2, d3, d4, d5⟩ := hm.cells
    clear ha hm
    go_wp2
    exact bodyPost_ret (v := MA x0 x1 x2 x3 x4 x5) (by simp [results, Try.results50, go_sem, c0, c1, c2, c3, c4, c5]) rfl ⟨rfl, put6_far HR6.out (by omega) _ _ _ _ _ _, put6_chg HC6.out (Nat.le_refl _) _ _ _ _ _ _⟩)
set_option maxHeartbeats 1000000 in
theorem addr15_no {w : World} {b : Nat} {l : List UInt8} {er : Int} (h : Rdr w b l er) (hv : tkV 6 l er = []) :
    Calls Try.prog 50 #[.pointer (some ⟨b, 0, none⟩)] w fun r w' => r = .returned (MA 0 0 0 0 0 0) ∧ Rdr w' b (tkL 6 l er) (tkE 6 l er) ∧ Chg (only b) w w' := by
  have hbl : b < w.heap.size := h.lt
  have HRR : Hid (Rdr (((w.alloc (.cells #[.int .u8 0, .int .u8 0, .int .u8 0, .int .u8 0, .int .u8 0, .int .u8 0] 24)).alloc (.cells #[.int .u8 0, .int .u8 0, .int .u8 0, .int .u8 0, .int .u8 0, .int .u8 0] 24)).drew) b l er) := Lib.hid (Blk.drew (Blk.alloc (Blk.alloc h _) _))
  have HMM : Hid (Arr (((w.alloc (.cells #[.int .u8 0, .int .u8 0, .int .u8 0, .int .u8 0, .int .u8 0, .int .u8 0] 24)).alloc (.cells #[.int .u8 0, .int .u8 0, .int .u8 0, .int .u8 0, .int .u8 0, .int .u8 0] 24)).drew) (w.heap.size + 1) 0 0 0 0 0 0) := Lib.hid (by have := Arr.zero (w.alloc (.cells #[.int .u8 0, .int .u8 0, .int .u8 0, .int .u8 0, .int .u8 0, .int .u8 0] 24)); simp only [World.size_alloc] at this; exact this.drew)
  have HAA : Hid (Arr (((w.alloc (.cells #[.int .u8 0, .int .u8 0, .int .u8 0, .int .u8 0, .int .u8 0, .int .u8 0] 24)).alloc (.cells #[.int .u8 0, .int .u8 0, .int .u8 0, .int .u8 0, .int .u8 0, .int .u8 0] 24)).drew) w.heap.size 0 0 0 0 0 0) := Lib.hid (Arr.drew ((Arr.zero w).alloc _))
  have HCC : Hid (Chg (only b) w (((w.alloc (.cells #[.int .u8 0, .int .u8 0, .int .u8 0, .int .u8 0, .int .u8 0, .int .u8 0] 24)).alloc (.cells #[.int .u8 0, .int .u8 0, .int .u8 0, .int .u8 0, .int .u8 0, .int .u8 0] 24)).drew)) := Lib.hid (((Chg.refl (only b) w).alloc _).alloc _).drew
  have HV := Lib.hid hv
  clear h hv
  go_enter Try.func50, Try.ntmps50
  go_wp2_with fail
  go_region_law (first
    | (refine step_copy_none rfl (.tmp 4) (.tmp 6) rfl (w.heap.size + 1) (by simp [Act.eval, Act.put]) (by simp [Act.eval, Act.put]) ?_; have HM6 := HM5; have HA6 := HA5; have HR6 := HR5; have HC6 := HC5)
    | (go_simp; go_at_call 31; refine (text_any 6 HRR.out).mono ?_; rw [show (6 : Int).toNat = 6 from rfl, HV.out]; rintro r w5 ⟨rfl, hr5, hc5⟩; have HR5 := Lib.hid hr5; have HM5 : Hid (Arr w5 (w.heap.size + 1) 0 0 0 0 0 0) := Lib.hid (Blk.chg HMM.out hc5 (by unfold only; omega)); have HA5 : Hid (Arr w5 w.heap.size 0 0 0 0 0 0) := Lib.hid (Blk.chg HAA.out hc5 (by unfold only; omega)); have HC5 : Hid (Chg (only b) w w5) := Lib.hid (HCC.out.trans hc5); clear hr5 hc5))
  all_goals (
    have ha := HA6.out
    have hm := HM6.out
    obtain ⟨f0, f1, f2, f3, f4, f5⟩ := ha.frozens
    obtain ⟨c0, c1, c2, c3, c4, c5⟩ := ha.cells
    obtain ⟨d0, d1, d2, d3, d4, d5⟩ := hm.cells
    clear ha hm
    go_wp2
    exact bodyPost_ret (v := MA 0 0 0 0 0 0) (by simp [results, Try.results50, go_sem, c0, c1, c2, c3, c4, c5]) rfl ⟨rfl, put6_far HR6.out (by omega) _ _ _ _ _ _, put6_chg HC6.out (Nat.le_refl _) _ _ _ _ _ _⟩)
theorem addr15_any {w : World} {b : Nat} {l : List UInt8} {er : Int} (h : Rdr w b l er) :
    Calls Try.prog 50 #[.pointer (some ⟨b, 0, none⟩)] w fun r w' => r = .returned (A6V (ta6 l er)) ∧ Rdr w' b (tkL 6 l er) (tkE 6 l er) ∧ Chg (only b) w w' := by
  by_cases hv : er = 0 ∧ 6 ≤ l.length
  · match l, hv.2 with
    | x0 :: x1 :: x2 :: x3 :: x4 :: x5 :: l5, _ =>
      have e : tkV 6 (x0 :: x1 :: x2 :: x3 :: x4 :: x5 :: l5) er = [x0, x1, x2, x3, x4, x5] := by unfold tkV; rw [if_pos ⟨hv.1, by simp⟩]; rfl
      have := addr15_of h x0 x1 x2 x3 x4 x5 e
      unfold ta6
      rw [e]
      exact this
  · have e : tkV 6 l er = [] := by unfold tkV; rw [if_neg hv]
    have := addr15_no h e
    unfold ta6
    rw [e]
    exact this
theorem a6_z : A6V A6.z = .agg #[.int .u8 0, .int .u8 0, .int .u8 0, .int .u8 0, .int .u8 0, .int .u8 0] := rfl
set_option maxHeartbeats 2000000 in
theorem takeport_any (s : List UInt8) (w : World) :
    Calls Try.prog 54 #[.string ⟨s.toArray⟩] w fun e w' => e = .returned (.tuple #[A6V (tpA s), .bool (tpB s)]) ∧ Below w.heap.size w w' := by
  obtain ⟨L1, a1⟩ : ∃ L, tkL 1 s 0 = L := ⟨_, rfl⟩
  obtain ⟨E1, b1⟩ : ∃ L, tkE 1 s 0 = L := ⟨_, rfl⟩
  obtain ⟨L2, a2⟩ : ∃ L, tkL 6 L1 E1 = L := ⟨_, rfl⟩
  obtain ⟨E2, b2⟩ : ∃ L, tkE 6 L1 E1 = L := ⟨_, rfl⟩
  obtain ⟨f, c1⟩ : ∃ L, UInt8.ofNat (num (tkV 1 s 0)) = L := ⟨_, rfl⟩
  obtain ⟨m, c2⟩ : ∃ L, ta6 L1 E1 = L := ⟨_, rfl⟩
  obtain ⟨E3, c3⟩ : ∃ L, ndE L2 E2 = L := ⟨_, rfl⟩
  obtain ⟨hB, hA⟩ := tp_is s L1 L2 E1 E2 E3 f m a1 b1 a2 b2 c1 c2 c3
  have K1 := Lib.hid (fun w b => @u8q_any w b s 0)
  have K2 := Lib.hid (fun w b => @addr15_any w b L1 E1)
  have K3 := Lib.hid (fun w b => @end_any w b L2 E2)
  rw [a1, b1, c1] at K1
  rw [a2, b2, c2] at K2
  rw [c3] at K3
  have q3 := fun w => a6_eq m w
  obtain ⟨d3, hd3⟩ : ∃ d, decide (m = A6.z) = d := ⟨_, rfl⟩
  have q2 : ((f.toNat : Int) != 1) = decide (f ≠ 1) := by
    by_cases h : f = 1
    · subst h; rfl
    · have : f.toNat ≠ 1 := fun h' => h (UInt8.toNat_inj.1 (by rw [h']; rfl))
      rw [decide_eq_true h]
      simp
      omega
  obtain ⟨d2, hd2⟩ : ∃ d, decide (f ≠ 1) = d := ⟨_, rfl⟩
  obtain ⟨d1, hd1⟩ : ∃ d, (E3 != 0) = d := ⟨_, rfl⟩
  rw [hd1, hd2, hd3] at hB
  rw [hd2] at q2
  simp only [hd3] at q3
  have hE : d1 = false → E3 = 0 := by rintro rfl; simpa using hd1
  have HB := Lib.hid (And.intro hB (fun h => hA (hE h)))
  clear hB hA hE a1 b1 a2 b2 c1 c2 c3 hd2 hd3
  have hbz : (w.alloc (.cells #[.int .u8 0, .int .u8 0, .int .u8 0, .int .u8 0, .int .u8 0, .int .u8 0] 24)).heap.size = w.heap.size + 1 := by simp
  go_enter Try.func54, Try.ntmps54
  go_wp2_with fail
  refine (of_any s).mono ?_
  rintro r w1 ⟨rfl, hr1, hb1⟩
  obtain ⟨b, hb⟩ : ∃ b, w.heap.size + 1 = b := ⟨_, rfl⟩
  rw [hbz] at hr1 hb1
  have HZ1 : Hid (Blk w1 w.heap.size 24 #[.int .u8 0, .int .u8 0, .int .u8 0, .int .u8 0, .int .u8 0, .int .u8 0]) := Lib.hid ((Blk.new w 24 #[.int .u8 0, .int .u8 0, .int .u8 0, .int .u8 0, .int .u8 0, .int .u8 0]).below hb1 (by omega))
  have HB1 : Hid (Below w.heap.size w w1) := Lib.hid (((Below.refl _ _).alloc (Nat.le_refl _) _).trans (hb1.mono (by omega)))
  rw [hb] at hr1
  have HR1 := Lib.hid hr1
  have HBB := Lib.hid hb
  simp only [hbz, hb]
  clear hr1 hb1 hbz hb
  go_wp2_with fail
  refine (K1.out _ _ HR1.out).mono ?_
  rintro r w2 ⟨rfl, hr2, hc2⟩
  have HR2 := Lib.hid hr2
  have HZ2 : Hid (Blk w2 w.heap.size 24 #[.int .u8 0, .int .u8 0, .int .u8 0, .int .u8 0, .int .u8 0, .int .u8 0]) := Lib.hid (HZ1.out.chg hc2 (by have := HBB.out; unfold only; omega))
  have HB2 : Hid (Below w.heap.size w w2) := Lib.hid (HB1.out.trans (hc2.belows HB1.out.size (by have := HBB.out; omega)))
  clear hr2 hc2 HR1 HZ1 HB1
  go_wp2_with fail
  refine (K2.out _ _ HR2.out).mono ?_
  rintro r w3 ⟨rfl, hr3, hc3⟩
  have HR3 : Hid (Rdr (w3.alloc (.cells #[.int .u8 m.a.toNat, .int .u8 m.b.toNat, .int .u8 m.c.toNat, .int .u8 m.d.toNat, .int .u8 m.e.toNat, .int .u8 m.f.toNat] 24)) b L2 E2) := Lib.hid (Blk.alloc hr3 _)
  have HZ3 : Hid (Blk (w3.alloc (.cells #[.int .u8 m.a.toNat, .int .u8 m.b.toNat, .int .u8 m.c.toNat, .int .u8 m.d.toNat, .int .u8 m.e.toNat, .int .u8 m.f.toNat] 24)) w.heap.size 24 #[.int .u8 0, .int .u8 0, .int .u8 0, .int .u8 0, .int .u8 0, .int .u8 0]) := Lib.hid ((HZ2.out.chg hc3 (by have := HBB.out; unfold only; omega)).alloc _)
  have HB3' : Hid (Below w.heap.size w w3) := Lib.hid (HB2.out.trans (hc3.belows HB2.out.size (by have := HBB.out; omega)))
  have HB3 : Hid (Below w.heap.size w (w3.alloc (.cells #[.int .u8 m.a.toNat, .int .u8 m.b.toNat, .int .u8 m.c.toNat, .int .u8 m.d.toNat, .int .u8 m.e.toNat, .int .u8 m.f.toNat] 24))) := Lib.hid (HB3'.out.alloc HB3'.out.size _)
  have HM3 := Lib.hid (Blk.new w3 24 #[.int .u8 m.a.toNat, .int .u8 m.b.toNat, .int .u8 m.c.toNat, .int .u8 m.d.toNat, .int .u8 m.e.toNat, .int .u8 m.f.toNat])
  have hg : b < w3.heap.size := Blk.lt hr3
  have HG := Lib.hid hg
  clear hr3 hc3 HR2 HZ2 HB2 HB3' hg
  go_wp2_with fail
  refine (K3.out _ _ HR3.out).mono ?_
  rintro r w4 ⟨rfl, hr4, hc4⟩
  have HZ4 : Hid (Blk w4 w.heap.size 24 #[.int .u8 0, .int .u8 0, .int .u8 0, .int .u8 0, .int .u8 0, .int .u8 0]) := Lib.hid (HZ3.out.chg hc4 (by have := HBB.out; unfold only; omega))
  have HM4 : Hid (Blk w4 w3.heap.size 24 #[.int .u8 m.a.toNat, .int .u8 m.b.toNat, .int .u8 m.c.toNat, .int .u8 m.d.toNat, .int .u8 m.e.toNat, .int .u8 m.f.toNat]) := Lib.hid (HM3.out.chg hc4 (by have := HG.out; unfold only; omega))
  have HB4 : Hid (Below w.heap.size w w4) := Lib.hid (HB3.out.trans (hc4.belows HB3.out.size (by have := HBB.out; omega)))
  clear hr4 hc4 HR3 HZ3 HB3 HM3
  have c0 := HZ4.out.cell 0
  have c1 := HZ4.out.cell 1
  have c2 := HZ4.out.cell 2
  have c3 := HZ4.out.cell 3
  have c4 := HZ4.out.cell 4
  have c5 := HZ4.out.cell 5
  simp only [List.getElem?_toArray, List.getElem?_cons_succ, List.getElem?_cons_zero] at c0 c1 c2 c3 c4 c5
  have f0 := HZ4.out.frozen 0
  have f1 := HZ4.out.frozen 1
  have f2 := HZ4.out.frozen 2
  have f3 := HZ4.out.frozen 3
  have f4 := HZ4.out.frozen 4
  have f5 := HZ4.out.frozen 5
  have y0 := HM4.out.cell 0
  have y1 := HM4.out.cell 1
  have y2 := HM4.out.cell 2
  have y3 := HM4.out.cell 3
  have y4 := HM4.out.cell 4
  have y5 := HM4.out.cell 5
  simp only [List.getElem?_toArray, List.getElem?_cons_succ, List.getElem?_cons_zero] at y0 y1 y2 y3 y4 y5
  cases d1
  · cases d2
    · cases d3
      · have HV : Hid (tpB s = true ∧ tpA s = m) := Lib.hid (by
          have h : tpB s = true := by simpa using HB.out.1
          exact ⟨h, by unfold tpA; rw [if_pos h]; exact (HB.out.2 rfl).2.symm⟩)
        go_wp2_with fail
        all_goals (
          exact bodyPost_ret (v := .tuple #[A6V m, .bool true]) (by simp [results, Try.results54, go_sem, c0, c1, c2, c3, c4, c5]) rfl ⟨by rw [HV.out.1, HV.out.2], put6_below HB4.out (Nat.le_refl _) _ _ _ _ _ _⟩)
      · have HV : Hid (tpB s = false ∧ tpA s = A6.z) := Lib.hid (by
          have h : tpB s = false := by simpa using HB.out.1
          exact ⟨h, by unfold tpA; rw [if_neg (by rw [h]; decide)]⟩)
        go_wp2_with fail
        all_goals (
          exact bodyPost_ret (v := .tuple #[.agg #[.int .u8 0, .int .u8 0, .int .u8 0, .int .u8 0, .int .u8 0, .int .u8 0], .bool false]) (by simp [results, Try.results54, go_sem, c0, c1, c2, c3, c4, c5]) rfl ⟨by rw [HV.out.1, HV.out.2]; rfl, put6_below HB4.out (Nat.le_refl _) _ _ _ _ _ _⟩)
    · have HV : Hid (tpB s = false ∧ tpA s = A6.z) := Lib.hid (by
        have h : tpB s = false := by simpa using HB.out.1
        exact ⟨h, by unfold tpA; rw [if_neg (by rw [h]; decide)]⟩)
      go_wp2_with fail
      all_goals (
        exact bodyPost_ret (v := .tuple #[.agg #[.int .u8 0, .int .u8 0, .int .u8 0, .int .u8 0, .int .u8 0, .int .u8 0], .bool false]) (by simp [results, Try.results54, go_sem, c0, c1, c2, c3, c4, c5]) rfl ⟨by rw [HV.out.1, HV.out.2]; rfl, put6_below HB4.out (Nat.le_refl _) _ _ _ _ _ _⟩)
  · have HV : Hid (tpB s = false ∧ tpA s = A6.z) := Lib.hid (by
      have h : tpB s = false := by simpa using HB.out.1
      exact ⟨h, by unfold tpA; rw [if_neg (by rw [h]; decide)]⟩)
    go_wp2_with fail
    all_goals (
      exact bodyPost_ret (v := .tuple #[.agg #[.int .u8 0, .int .u8 0, .int .u8 0, .int .u8 0, .int .u8 0, .int .u8 0], .bool false]) (by simp [results, Try.results54, go_sem, c0, c1, c2, c3, c4, c5]) rfl ⟨by rw [HV.out.1, HV.out.2]; rfl, put6_below HB4.out (Nat.le_refl _) _ _ _ _ _ _⟩)
end Go.Proofs.Ytieopgmmjpmflaa
