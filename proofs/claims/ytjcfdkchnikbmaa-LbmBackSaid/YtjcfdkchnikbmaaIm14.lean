/- Layer 14: package lbm's calls. -/
import Derived.Test.YtjcfdkchnikbmaaLaw14
import Derived.Maps.OwnSet
import Derived.BigQuiet
import Derived.Deep.QuietTactic
import Derived.Deep.RegionHeld3
import Derived.Deep.RegionLaw
import Derived.Laws.CopyOwn
import Derived.OwnWalk
namespace Go.Proofs.Ytjcfdkchnikbmaa
open Go.RowKit
open Go.Maps (Keyed)
set_option linter.unusedVariables false
set_option linter.unusedSimpArgs false
set_option maxRecDepth 100000

theorem operation_any (r : Bool) (w : World) :
    Calls Try.prog 18 #[.bool r] w fun e w' => e = .returned (.int .u8 (if r then (2 : UInt8) else 3).toNat) ∧ Below w.heap.size w w' := by
  cases r
  all_goals (
    go_enter Try.func18, Try.ntmps18
    go_wp2
    go_ret
    exact ⟨rfl, Below.refl _ _⟩)
theorem things_any (d : List UInt8) (w : World) :
    Calls Try.prog 19 #[.string ⟨d.toArray⟩] w fun e w' => ∃ A k, e = .returned (.slice A (if d = [] then [] else [(⟨3, d⟩ : Tl)]).length k) ∧ Els 2 tlV w' A (if d = [] then [] else [⟨3, d⟩]) ∧ (A = none → k = 0) ∧ (∀ a, A = some a → w.heap.size ≤ a.block) ∧ Below w.heap.size w w' := by
  by_cases h : d = []
  · subst h
    go_enter Try.func19, Try.ntmps19
    go_wp2
    go_ret
    exact ⟨none, 0, rfl, els_nilL _ _, fun _ => rfl, fun a h => (by cases h), Below.refl _ _⟩
  · rw [if_neg h]
    have hne : ((⟨d.toArray⟩ : ByteArray).toList == (⟨#[]⟩ : ByteArray).toList) = false := by
      rw [tl_strbeq d []]
      simpa using h
    have hne3 : d.isEmpty = false := by simpa using h
    clear h
    go_enter Try.func19, Try.ntmps19
    go_wp2
    go_ret
    exact ⟨_, 1, rfl, els_oneL w 52 ⟨3, d⟩ _ rfl, fun h => (by cases h), fun a h => (by cases h; exact Nat.le_refl _), (Below.refl _ _).alloc (Nat.le_refl _) _⟩
/-- a part as a map's element -/
def ptR : Value → Option (DataW Unit × List MemPlace)
  | .agg ⟨[.bool x]⟩ => some (.agg [.lit (.bool x)], [])
  | _ => none
theorem ptR_mk (x : Bool) : ptR (.agg #[.bool x]) = some (.agg [.lit (.bool x)], []) := rfl
theorem ptR_inv {v : Value} {y : DataW Unit × List MemPlace} (h : ptR v = some y) : ∃ x, v = .agg #[.bool x] ∧ y = (.agg [.lit (.bool x)], []) := by
  unfold ptR at h
  split at h
  · cases h; exact ⟨_, rfl, rfl⟩
  · cases h
theorem key_law14 : Keyed Try.prog 5 := Maps.int_keyed Try.underlying5
theorem key_ok14 (v : UInt8) : (Lit.int .u8 (v.toNat : Int)).wf = true := by
  have h := v.toNat_lt
  simp [Lit.wf, IntKind.has, IntKind.min, IntKind.max, IntKind.signed, IntKind.bits]
  omega
theorem key_at14 (v : UInt8) : keyOf Try.prog 5 (.int .u8 v.toNat) = some (.int .u8 v.toNat) := Maps.keyOf_int_mk Try.underlying5 (key_ok14 v)
theorem map_und14 : Try.prog.underlying 86 = some (.map 5 62) := Try.underlying86
theorem pt_zero (w : World) : (zeroValue 62).run Try.prog w = .ok (.agg #[.bool false]) w := by kernel_rfl
abbrev DP : DataW Unit := ((DataW.map []).put (.int .u8 (3 : UInt8).toNat) (.agg [.lit (.bool false)])).put (.int .u8 (2 : UInt8).toNat) (.agg [.lit (.bool true)])
theorem dp_has : ∀ o : Fin 256, Maps.has DP (.int .u8 (o.val : Nat)) = (decide (o.val = 2) || decide (o.val = 3)) := by decide +kernel
theorem dp_hasU (o : UInt8) : Maps.has DP (.int .u8 o.toNat) = (decide (o = 2) || decide (o = 3)) := by
  have h := dp_has ⟨o.toNat, o.toNat_lt⟩
  rw [h]
  have e2 : (o.toNat = 2) = (o = 2) := propext ⟨fun e => UInt8.toNat_inj.1 e, fun e => by rw [e]; rfl⟩
  have e3 : (o.toNat = 3) = (o = 3) := propext ⟨fun e => UInt8.toNat_inj.1 e, fun e => by rw [e]; rfl⟩
  simp only [e2, e3]
theorem dp_at : ∀ o : Fin 256, (match DP.atKey (.int .u8 (o.val : Nat)) (.agg [.lit (.bool false)]) with | .agg [.lit (.bool x)] => x == decide (o.val = 2) | _ => false) = true := by decide +kernel
theorem dp_atU (o : UInt8) {x : Bool} (h : DP.atKey (.int .u8 o.toNat) (.agg [.lit (.bool false)]) = .agg [.lit (.bool x)]) : x = decide (o = 2) := by
  have h' := dp_at ⟨o.toNat, o.toNat_lt⟩
  simp only [h] at h'
  have e2 : (o.toNat = 2) = (o = 2) := propext ⟨fun e => UInt8.toNat_inj.1 e, fun e => by rw [e]; rfl⟩
  simp only [e2, beq_iff_eq] at h'
  exact h'
/-- block b is the map of parts -/
def Pmap (w : World) (b : Nat) : Prop := w.ownsMap Try.prog 5 ptR b 2 DP
theorem Pmap.next {w w' : World} {b : Nat} (h : Pmap w b) (hc : Below w.heap.size w w') : Pmap w' b := by
  have hl := World.ownsMap.lt h
  obtain ⟨es, clock, hb, r⟩ := h
  exact ⟨es, clock, (hc.block b hl).trans hb, r⟩
theorem Pmap.run {w : World} {b : Nat} (h : Pmap w b) (o : UInt8) : (Instr.lookup 86 (.map (some b)) (.int .u8 o.toNat) true).run Try.prog w = .ok (.tuple #[.agg #[.bool (decide (o = 2))], .bool (decide (o = 2) || decide (o = 3))]) w := by
  obtain ⟨x, ps, hr, hx⟩ := World.ownsMap.look_ok h key_law14 map_und14 (pt_zero w) (ptR_mk false) (key_at14 o)
  rw [dp_hasU] at hr
  obtain ⟨y, rfl, he⟩ := ptR_inv hx
  simp only [Prod.mk.injEq] at he
  obtain rfl := dp_atU o he.1
  exact hr
theorem below_turned {w w' : World} {b B : Nat} {w0 : World} (hb : Below B w0 w) (h : w.mapTurned w' b) (hB : B ≤ b) : Below B w0 w' := by
  refine hb.grown h.grown (Nat.le_trans ?_ (Nat.le_refl _)) (fun j ej => by cases ej; exact hB)
  obtain ⟨es, clock, es', clock', h1, rfl⟩ := h
  exact Nat.le_trans hB (Nat.le_of_lt (Array.getElem?_eq_some_iff.1 h1).1)
set_option maxHeartbeats 1000000 in
theorem parts_any (w : World) :
    Calls Try.prog 37 #[] w fun e w' => ∃ b, e = .returned (.map (some b)) ∧ Pmap w' b ∧ Below w.heap.size w w' := by
  have hmm := @run_makeMap Try.prog
  have h0 := World.ownsMap_made (H := Unit) w Try.prog 5 ptR
  have b0 : Below w.heap.size w (w.alloc (.map #[] 0)) := (Below.refl _ _).alloc (Nat.le_refl _) _
  obtain ⟨w1, hr1, ho1, ht1⟩ := World.ownsMap.store h0 key_law14 map_und14 (by unfold maxLen; omega) (key_at14 3) (ptR_mk false)
  obtain ⟨w2, hr2, ho2, ht2⟩ := World.ownsMap.store ho1 key_law14 map_und14 (by unfold maxLen; omega) (key_at14 2) (ptR_mk true)
  have HB : Hid (Below w.heap.size w w2) := Lib.hid (below_turned (below_turned b0 ht1 (Nat.le_refl _)) ht2 (Nat.le_refl _))
  have HP : Hid (Pmap w2 w.heap.size) := Lib.hid ho2
  have r1 : (Instr.mapUpdate 86 (.map (some w.heap.size)) (.int .u8 3) (.agg #[.bool false])).run Try.prog (w.alloc (.map #[] 0)) = .ok () w1 := hr1
  have r2 : (Instr.mapUpdate 86 (.map (some w.heap.size)) (.int .u8 2) (.agg #[.bool true])).run Try.prog w1 = .ok () w2 := hr2
  clear h0 ho1 ho2 ht1 ht2 b0 hr1 hr2
  go_enter Try.func37, Try.ntmps37
  go_wp2
  go_ret
  exact ⟨_, rfl, HP.out, HB.out⟩
theorem tk_go14 {n : Nat} {l : List UInt8} (h : n ≤ l.length) : tkV n l 0 = l.take n ∧ tkL n l 0 = l.drop n ∧ tkE n l 0 = 0 :=
  ⟨by simp [tkV, h], by simp [tkL, h], by simp [tkE]; omega⟩
theorem rd_is (s : List UInt8) : (decide (ndE (tkL 4 s 0) (tkE 4 s 0) = 0)) = decide (s.length = 4) := by
  rw [Bool.eq_iff_iff]
  simp only [decide_eq_true_eq]
  by_cases h1 : 4 ≤ s.length
  · obtain ⟨v1, l1, e1⟩ := tk_go14 h1
    rw [l1, e1]
    unfold ndE
    simp only [List.length_drop]
    by_cases h2 : s.length = 4
    · rw [if_neg (by omega)]
      exact ⟨fun _ => h2, fun _ => rfl⟩
    · rw [if_pos (by first | exact ⟨rfl, by omega⟩ | exact ⟨trivial, by omega⟩ | omega)]
      exact ⟨fun h => absurd h (by decide), fun h => absurd h h2⟩
  · have e1 : tkE 4 s 0 = 3 := by unfold tkE; rw [if_pos ⟨rfl, by omega⟩]
    rw [e1]
    unfold ndE
    rw [if_neg (by omega)]
    exact ⟨fun h => absurd h (by decide), fun h => by omega⟩
theorem u32r14_any {w : World} {b : Nat} {l : List UInt8} {er : Int} (h : Rdr w b l er) :
    Calls Try.prog 38 #[.pointer (some ⟨b, 0, none⟩)] w fun e w' => e = .returned (.int .u32 ((UInt32.ofNat (num (tkV 4 l er))).toNat)) ∧ Rdr w' b (tkL 4 l er) (tkE 4 l er) ∧ Chg (only b) w w' := by
  have hlt : num (tkV 4 l er) < 4294967296 := Nat.lt_of_lt_of_le (num_lt _) (Nat.pow_le_pow_right (by omega) (tkV_len 4 l er) : _ ≤ 256 ^ 4)
  refine (u32_any h).mono ?_
  rintro e w' ⟨rfl, hr, hc⟩
  exact ⟨by rw [UInt32.toNat_ofNat', Nat.mod_eq_of_lt hlt], hr, hc⟩
theorem results_cell_slot2 {P : Program} {fn : Func} {p q q2 : Tmp} {ty : TypeId} (h : fn.results = #[.cell p ty, .tmp q, .tmp q2]) (tmps : Array Value) (w : World) (g : Nat) (t : TypeId) (cs : Array Value) (d : TypeDesc)
    (hp : tmps.getD p undef = .pointer (some ⟨g, 0, none⟩)) (hg : Blk w g t cs)
    (hu : P.underlying ty = some d) (hd : (match d with | .struct _ | .array _ _ => true | _ => false) = true) (hi : (P.info? ty).map (·.size) = some cs.size) (v v2 : Value) (hq : tmps.getD q undef = v) (hq2 : tmps.getD q2 undef = v2) :
    (results fn tmps).run P w = .ok (.tuple #[.agg cs, v, v2]) w := by
  have hp' : tmps[p]?.getD undef = .pointer (some ⟨g, 0, none⟩) := by simpa using hp
  have hq' : tmps[q]?.getD undef = v := by simpa using hq
  have hq2' : tmps[q2]?.getD undef = v2 := by simpa using hq2
  simp [results, h, hp', hq', hq2', asAddr, run_loadVar_row w g t ty cs (0, 0) d hg hu hd hi]
set_option maxHeartbeats 4000000 in
theorem read_any (A : Option Addr) (n k : Nat) (p : Pd) (w : World) :
    Calls Try.prog 21 #[.agg #[.int .u8 p.l.toNat, .int .u8 p.o.toNat, .int .u8 p.g.toNat, .string ⟨p.x.toArray⟩, .slice A n k]] w fun e w' => e = .returned (.tuple #[.agg #[.bool (decide (p.o = 2))], .int .u32 (UInt32.ofNat (num (tkV 4 p.x 0))).toNat, .bool (decide (lkF p = 0))]) ∧ Below w.heap.size w w' := by
  have HB0 : Hid (Below w.heap.size w ((w.alloc (.cells #[.int .u8 p.l.toNat, .int .u8 p.o.toNat, .int .u8 p.g.toNat, .string ⟨p.x.toArray⟩, .slice A n k] 28)).alloc (.cells #[.bool false] 62))) := Lib.hid (((Below.refl _ _).alloc (Nat.le_refl _) _).alloc (by simp) _)
  have HK0 : Hid (Blk ((w.alloc (.cells #[.int .u8 p.l.toNat, .int .u8 p.o.toNat, .int .u8 p.g.toNat, .string ⟨p.x.toArray⟩, .slice A n k] 28)).alloc (.cells #[.bool false] 62)) w.heap.size 28 #[.int .u8 p.l.toNat, .int .u8 p.o.toNat, .int .u8 p.g.toNat, .string ⟨p.x.toArray⟩, .slice A n k]) := Lib.hid ((Blk.new _ _ _).alloc _)
  have HR0 : Hid (Blk ((w.alloc (.cells #[.int .u8 p.l.toNat, .int .u8 p.o.toNat, .int .u8 p.g.toNat, .string ⟨p.x.toArray⟩, .slice A n k] 28)).alloc (.cells #[.bool false] 62)) (w.heap.size + 1) 62 #[.bool false]) := Lib.hid (by
    have := Blk.new (w.alloc (.cells #[.int .u8 p.l.toNat, .int .u8 p.o.toNat, .int .u8 p.g.toNat, .string ⟨p.x.toArray⟩, .slice A n k] 28)) 62 #[.bool false]
    simpa using this)
  have K1 := Lib.hid (fun w => parts_any w)
  have K2 := Lib.hid (fun w b => @u32r14_any w b p.x 0)
  have K3 := Lib.hid (fun w b => @end_any w b (tkL 4 p.x 0) (tkE 4 p.x 0))
  have hL : ∃ L E, decide (lkF p = 0) = L ∧ ndE (tkL 4 p.x 0) (tkE 4 p.x 0) = E ∧ ((decide (p.o = 2) || decide (p.o = 3)) = true → L = decide (E = 0)) ∧ ((decide (p.o = 2) || decide (p.o = 3)) = false → L = false) := by
    refine ⟨_, _, rfl, rfl, fun ho => ?_, fun ho => ?_⟩
    · rw [rd_is p.x]
      have ho' : p.o = 2 ∨ p.o = 3 := by simpa using ho
      unfold lkF
      by_cases h4 : p.x.length = 4
      · rw [if_pos ⟨ho', h4⟩]; simp [h4]
      · rw [if_neg (fun h => h4 h.2)]; simp [h4]
    · have ho' : ¬ (p.o = 2 ∨ p.o = 3) := by
        intro h
        rw [show (decide (p.o = 2) || decide (p.o = 3)) = true by simpa using h] at ho
        cases ho
      unfold lkF
      rw [if_neg (fun h => ho' h.1)]
      rfl
  obtain ⟨L, E, hL, hE, hT, hF⟩ := hL
  obtain ⟨q, hq⟩ : ∃ q, UInt32.ofNat (num (tkV 4 p.x 0)) = q := ⟨_, rfl⟩
  rw [hq] at K2
  rw [hE] at K3
  rw [hL, hq]
  have HTF := Lib.hid (And.intro hT hF)
  clear hL hq hE hT hF
  obtain ⟨L4, h4⟩ : ∃ l, tkL 4 p.x 0 = l := ⟨_, rfl⟩
  obtain ⟨E4, h5⟩ : ∃ l, tkE 4 p.x 0 = l := ⟨_, rfl⟩
  rw [h4, h5] at K2 K3
  clear h4 h5
  obtain ⟨two, h2⟩ : ∃ b, decide (p.o = 2) = b := ⟨_, rfl⟩
  obtain ⟨is, hI⟩ : ∃ b, (two || decide (p.o = 3)) = b := ⟨_, rfl⟩
  rw [h2] at HTF ⊢
  rw [hI] at HTF
  have HTW := Lib.hid (And.intro h2 hI)
  clear h2 hI
  have k0 := HK0.out.cell 0
  have k1 := HK0.out.cell 1
  have k2 := HK0.out.cell 2
  have k3 := HK0.out.cell 3
  have k4 := HK0.out.cell 4
  simp only [List.getElem?_toArray, List.getElem?_cons_succ, List.getElem?_cons_zero] at k0 k1 k2 k3 k4
  clear k0 k2 k3 k4
  go_enter Try.func21, Try.ntmps21
  go_upto_region 1 with (fail)
  go_cut [5, 6] (fun a5 a6 wx => ∃ g, a5 = .pointer (some ⟨g, 0, none⟩) ∧ a6 = .bool is ∧ Hid (w.heap.size + 1 < g) ∧ Hid (Blk wx g 62 #[.bool two]) ∧ Hid (Blk wx w.heap.size 28 #[.int .u8 p.l.toNat, .int .u8 p.o.toNat, .int .u8 p.g.toNat, .string ⟨p.x.toArray⟩, .slice A n k]) ∧ Hid (Blk wx (w.heap.size + 1) 62 #[.bool false]) ∧ Hid (Below w.heap.size w wx))
  case first =>
    have HK2 : Hid (Blk (((w.alloc (.cells #[.int .u8 p.l.toNat, .int .u8 p.o.toNat, .int .u8 p.g.toNat, .string ⟨p.x.toArray⟩, .slice A n k] 28)).alloc (.cells #[.bool false] 62)).alloc (.cells #[.bool false] 62)).drew w.heap.size 28 #[.int .u8 p.l.toNat, .int .u8 p.o.toNat, .int .u8 p.g.toNat, .string ⟨p.x.toArray⟩, .slice A n k]) := Lib.hid (Blk.drew (Blk.alloc HK0.out _))
    have HR2 : Hid (Blk (((w.alloc (.cells #[.int .u8 p.l.toNat, .int .u8 p.o.toNat, .int .u8 p.g.toNat, .string ⟨p.x.toArray⟩, .slice A n k] 28)).alloc (.cells #[.bool false] 62)).alloc (.cells #[.bool false] 62)).drew (w.heap.size + 1) 62 #[.bool false]) := Lib.hid (Blk.drew (Blk.alloc HR0.out _))
    have HB2 : Hid (Below w.heap.size w (((w.alloc (.cells #[.int .u8 p.l.toNat, .int .u8 p.o.toNat, .int .u8 p.g.toNat, .string ⟨p.x.toArray⟩, .slice A n k] 28)).alloc (.cells #[.bool false] 62)).alloc (.cells #[.bool false] 62)).drew) := Lib.hid (HB0.out.alloc HB0.out.size _).drew
    have HG2 : Hid (Blk (((w.alloc (.cells #[.int .u8 p.l.toNat, .int .u8 p.o.toNat, .int .u8 p.g.toNat, .string ⟨p.x.toArray⟩, .slice A n k] 28)).alloc (.cells #[.bool false] 62)).alloc (.cells #[.bool false] 62)).drew (w.heap.size + 1 + 1) 62 #[.bool false]) := Lib.hid (by
      have := Blk.drew (Blk.new ((w.alloc (.cells #[.int .u8 p.l.toNat, .int .u8 p.o.toNat, .int .u8 p.g.toNat, .string ⟨p.x.toArray⟩, .slice A n k] 28)).alloc (.cells #[.bool false] 62)) 62 #[.bool false])
      simpa using this)
    have k1a := Blk.cell HK2.out 1
    simp only [List.getElem?_toArray, List.getElem?_cons_succ, List.getElem?_cons_zero] at k1a
    go_region_law (first
      | (go_simp; go_at_call 37; refine (K1.out _).mono ?_; rintro r w_ ⟨b_, rfl, hp_, hb_⟩
         have HP_ := Lib.hid hp_
         have hl_ := hp_.run p.o; rw [HTW.out.1, HTW.out.2] at hl_
         have hla_ := (hp_.next ((Below.refl _ _).alloc (Nat.le_refl _) (.cells #[.bool false] 62))).run p.o; rw [HTW.out.1, HTW.out.2] at hla_
         have HK_ := Lib.hid (Blk.below (Blk.drew HK0.out) hb_ (Blk.drew HK0.out).lt)
         have HR_ := Lib.hid (Blk.below (Blk.drew HR0.out) hb_ (Blk.drew HR0.out).lt)
         have HB_ := Lib.hid (HB0.out.drew.trans (hb_.mono HB0.out.drew.size))
         have k_ := Blk.cell HK_.out 1
         have ka_ := Blk.cell (Blk.alloc HK_.out (.cells #[.bool false] 62)) 1
         simp only [List.getElem?_toArray, List.getElem?_cons_succ, List.getElem?_cons_zero] at k_ ka_
         clear hb_ hp_)
      | (go_simp; go_at_call 37; refine (K1.out _).mono ?_; rintro r w_ ⟨b_, rfl, hp_, hb_⟩
         have HK_ := Lib.hid (Blk.below HK2.out hb_ HK2.out.lt)
         have HR_ := Lib.hid (Blk.below HR2.out hb_ HR2.out.lt)
         have HG_ := Lib.hid (Blk.below HG2.out hb_ HG2.out.lt)
         have HB_ := Lib.hid (HB2.out.trans (hb_.mono HB2.out.size))
         have HP_ := Lib.hid hp_
         have hl_ := hp_.run p.o; rw [HTW.out.1, HTW.out.2] at hl_
         have k_ := Blk.cell HK_.out 1
         have g_ := Blk.cell HG_.out 0
         have gf_ := Blk.frozen HG_.out 0
         simp only [List.getElem?_toArray, List.getElem?_cons_succ, List.getElem?_cons_zero] at k_ g_
         clear hb_ hp_)
      | fail "no")
    all_goals (
      go_wp2_with fail
      go_meet
      first
        | exact ⟨_, rfl, rfl, Lib.hid HR_.out.lt, Lib.hid (Blk.new _ _ _), Lib.hid (HK_.out.alloc _), Lib.hid (HR_.out.alloc _), Lib.hid (HB_.out.alloc HB_.out.size _)⟩
        | exact ⟨_, rfl, rfl, Lib.hid (by omega), Lib.hid (by simpa using HG_.out.put 0 (.bool two)), Lib.hid (HK_.out.far (p := ⟨w.heap.size + 1 + 1, 0, none⟩) (by show w.heap.size ≠ w.heap.size + 1 + 1; omega) _), Lib.hid (HR_.out.far (p := ⟨w.heap.size + 1 + 1, 0, none⟩) (by show w.heap.size + 1 ≠ w.heap.size + 1 + 1; omega) _), Lib.hid (HB_.out.setCell (p := ⟨w.heap.size + 1 + 1, 0, none⟩) (by show w.heap.size ≤ w.heap.size + 1 + 1; omega) _)⟩)
  obtain ⟨g, rfl, rfl, HLT, HG, HK, HR, HB⟩ := hcut
  clear HB0 HK0 HR0 K1 k1
  have k3 := HK.out.cell 3
  simp only [List.getElem?_toArray, List.getElem?_cons_succ, List.getElem?_cons_zero] at k3
  go_wp2_with fail
  refine (of_any p.x).mono ?_
  rintro r w1 ⟨rfl, hr1, hb1⟩
  have hlt := HG.out.lt
  have HG1 := Lib.hid (HG.out.below hb1 HG.out.lt)
  have HR1 := Lib.hid (HR.out.below hb1 HR.out.lt)
  have HB1 := Lib.hid (HB.out.trans (hb1.mono HB.out.size))
  obtain ⟨c, hc⟩ : ∃ c, wc.heap.size = c := ⟨_, rfl⟩
  rw [hc] at hr1 hlt
  have HCG := Lib.hid hlt
  clear hb1 HG HK HR HB k3 hlt
  rw [hc]
  have HC := Lib.hid hc
  clear hc
  go_wp2_with fail
  refine (K2.out _ _ hr1).mono ?_
  rintro r w2 ⟨rfl, hr2, hc2⟩
  have HG2 : Hid (Blk w2.drew g 62 #[.bool two]) := Lib.hid (Blk.drew (HG1.out.chg hc2 (by have := HCG.out; unfold only; omega)))
  have HR2 : Hid (Blk w2.drew (w.heap.size + 1) 62 #[.bool false]) := Lib.hid (Blk.drew (HR1.out.chg hc2 (by have := HCG.out; have := HLT.out; unfold only; omega)))
  have HB2 : Hid (Below w.heap.size w w2.drew) := Lib.hid ((HB1.out.trans (Chg.below (hc2.mono (S' := only c) (fun _ _ h => h)) HB1.out.size (fun k hk hs => by have := HCG.out; have := HLT.out; unfold only at hs; omega))).drew)
  have HR3 : Hid (Rdr w2.drew c L4 E4) := Lib.hid (Blk.drew hr2)
  have g0 := HG2.out.cell 0
  have r0 := HR2.out.cell 0
  have rf := HR2.out.frozen 0
  simp only [List.getElem?_toArray, List.getElem?_cons_succ, List.getElem?_cons_zero] at g0 r0
  clear hr1 hc2 HG1 HR1 HB1 hr2 K2 HTW
  cases is
  · obtain rfl := HTF.out.2 rfl
    go_wp2_with fail
    go_region
    all_goals (
      go_wp2_with fail
      have HR6 : Blk (w2.drew.setCell ⟨w.heap.size + 1, 0, none⟩ (.bool two)) (w.heap.size + 1) 62 #[.bool two] := by simpa using HR2.out.put 0 (.bool two)
      refine bodyPost_ret (v := .tuple #[.agg #[.bool two], .int .u32 q.toNat, .bool false]) (results_cell_slot2 (p := 2) (q := 3) (q2 := 4) (by kernel_rfl) _ _ (w.heap.size + 1) 62 _ _ rfl HR6 Try.underlying62 rfl (by kernel_rfl) _ _ rfl rfl) rfl ?_
      exact ⟨rfl, HB2.out.setCell (p := ⟨w.heap.size + 1, 0, none⟩) (by show w.heap.size ≤ w.heap.size + 1; omega) _⟩)
  · obtain rfl := HTF.out.1 rfl
    go_wp2_with fail
    go_region_law (first
      | (go_simp; go_at_call 39; refine (K3.out _ _ HR3.out).mono ?_; rintro r w_ ⟨rfl, hr_, hc_⟩
         have HG_ : Hid (Blk w_ g 62 #[.bool two]) := Lib.hid (HG2.out.chg hc_ (by have := HCG.out; unfold only; omega))
         have HR_ : Hid (Blk w_ (w.heap.size + 1) 62 #[.bool false]) := Lib.hid (HR2.out.chg hc_ (by have := HCG.out; have := HLT.out; unfold only; omega))
         have HB_ : Hid (Below w.heap.size w w_) := Lib.hid (HB2.out.trans (Chg.below (hc_.mono (S' := only c) (fun _ _ h => h)) HB2.out.size (fun k hk hs => by have := HCG.out; have := HLT.out; unfold only at hs; omega)))
         have g_ := HG_.out.cell 0
         have r_ := HR_.out.cell 0
         have rf_ := HR_.out.frozen 0
         simp only [List.getElem?_toArray, List.getElem?_cons_succ, List.getElem?_cons_zero] at g_ r_
         clear hr_ hc_)
      | fail "no")
    all_goals (
      go_wp2_with fail
      have HR6 : Blk (w_.setCell ⟨w.heap.size + 1, 0, none⟩ (.bool two)) (w.heap.size + 1) 62 #[.bool two] := by simpa using HR_.out.put 0 (.bool two)
      refine bodyPost_ret (v := .tuple #[.agg #[.bool two], .int .u32 q.toNat, .bool (decide (E = 0))]) (results_cell_slot2 (p := 2) (q := 3) (q2 := 4) (by kernel_rfl) _ _ (w.heap.size + 1) 62 _ _ rfl HR6 Try.underlying62 rfl (by kernel_rfl) _ _ rfl rfl) rfl ?_
      exact ⟨rfl, HB_.out.setCell (p := ⟨w.heap.size + 1, 0, none⟩) (by show w.heap.size ≤ w.heap.size + 1; omega) _⟩)
section
variable {P : Program}
theorem run_copy_fullK (w : World) (dT sT ty elem : TypeId) (k g n dCap sCap : Nat) (sp : Option Addr) (cur : Array Value) (t : TypeId) (cs : List Value)
    (hk : 0 < k) (hu : P.underlying dT = some (.slice elem)) (hs : (P.info? elem).map (·.size) = some k)
    (hg : w.heap[g]? = some (.cells cur t (0, 0))) (hcur : cur.size = n * k) (hn : cs.length = n * k)
    (hsrc : 0 < n → ∃ ad, sp = some ad ∧ ∀ j v, cs[j]? = some v → w.cell? (ad.add j) = some v) (h1 : ∀ v ∈ cs, v.oneCell' = true) :
    (Builtin.copy_ #[dT, sT] ty #[.slice (some ⟨g, 0, none⟩) n dCap, .slice sp n sCap]).run P w = .ok (goInt n) (w.setRow g cs.toArray) := by
  cases hq : P.info? elem with
  | none => simp [hq] at hs
  | some i =>
    have hi : i.size = k := by simpa [hq] using hs
    rcases Nat.eq_zero_or_pos n with h0 | h0
    · subst h0
      obtain rfl : cs = [] := List.eq_nil_of_length_eq_zero (by simpa using hn)
      obtain rfl : cur = #[] := Array.eq_empty_of_size_eq_zero (by simpa using hcur)
      rw [setRow_self w g #[] t (0, 0) hg]
      cases sp with
      | none => simp [Builtin.copy_, run_underlying hu, Builtin.lenOf, Builtin.firstCells, sizeOf, typeInfo, hq, storeCells]
      | some ad =>
        have hl := run_loadCells_list (P := P) (w := w) ad [] (by simp)
        simp at hl
        simp [Builtin.copy_, run_underlying hu, Builtin.lenOf, Builtin.firstCells, sizeOf, typeInfo, hq, storeCells, hl]
    · obtain ⟨ad, rfl, hc⟩ := hsrc h0
      have hl := run_loadCells_list (P := P) (w := w) ad cs hc
      have hst := run_storeCells_at P g 0 t cs 0 cur w hg (by simp; omega) h1
      have hd : cur.toList.drop cs.length = [] := by rw [List.drop_eq_nil_iff]; simp; omega
      simp only [Nat.add_zero, Nat.zero_add, List.take_zero, List.nil_append, hd, List.append_nil] at hst
      rw [hn] at hl
      simp [Builtin.copy_, run_underlying hu, Builtin.lenOf, Builtin.firstCells, sizeOf, typeInfo, hq, hi, hl, hst]
end
theorem els_blk14 {w : World} {g : Nat} {t : TypeId} {l : List Tl} (h : Blk w g t (l.flatMap tlV).toArray) : Els 2 tlV w (some ⟨g, 0, none⟩) l := by
  intro _
  refine ⟨g, 0, rfl, h.lt, fun i hi j v hv => ?_⟩
  have hj : j < 2 := by
    have := (List.getElem?_eq_some_iff.1 hv).1
    rwa [tlV_len] at this
  have := h.cell (i * 2 + j)
  rw [Nat.zero_add, this, List.getElem?_toArray, flat_at 2 tlV tlV_len l i hi j hj]
  exact hv
theorem tl_info14 : (Try.prog.info? 52).map (fun i => (i.zero, i.size, i.bytes)) = some (some (.agg #[.int .u8 0, .string ⟨#[]⟩]), 2, 24) := by kernel_rfl
set_option maxHeartbeats 2000000 in
theorem copied_any (A : Option Addr) (n k : Nat) (l : List Tl) (hl : l.length = n) (h1000 : n ≤ 1000) (w : World) (hE : Els 2 tlV w A l) :
    Calls Try.prog 25 #[.slice A n k] w fun e w' => ∃ B, e = .returned (.slice (some ⟨B, 0, none⟩) n n) ∧ w.heap.size ≤ B ∧ Els 2 tlV w' (some ⟨B, 0, none⟩) l ∧ Below w.heap.size w w' := by
  have HE := Lib.hid hE
  have HL := Lib.hid hl
  clear hE hl
  obtain ⟨i, hi, hz0, hz1, hz2⟩ := info_parts tl_info14
  go_enter Try.func25, Try.ntmps25
  go_wp2_with (at_make; refine wpList_make_full _ rfl _ _ 26 rfl w.heap.size 52 i _ 2 Try.underlying26 hi hz0 hz1 _ _ _ _ n rfl rfl rfl rfl (by rw [hz2]; omega) (by simp only [maxLen]; omega) (Nat.le_refl _) ?_)
  intro w1 hown hg
  have HB1 : Hid (Below w.heap.size w w1) := Lib.hid ((Below.refl _ _).grown hg (Nat.le_refl _) (fun k hk => by cases hk))
  have hx : ∃ cur, w1.heap[w.heap.size]? = some (.cells cur 52 (0, 0)) ∧ cur.size = n * 2 := by
    rcases hown.2 with ⟨h, _⟩ | ⟨g, cap, cur, h, _, h2, _, _, h3, _⟩
    · cases h
    · simp only [Value.slice.injEq, Option.some.injEq, Addr.mk.injEq] at h
      obtain ⟨⟨rfl, _⟩, _, rfl⟩ := h
      exact ⟨cur, h2, h3⟩
  obtain ⟨cur, h1, h2⟩ := hx
  have HE1 := Lib.hid (HE.out.next HB1.out)
  have hf := flatL tlV_len l
  rw [HL.out] at hf
  have hsrc : 0 < n → ∃ ad, A = some ad ∧ ∀ j v, (l.flatMap tlV)[j]? = some v → w1.cell? (ad.add j) = some v := fun h => elsL_src tlV_len (by omega) HE1.out (by rw [HL.out]; exact h)
  have hone : ∀ v ∈ l.flatMap tlV, v.oneCell' = true := by
    intro v hv
    obtain ⟨x, _, hx⟩ := List.mem_flatMap.1 hv
    exact tlV_one x v hx
  have HS := Lib.hid (And.intro h1 (And.intro h2 (And.intro hf (And.intro hsrc hone))))
  clear hown hg h1 h2 hf hsrc hone hz0 hz1 hz2 hi
  have hcp : (Builtin.copy_ #[26, 26] 3 #[.slice (some ⟨w.heap.size, 0, none⟩) n n, .slice A n k]).run Try.prog w1 = .ok (.int .i64 n) (w1.setRow w.heap.size (l.flatMap tlV).toArray) := run_copy_fullK (P := Try.prog) w1 26 26 3 52 2 w.heap.size n n k A cur 52 (l.flatMap tlV) (by omega) Try.underlying26 (by kernel_rfl) HS.out.1 HS.out.2.1 HS.out.2.2.1 HS.out.2.2.2.1 HS.out.2.2.2.2
  have HB2 : Hid (Below w.heap.size w (w1.setRow w.heap.size (l.flatMap tlV).toArray)) := Lib.hid (below_setRow HB1.out (Nat.le_refl _) _)
  have HE2 : Hid (Els 2 tlV (w1.setRow w.heap.size (l.flatMap tlV).toArray) (some ⟨w.heap.size, 0, none⟩) l) := Lib.hid (els_blk14 (setRow_heap w1 w.heap.size cur _ 52 (0, 0) HS.out.1))
  obtain ⟨w2, hw2⟩ : ∃ w2, w1.setRow w.heap.size (l.flatMap tlV).toArray = w2 := ⟨_, rfl⟩
  rw [hw2] at HB2 HE2 hcp
  clear HS hw2
  go_wp2
  go_ret
  exact ⟨_, rfl, Nat.le_refl _, HE2.out, HB2.out⟩
theorem keepP14 {W w w' : World} (g g2 : Nat) (o : Lo) (h0 : w.cell? ⟨g, 0, none⟩ = some (.int .u8 o.l.toNat)) (h1 : w.cell? ⟨g, 1, none⟩ = some (.bool o.r)) (h2 : w.cell? ⟨g, 2, none⟩ = some (.int .u32 o.q.toNat)) (h3 : w.cell? ⟨g, 3, none⟩ = some (.string ⟨o.d.toArray⟩)) (hE0 : Hid (Blk w g2 28 #[.int .u8 0, .int .u8 0, .int .u8 0, .string ⟨#[]⟩, .slice none 0 0])) (hB : Hid (Below W.heap.size W w)) (hb : Below w.heap.size w w') : w'.cell? ⟨g, 0, none⟩ = some (.int .u8 o.l.toNat) ∧ w'.cell? ⟨g, 1, none⟩ = some (.bool o.r) ∧ w'.cell? ⟨g, 2, none⟩ = some (.int .u32 o.q.toNat) ∧ w'.cell? ⟨g, 3, none⟩ = some (.string ⟨o.d.toArray⟩) ∧ Hid (Blk w' g2 28 #[.int .u8 0, .int .u8 0, .int .u8 0, .string ⟨#[]⟩, .slice none 0 0]) ∧ Hid (Below W.heap.size W w') := by
  have hk : ∀ {g i : Nat} {v : Value}, w.cell? ⟨g, i, none⟩ = some v → w'.cell? ⟨g, i, none⟩ = some v := fun {g i v} h => (hb.cell (p := ⟨g, i, none⟩) (World.block_lt_of_cell? w _ h)).trans h
  exact ⟨hk h0, hk h1, hk h2, hk h3, Lib.hid (hE0.out.below hb hE0.out.lt), Lib.hid (hB.out.trans (hb.mono hB.out.size))⟩
theorem put32s14 (q : UInt32) (w : World) :
    Calls Try.prog 17 #[.slice none 0 0, .int .u32 q.toNat] w fun e w' => ∃ v, e = .returned v ∧ Str w' v (dig 4 q.toNat) ∧ Below w.heap.size w w' := by
  have := q.toNat_lt
  refine (put32_any (w := w) none 0 [] (q.toNat : Int) (Byt.nil_ _ _) (fun _ => rfl) (by simp) (by omega) (by omega)).mono ?_
  rintro e w' ⟨v, rfl, ho, hb⟩
  have hs := ho.str
  rw [show ([] ++ dig 4 ((q.toNat : Int)).toNat) = dig 4 q.toNat by simp] at hs
  exact ⟨v, rfl, hs, hb⟩
theorem operation_same (r : Bool) (w : World) :
    Calls Try.prog 18 #[.bool r] w fun e w' => e = .returned (.int .u8 (if r then (2 : UInt8) else 3).toNat) ∧ w = w' := by
  cases r
  all_goals (
    go_enter Try.func18, Try.ntmps18
    go_wp2
    go_ret
    exact ⟨rfl, rfl⟩)
set_option maxHeartbeats 4000000 in
theorem lbput_impl : LbPutC := by
  intro o w hd
  have HB0 : Hid (Below w.heap.size w ((w.alloc (.cells #[.int .u8 o.l.toNat, .bool o.r, .int .u32 o.q.toNat, .string ⟨o.d.toArray⟩] 32)).alloc (.cells #[.int .u8 0, .int .u8 0, .int .u8 0, .string ⟨#[]⟩, .slice none 0 0] 28))) := Lib.hid (((Below.refl _ _).alloc (Nat.le_refl _) _).alloc (by simp) _)
  have HK0 : Hid (Blk ((w.alloc (.cells #[.int .u8 o.l.toNat, .bool o.r, .int .u32 o.q.toNat, .string ⟨o.d.toArray⟩] 32)).alloc (.cells #[.int .u8 0, .int .u8 0, .int .u8 0, .string ⟨#[]⟩, .slice none 0 0] 28)) w.heap.size 32 #[.int .u8 o.l.toNat, .bool o.r, .int .u32 o.q.toNat, .string ⟨o.d.toArray⟩]) := Lib.hid ((Blk.new _ _ _).alloc _)
  have HR0 : Hid (Blk ((w.alloc (.cells #[.int .u8 o.l.toNat, .bool o.r, .int .u32 o.q.toNat, .string ⟨o.d.toArray⟩] 32)).alloc (.cells #[.int .u8 0, .int .u8 0, .int .u8 0, .string ⟨#[]⟩, .slice none 0 0] 28)) (w.heap.size + 1) 28 #[.int .u8 0, .int .u8 0, .int .u8 0, .string ⟨#[]⟩, .slice none 0 0]) := Lib.hid (by
    have := Blk.new (w.alloc (.cells #[.int .u8 o.l.toNat, .bool o.r, .int .u32 o.q.toNat, .string ⟨o.d.toArray⟩] 32)) 28 #[.int .u8 0, .int .u8 0, .int .u8 0, .string ⟨#[]⟩, .slice none 0 0]
    simpa using this)
  show Calls _ _ #[.agg #[.int .u8 o.l.toNat, .bool o.r, .int .u32 o.q.toNat, .string ⟨o.d.toArray⟩]] _ _
  by_cases h7 : 7 < o.l.toNat
  · have HP : Hid (loP o = pd0 ∧ loE o = 2) := Lib.hid (by
      have e : loE o = 2 := by unfold loE; rw [if_pos h7]
      exact ⟨loP_no (by omega), e⟩)
    have d7 : (7 : Int) < (o.l.toNat : Int) := by omega
    clear h7
    have k0 := HK0.out.cell 0
    have k1 := HK0.out.cell 1
    have k2 := HK0.out.cell 2
    have k3 := HK0.out.cell 3
    simp only [List.getElem?_toArray, List.getElem?_cons_succ, List.getElem?_cons_zero] at k0 k1 k2 k3
    go_enter Try.func7, Try.ntmps7
    go_wp2_with (refine wpList_store_row rfl 28 (.tmp 2) (.tmp 9) rfl (w.heap.size + 1) rfl _ rfl 28 _ HR0.out (by kernel_rfl) rfl (by kernel_rfl) ?_)
    refine bodyPost_ret (v := .tuple #[.agg #[.int .u8 0, .int .u8 0, .int .u8 0, .string ⟨#[]⟩, .slice none 0 0], .int .i64 2]) (results_cell_slot (p := 2) (q := 3) (by kernel_rfl) _ _ (w.heap.size + 1) 28 _ _ rfl (Blk.row HR0.out _) Try.underlying28 rfl (by kernel_rfl) _ rfl) rfl ?_
    exact ⟨none, 0, by rw [HP.out.1, HP.out.2]; rfl, by rw [HP.out.1]; exact els_nilL _ _, fun _ => rfl, below_row HB0.out (by omega) _⟩
  · have d7 : ¬ (7 : Int) < (o.l.toNat : Int) := by omega
    by_cases h64 : 64 < o.d.length
    · have HP : Hid (loP o = pd0 ∧ loE o = 5) := Lib.hid (by
        have e : loE o = 5 := by unfold loE; rw [if_neg h7, if_pos h64]
        exact ⟨loP_no (by omega), e⟩)
      have d64 : (64 : Int) < (o.d.length : Int) := by omega
      clear h7 h64
      have k0 := HK0.out.cell 0
      have k1 := HK0.out.cell 1
      have k2 := HK0.out.cell 2
      have k3 := HK0.out.cell 3
      simp only [List.getElem?_toArray, List.getElem?_cons_succ, List.getElem?_cons_zero] at k0 k1 k2 k3
      go_enter Try.func7, Try.ntmps7
      go_wp2_with (refine wpList_store_row rfl 28 (.tmp 2) (.tmp 15) rfl (w.heap.size + 1) rfl _ rfl 28 _ HR0.out (by kernel_rfl) rfl (by kernel_rfl) ?_)
      refine bodyPost_ret (v := .tuple #[.agg #[.int .u8 0, .int .u8 0, .int .u8 0, .string ⟨#[]⟩, .slice none 0 0], .int .i64 5]) (results_cell_slot (p := 2) (q := 3) (by kernel_rfl) _ _ (w.heap.size + 1) 28 _ _ rfl (Blk.row HR0.out _) Try.underlying28 rfl (by kernel_rfl) _ rfl) rfl ?_
      exact ⟨none, 0, by rw [HP.out.1, HP.out.2]; rfl, by rw [HP.out.1]; exact els_nilL _ _, fun _ => rfl, below_row HB0.out (by omega) _⟩
    · have d64 : ¬ (64 : Int) < (o.d.length : Int) := by omega
      have hE : loE o = 0 := by unfold loE; rw [if_neg h7, if_neg h64]
      have hP := loP_ok hE
      have K1 := Lib.hid (fun w => put32s14 o.q w)
      have K2 := Lib.hid (fun w => operation_same o.r w)
      have K3 := Lib.hid (fun w => things_any o.d w)
      unfold loO loT at hP
      obtain ⟨D, hD⟩ : ∃ D, dig 4 o.q.toNat = D := ⟨_, rfl⟩
      obtain ⟨op, hop⟩ : ∃ x, (if o.r then (2 : UInt8) else 3) = x := ⟨_, rfl⟩
      obtain ⟨T, hT⟩ : ∃ x, (if o.d = [] then [] else [(⟨3, o.d⟩ : Tl)]) = x := ⟨_, rfl⟩
      rw [hD, hop, hT] at hP
      rw [hD] at K1
      rw [hop] at K2
      rw [hT] at K3
      have HP := Lib.hid (And.intro hP hE)
      obtain ⟨m, hm⟩ : ∃ m, T.length = m := ⟨_, rfl⟩
      rw [hm] at K3
      have HM := Lib.hid hm
      clear h7 h64 hE hP hD hop hT hm
      have k0 := HK0.out.cell 0
      have k1 := HK0.out.cell 1
      have k2 := HK0.out.cell 2
      have k3 := HK0.out.cell 3
      simp only [List.getElem?_toArray, List.getElem?_cons_succ, List.getElem?_cons_zero] at k0 k1 k2 k3
      go_enter Try.func7, Try.ntmps7
      go_wp2_with fail
      refine (K1.out _).mono ?_
      rintro r w1 ⟨v, rfl, hs, hb1⟩
      have hcv := hs.conv
      have HBd : Hid (Below w.heap.size w w1.drew) := Lib.hid (HB0.out.trans (hb1.mono HB0.out.size)).drew
      have HKd : Hid (Blk w1.drew w.heap.size 32 #[.int .u8 o.l.toNat, .bool o.r, .int .u32 o.q.toNat, .string ⟨o.d.toArray⟩]) := Lib.hid (Blk.drew (HK0.out.below hb1 HK0.out.lt))
      have HRn : Hid (Blk w1.drew (w.heap.size + 1) 28 #[.int .u8 0, .int .u8 0, .int .u8 0, .string ⟨#[]⟩, .slice none 0 0]) := Lib.hid (Blk.drew (HR0.out.below hb1 HR0.out.lt))
      clear hb1 HB0 HK0 HR0 k0 k1 k2 k3 hs
      have k0 := HKd.out.cell 0
      have k1 := HKd.out.cell 1
      have k2 := HKd.out.cell 2
      have k3 := HKd.out.cell 3
      simp only [List.getElem?_toArray, List.getElem?_cons_succ, List.getElem?_cons_zero] at k0 k1 k2 k3
      clear HKd
      have z0 := HRn.out.cell 0
      have z1 := HRn.out.cell 1
      have z2 := HRn.out.cell 2
      have z3 := HRn.out.cell 3
      have z4 := HRn.out.cell 4
      simp only [List.getElem?_toArray, List.getElem?_cons_succ, List.getElem?_cons_zero] at z0 z1 z2 z3 z4
      have f0 := HRn.out.frozen 0
      have f1 := HRn.out.frozen 1
      have f2 := HRn.out.frozen 2
      have f3 := HRn.out.frozen 3
      have f4 := HRn.out.frozen 4
      go_wp2_with fail
      go_region_held3 (fun w_ => w_.cell? ⟨w.heap.size, 0, none⟩ = some (.int .u8 o.l.toNat) ∧ w_.cell? ⟨w.heap.size, 1, none⟩ = some (.bool o.r) ∧ w_.cell? ⟨w.heap.size, 2, none⟩ = some (.int .u32 o.q.toNat) ∧ w_.cell? ⟨w.heap.size, 3, none⟩ = some (.string ⟨o.d.toArray⟩)) (first | go_keep)
        (first
          | (go_at_call 18; refine (K2.out _).mono ?_; rintro r w_ ⟨rfl, rfl⟩)
          | (go_at_call 19; refine (K3.out _).mono ?_; rintro r w_ ⟨A, kk, rfl, hE_, hz_, hf_, hb_⟩; have HF_ : Hid (∀ a, A = some a → w.heap.size + 1 < a.block) := Lib.hid (fun a ha => Nat.lt_of_lt_of_le HRn.out.lt (hf_ a ha)); have HE_ := Lib.hid hE_; have HZ_ := Lib.hid hz_; obtain ⟨k0, k1, k2, k3, HRn, HBd⟩ := keepP14 w.heap.size (w.heap.size + 1) o k0 k1 k2 k3 HRn HBd hb_; clear hb_ hE_ hz_ hf_; have z0 := HRn.out.cell 0; have z1 := HRn.out.cell 1; have z2 := HRn.out.cell 2; have z3 := HRn.out.cell 3; have z4 := HRn.out.cell 4; simp only [List.getElem?_toArray, List.getElem?_cons_succ, List.getElem?_cons_zero] at z0 z1 z2 z3 z4; have f0 := HRn.out.frozen 0; have f1 := HRn.out.frozen 1; have f2 := HRn.out.frozen 2; have f3 := HRn.out.frozen 3; have f4 := HRn.out.frozen 4)
          | fail "no")
      all_goals (
        go_wp2_with fail
        have HR6 := Blk.put (Blk.put (Blk.put (Blk.put (Blk.put (HRn.out) 0 (.int .u8 o.l.toNat)) 1 (.int .u8 op.toNat)) 2 (.int .u8 0)) 3 (.string ⟨D.toArray⟩)) 4 (.slice A m kk)
        simp only [List.setIfInBounds_toArray, List.set_cons_succ, List.set_cons_zero] at HR6
        have HB6 := (((((HBd.out).setCell (p := ⟨w.heap.size + 1, 0, none⟩) (by show w.heap.size ≤ w.heap.size + 1; omega) (.int .u8 o.l.toNat)).setCell (p := ⟨w.heap.size + 1, 1, none⟩) (by show w.heap.size ≤ w.heap.size + 1; omega) (.int .u8 op.toNat)).setCell (p := ⟨w.heap.size + 1, 2, none⟩) (by show w.heap.size ≤ w.heap.size + 1; omega) (.int .u8 0)).setCell (p := ⟨w.heap.size + 1, 3, none⟩) (by show w.heap.size ≤ w.heap.size + 1; omega) (.string ⟨D.toArray⟩)).setCell (p := ⟨w.heap.size + 1, 4, none⟩) (by show w.heap.size ≤ w.heap.size + 1; omega) (.slice A m kk)
        have HC6 := (((((Chg.refl (only (w.heap.size + 1)) w_).setCell (p := ⟨w.heap.size + 1, 0, none⟩) (.inr rfl) (.int .u8 o.l.toNat)).setCell (p := ⟨w.heap.size + 1, 1, none⟩) (.inr rfl) (.int .u8 op.toNat)).setCell (p := ⟨w.heap.size + 1, 2, none⟩) (.inr rfl) (.int .u8 0)).setCell (p := ⟨w.heap.size + 1, 3, none⟩) (.inr rfl) (.string ⟨D.toArray⟩)).setCell (p := ⟨w.heap.size + 1, 4, none⟩) (.inr rfl) (.slice A m kk)
        have HE6 := elsL_chg HE_.out HC6 (fun a ha h => by have := HF_.out a ha; unfold only at h; omega)
        refine bodyPost_ret (v := .tuple #[.agg #[.int .u8 o.l.toNat, .int .u8 op.toNat, .int .u8 0, .string ⟨D.toArray⟩, .slice A m kk], .int .i64 0]) (results_cell_slot (p := 2) (q := 3) (by kernel_rfl) _ _ (w.heap.size + 1) 28 _ _ rfl HR6 Try.underlying28 rfl (by kernel_rfl) _ rfl) rfl ?_
        exact ⟨A, kk, by rw [HP.out.1, HP.out.2, ← HM.out]; rfl, by rw [HP.out.1]; exact HE6, HZ_.out, HB6⟩)
set_option maxHeartbeats 8000000 in
theorem lbtake_impl : LbTakeC := by
  intro A k p w hE hx ht
  have HE0 := Lib.hid hE
  have KF := Lib.hid (fun w (hE : Els 2 tlV w A p.t) => tlfind_any A k p.t 3 w hE (by omega))
  obtain ⟨n, hn⟩ : ∃ n, p.t.length = n := ⟨_, rfl⟩
  show Calls _ _ #[.agg #[.int .u8 p.l.toNat, .int .u8 p.o.toNat, .int .u8 p.g.toNat, .string ⟨p.x.toArray⟩, .slice A p.t.length k]] _ _
  rw [hn] at KF ⊢
  clear hn hE ht
  have HB0 : Hid (Below w.heap.size w ((w.alloc (.cells #[.int .u8 p.l.toNat, .int .u8 p.o.toNat, .int .u8 p.g.toNat, .string ⟨p.x.toArray⟩, .slice A n k] 28)).alloc (.cells #[.int .u8 0, .bool false, .int .u32 0, .string ⟨#[]⟩] 32))) := Lib.hid (((Below.refl _ _).alloc (Nat.le_refl _) _).alloc (by simp) _)
  have HBZ := HB0
  have HK0 : Hid (Blk ((w.alloc (.cells #[.int .u8 p.l.toNat, .int .u8 p.o.toNat, .int .u8 p.g.toNat, .string ⟨p.x.toArray⟩, .slice A n k] 28)).alloc (.cells #[.int .u8 0, .bool false, .int .u32 0, .string ⟨#[]⟩] 32)) w.heap.size 28 #[.int .u8 p.l.toNat, .int .u8 p.o.toNat, .int .u8 p.g.toNat, .string ⟨p.x.toArray⟩, .slice A n k]) := Lib.hid ((Blk.new _ _ _).alloc _)
  have HR0 : Hid (Blk ((w.alloc (.cells #[.int .u8 p.l.toNat, .int .u8 p.o.toNat, .int .u8 p.g.toNat, .string ⟨p.x.toArray⟩, .slice A n k] 28)).alloc (.cells #[.int .u8 0, .bool false, .int .u32 0, .string ⟨#[]⟩] 32)) (w.heap.size + 1) 32 #[.int .u8 0, .bool false, .int .u32 0, .string ⟨#[]⟩]) := Lib.hid (by
    have := Blk.new (w.alloc (.cells #[.int .u8 p.l.toNat, .int .u8 p.o.toNat, .int .u8 p.g.toNat, .string ⟨p.x.toArray⟩, .slice A n k] 28)) 32 #[.int .u8 0, .bool false, .int .u32 0, .string ⟨#[]⟩]
    simpa using this)
  have K1 := Lib.hid (fun w => read_any A n k p w)
  obtain ⟨two, h2⟩ : ∃ b, decide (p.o = 2) = b := ⟨_, rfl⟩
  obtain ⟨q, hq⟩ : ∃ b, UInt32.ofNat (num (tkV 4 p.x 0)) = b := ⟨_, rfl⟩
  obtain ⟨is, hI⟩ : ∃ b, decide (lkF p = 0) = b := ⟨_, rfl⟩
  rw [h2, hq, hI] at K1
  have HQ := Lib.hid (And.intro h2 (And.intro hq hI))
  clear h2 hq hI
  have j0 := HK0.out.cell 0
  have j1 := HK0.out.cell 1
  have j2 := HK0.out.cell 2
  have j3 := HK0.out.cell 3
  have j4 := HK0.out.cell 4
  simp only [List.getElem?_toArray, List.getElem?_cons_succ, List.getElem?_cons_zero] at j0 j1 j2 j3 j4
  go_enter Try.func12, Try.ntmps12
  go_wp2_with fail
  refine (K1.out _).mono ?_
  rintro r w1 ⟨rfl, hb1⟩
  have HB1 : Hid (Below w.heap.size w w1) := Lib.hid (HB0.out.trans (hb1.mono HB0.out.size))
  have HK1 := Lib.hid (HK0.out.below hb1 HK0.out.lt)
  have HR1 := Lib.hid (HR0.out.below hb1 HR0.out.lt)
  have HE1 := Lib.hid ((HE0.out.next HBZ.out).next hb1)
  have HB2 : Hid (Below w.heap.size w (w1.alloc (.cells #[.bool two] 62))) := Lib.hid (HB1.out.alloc HB1.out.size _)
  have HK2 : Hid (Blk (w1.alloc (.cells #[.bool two] 62)) w.heap.size 28 #[.int .u8 p.l.toNat, .int .u8 p.o.toNat, .int .u8 p.g.toNat, .string ⟨p.x.toArray⟩, .slice A n k]) := Lib.hid (HK1.out.alloc _)
  have HE2 : Hid (Els 2 tlV (w1.alloc (.cells #[.bool two] 62)) A p.t) := Lib.hid (HE1.out.next ((Below.refl _ _).alloc (Nat.le_refl _) _))
  have HG2 : Hid (Blk (w1.alloc (.cells #[.bool two] 62)) w1.heap.size 62 #[.bool two]) := Lib.hid (Blk.new _ _ _)
  have HR2 : Hid (Blk (w1.alloc (.cells #[.bool two] 62)) (w.heap.size + 1) 32 #[.int .u8 0, .bool false, .int .u32 0, .string ⟨#[]⟩]) := Lib.hid (HR1.out.alloc _)
  clear hb1 HB0 HBZ HK0 HR0 j0 j1 j2 j3 j4 K1 HB1 HK1 HR1 HE0 HE1
  have j0 := HK2.out.cell 0
  have j1 := HK2.out.cell 1
  have j2 := HK2.out.cell 2
  have j3 := HK2.out.cell 3
  have j4 := HK2.out.cell 4
  simp only [List.getElem?_toArray, List.getElem?_cons_succ, List.getElem?_cons_zero] at j0 j1 j2 j3 j4
  cases is
  · have hF : lkF p ≠ 0 := by have := HQ.out.2.2; simpa using this
    have HP : Hid (lkX p = lo0 ∧ lkF p = 4) := Lib.hid (by
      refine ⟨by unfold lkX; rw [if_neg hF], ?_⟩
      unfold lkF at hF ⊢
      split at hF
      · exact absurd rfl hF
      · rename_i h; rw [if_neg h])
    clear hF
    go_wp2_with (refine wpList_store_row rfl 32 (.tmp 2) (.tmp 17) rfl (w.heap.size + 1) rfl _ rfl 32 _ HR2.out (by kernel_rfl) rfl (by kernel_rfl) ?_)
    refine bodyPost_ret (v := .tuple #[.agg #[.int .u8 0, .bool false, .int .u32 0, .string ⟨#[]⟩], .int .i64 4]) (results_cell_slot (p := 2) (q := 3) (by kernel_rfl) _ _ (w.heap.size + 1) 32 _ _ rfl (Blk.row HR2.out _) Try.underlying32 rfl (by kernel_rfl) _ rfl) rfl ?_
    exact ⟨by rw [HP.out.1, HP.out.2]; rfl, below_row HB2.out (by omega) _⟩
  · have hF : lkF p = 0 := by have := HQ.out.2.2; simpa using this
    have hl4 : p.x.length = 4 := by
      unfold lkF at hF
      split at hF
      · rename_i h; exact h.2
      · cases hF
    have hq : UInt32.ofNat (num p.x) = q := by
      rw [← HQ.out.2.1]
      have : tkV 4 p.x 0 = p.x := by unfold tkV; rw [if_pos ⟨rfl, by omega⟩, List.take_of_length_le (by omega)]
      rw [this]
    obtain ⟨d, hd⟩ : ∃ d, tlFv p.t 3 = d := ⟨_, rfl⟩
    have HP : Hid (lkX p = ⟨p.l, two, q, d⟩ ∧ lkF p = 0) := Lib.hid ⟨by
      unfold lkX
      rw [if_pos hF]
      unfold lkQ
      rw [hq, hd, ← HQ.out.1]
      rfl, hF⟩
    rw [hd] at KF
    obtain ⟨fb, hfb⟩ : ∃ d, tlFb p.t 3 = d := ⟨_, rfl⟩
    rw [hfb] at KF
    clear hF hl4 hq hd hfb
    go_wp2_with fail
    refine (KF.out _ HE2.out).mono ?_
    rintro r w3 ⟨rfl, hb3⟩
    have HB3 : Hid (Below w.heap.size w w3) := Lib.hid (HB2.out.trans (hb3.mono HB2.out.size))
    have HK3 := Lib.hid (HK2.out.below hb3 HK2.out.lt)
    have HR3 := Lib.hid (HR2.out.below hb3 HR2.out.lt)
    have HG3 := Lib.hid (HG2.out.below hb3 HG2.out.lt)
    clear hb3 HB2 HK2 HR2 HG2 j0 j1 j2 j3 j4 HE2 KF
    have j0 := HK3.out.cell 0
    simp only [List.getElem?_toArray, List.getElem?_cons_succ, List.getElem?_cons_zero] at j0
    have v0 := HG3.out.cell 0
    simp only [List.getElem?_toArray, List.getElem?_cons_succ, List.getElem?_cons_zero] at v0
    go_wp2_with (refine wpList_store_row rfl 32 (.tmp 2) (.tmp 30) rfl (w.heap.size + 1) rfl _ rfl 32 _ HR3.out (by kernel_rfl) rfl (by kernel_rfl) ?_)
    refine bodyPost_ret (v := .tuple #[.agg #[.int .u8 p.l.toNat, .bool two, .int .u32 q.toNat, .string ⟨d.toArray⟩], .int .i64 0]) (results_cell_slot (p := 2) (q := 3) (by kernel_rfl) _ _ (w.heap.size + 1) 32 _ _ rfl (Blk.row HR3.out _) Try.underlying32 rfl (by kernel_rfl) _ rfl) rfl ?_
    exact ⟨by rw [HP.out.1, HP.out.2]; rfl, below_row HB3.out (by omega) _⟩
set_option maxHeartbeats 8000000 in
theorem lbans_impl : LbAnsC := by
  intro A k p w hE hz hx ht
  have HE0 := Lib.hid hE
  obtain ⟨n, hn⟩ : ∃ n, p.t.length = n := ⟨_, rfl⟩
  have KC := Lib.hid (fun w (hE : Els 2 tlV w A p.t) => copied_any A n k p.t hn (by omega) w hE)
  show Calls _ _ #[.agg #[.int .u8 p.l.toNat, .int .u8 p.o.toNat, .int .u8 p.g.toNat, .string ⟨p.x.toArray⟩, .slice A p.t.length k]] _ _
  rw [hn]
  have HN := Lib.hid hn
  clear hn hE ht
  have HB0 : Hid (Below w.heap.size w ((w.alloc (.cells #[.int .u8 p.l.toNat, .int .u8 p.o.toNat, .int .u8 p.g.toNat, .string ⟨p.x.toArray⟩, .slice A n k] 28)).alloc (.cells #[.int .u8 0, .int .u8 0, .int .u8 0, .string ⟨#[]⟩, .slice none 0 0] 28))) := Lib.hid (((Below.refl _ _).alloc (Nat.le_refl _) _).alloc (by simp) _)
  have HBZ := HB0
  have HK0 : Hid (Blk ((w.alloc (.cells #[.int .u8 p.l.toNat, .int .u8 p.o.toNat, .int .u8 p.g.toNat, .string ⟨p.x.toArray⟩, .slice A n k] 28)).alloc (.cells #[.int .u8 0, .int .u8 0, .int .u8 0, .string ⟨#[]⟩, .slice none 0 0] 28)) w.heap.size 28 #[.int .u8 p.l.toNat, .int .u8 p.o.toNat, .int .u8 p.g.toNat, .string ⟨p.x.toArray⟩, .slice A n k]) := Lib.hid ((Blk.new _ _ _).alloc _)
  have HR0 : Hid (Blk ((w.alloc (.cells #[.int .u8 p.l.toNat, .int .u8 p.o.toNat, .int .u8 p.g.toNat, .string ⟨p.x.toArray⟩, .slice A n k] 28)).alloc (.cells #[.int .u8 0, .int .u8 0, .int .u8 0, .string ⟨#[]⟩, .slice none 0 0] 28)) (w.heap.size + 1) 28 #[.int .u8 0, .int .u8 0, .int .u8 0, .string ⟨#[]⟩, .slice none 0 0]) := Lib.hid (by
    have := Blk.new (w.alloc (.cells #[.int .u8 p.l.toNat, .int .u8 p.o.toNat, .int .u8 p.g.toNat, .string ⟨p.x.toArray⟩, .slice A n k] 28)) 28 #[.int .u8 0, .int .u8 0, .int .u8 0, .string ⟨#[]⟩, .slice none 0 0]
    simpa using this)
  have K1 := Lib.hid (fun w => read_any A n k p w)
  obtain ⟨two, h2⟩ : ∃ b, decide (p.o = 2) = b := ⟨_, rfl⟩
  obtain ⟨q, hq⟩ : ∃ b, UInt32.ofNat (num (tkV 4 p.x 0)) = b := ⟨_, rfl⟩
  obtain ⟨is, hI⟩ : ∃ b, decide (lkF p = 0) = b := ⟨_, rfl⟩
  rw [h2, hq, hI] at K1
  have HQ := Lib.hid (And.intro h2 (And.intro hq hI))
  clear h2 hq hI
  have K2 : Hid (∀ w, Calls Try.prog 18 #[.bool true] w fun e w' => e = .returned (.int .u8 2) ∧ w = w') := Lib.hid (fun w => operation_same true w)
  have j0 := HK0.out.cell 0
  have j1 := HK0.out.cell 1
  have j2 := HK0.out.cell 2
  have j3 := HK0.out.cell 3
  have j4 := HK0.out.cell 4
  simp only [List.getElem?_toArray, List.getElem?_cons_succ, List.getElem?_cons_zero] at j0 j1 j2 j3 j4
  go_enter Try.func14, Try.ntmps14
  go_wp2_with fail
  refine (K1.out _).mono ?_
  rintro r w1 ⟨rfl, hb1⟩
  have HB1 : Hid (Below w.heap.size w w1) := Lib.hid (HB0.out.trans (hb1.mono HB0.out.size))
  have HK1 := Lib.hid (HK0.out.below hb1 HK0.out.lt)
  have HR1 := Lib.hid (HR0.out.below hb1 HR0.out.lt)
  have HE1 := Lib.hid ((HE0.out.next HBZ.out).next hb1)
  have HB2 : Hid (Below w.heap.size w (w1.alloc (.cells #[.bool two] 62))) := Lib.hid (HB1.out.alloc HB1.out.size _)
  have HK2 : Hid (Blk (w1.alloc (.cells #[.bool two] 62)) w.heap.size 28 #[.int .u8 p.l.toNat, .int .u8 p.o.toNat, .int .u8 p.g.toNat, .string ⟨p.x.toArray⟩, .slice A n k]) := Lib.hid (HK1.out.alloc _)
  have HE2 : Hid (Els 2 tlV (w1.alloc (.cells #[.bool two] 62)) A p.t) := Lib.hid (HE1.out.next ((Below.refl _ _).alloc (Nat.le_refl _) _))
  have HG2 : Hid (Blk (w1.alloc (.cells #[.bool two] 62)) w1.heap.size 62 #[.bool two]) := Lib.hid (Blk.new _ _ _)
  have HR2 : Hid (Blk (w1.alloc (.cells #[.bool two] 62)) (w.heap.size + 1) 28 #[.int .u8 0, .int .u8 0, .int .u8 0, .string ⟨#[]⟩, .slice none 0 0]) := Lib.hid (HR1.out.alloc _)
  have HLT : Hid (w.heap.size + 1 < w1.heap.size) := Lib.hid HR1.out.lt
  clear hb1 HB0 HBZ HK0 HR0 j0 j1 j2 j3 j4 K1 HB1 HK1 HR1 HE1
  have j0 := HK2.out.cell 0
  have j1 := HK2.out.cell 1
  have j2 := HK2.out.cell 2
  have j3 := HK2.out.cell 3
  have j4 := HK2.out.cell 4
  simp only [List.getElem?_toArray, List.getElem?_cons_succ, List.getElem?_cons_zero] at j0 j1 j2 j3 j4
  have v0 := HG2.out.cell 0
  simp only [List.getElem?_toArray, List.getElem?_cons_succ, List.getElem?_cons_zero] at v0
  cases is
  · have HP : Hid (anP p = pd0 ∧ anF p = 4) := Lib.hid (by
      have hF : lkF p ≠ 0 := by have := HQ.out.2.2; simpa using this
      rcases anF_is p with ⟨_, h3, h4, _⟩ | ⟨h, h'⟩
      · exact absurd (by unfold lkF; rw [if_pos ⟨.inr h3, h4⟩]) hF
      · exact ⟨h', h⟩)
    go_wp2_with (refine wpList_store_row rfl 28 (.tmp 2) (.tmp 19) rfl (w.heap.size + 1) rfl _ rfl 28 _ HR2.out (by kernel_rfl) rfl (by kernel_rfl) ?_)
    refine bodyPost_ret (v := .tuple #[.agg #[.int .u8 0, .int .u8 0, .int .u8 0, .string ⟨#[]⟩, .slice none 0 0], .int .i64 4]) (results_cell_slot (p := 2) (q := 3) (by kernel_rfl) _ _ (w.heap.size + 1) 28 _ _ rfl (Blk.row HR2.out _) Try.underlying28 rfl (by kernel_rfl) _ rfl) rfl ?_
    exact ⟨none, 0, by rw [HP.out.1, HP.out.2]; rfl, by rw [HP.out.1]; exact els_nilL _ _, fun _ => rfl, fun h => absurd h (by rw [HP.out.1]; simp [pd0]), below_row HB2.out (by omega) _⟩
  · cases two
    · have hA : anF p = 0 ∧ p.o = 3 ∧ p.x.length = 4 ∧ anP p = { p with o := 2 } := by
        have hF : lkF p = 0 := by have := HQ.out.2.2; simpa using this
        have h2 : p.o ≠ 2 := by have := HQ.out.1; simpa using this
        have h3 : (p.o = 2 ∨ p.o = 3) ∧ p.x.length = 4 := by
          unfold lkF at hF
          split at hF
          · assumption
          · cases hF
        have e : anF p = 0 := by unfold anF; rw [if_pos ⟨h3.1.resolve_left h2, h3.2⟩]
        exact ⟨e, h3.1.resolve_left h2, h3.2, by unfold anP; rw [if_pos e]⟩
      have HP : Hid (anP p = { p with o := 2 } ∧ anF p = 0) := Lib.hid ⟨hA.2.2.2, hA.1⟩
      clear hA
      have jf := HK2.out.frozen 1
      go_wp2_with fail
      refine (K2.out _).mono ?_
      rintro r _ ⟨rfl, rfl⟩
      have HB3 : Hid (Below w.heap.size w ((w1.alloc (.cells #[.bool false] 62)).setCell ⟨w.heap.size, 1, none⟩ (.int .u8 2))) := Lib.hid (HB2.out.setCell (p := ⟨w.heap.size, 1, none⟩) (Nat.le_refl _) _)
      have HK3 : Hid (Blk ((w1.alloc (.cells #[.bool false] 62)).setCell ⟨w.heap.size, 1, none⟩ (.int .u8 2)) w.heap.size 28 #[.int .u8 p.l.toNat, .int .u8 2, .int .u8 p.g.toNat, .string ⟨p.x.toArray⟩, .slice A n k]) := Lib.hid (by simpa using HK2.out.put 1 (.int .u8 2))
      have HR3 : Hid (Blk ((w1.alloc (.cells #[.bool false] 62)).setCell ⟨w.heap.size, 1, none⟩ (.int .u8 2)) (w.heap.size + 1) 28 #[.int .u8 0, .int .u8 0, .int .u8 0, .string ⟨#[]⟩, .slice none 0 0]) := Lib.hid (HR2.out.far (p := ⟨w.heap.size, 1, none⟩) (by show w.heap.size + 1 ≠ w.heap.size; omega) _)
      have HE3 := Lib.hid (HE0.out.next HB3.out)
      have m4 := HK3.out.cell 4
      simp only [List.getElem?_toArray, List.getElem?_cons_succ, List.getElem?_cons_zero] at m4
      go_wp2_with fail
      refine (KC.out _ HE3.out).mono ?_
      rintro r w4 ⟨B, rfl, hB, hE4, hb4⟩
      have HB4 : Hid (Below w.heap.size w w4) := Lib.hid (HB3.out.trans (hb4.mono HB3.out.size))
      have HK4 := Lib.hid (HK3.out.below hb4 HK3.out.lt)
      have HR4 := Lib.hid (HR3.out.below hb4 HR3.out.lt)
      have HE4 := Lib.hid hE4
      have hBlt : w.heap.size + 1 < B := Nat.lt_of_lt_of_le HR3.out.lt hB
      have HBL := Lib.hid hBlt
      have nf := HK4.out.frozen 4
      have m0 := HK4.out.cell 0
      have m1 := HK4.out.cell 1
      have m2 := HK4.out.cell 2
      have m3 := HK4.out.cell 3
      have m4 := HK4.out.cell 4
      simp only [List.getElem?_toArray, List.getElem?_cons_succ, List.getElem?_cons_zero] at m0 m1 m2 m3 m4
      clear hE4 hb4 hB hBlt HB3 HK3 HR3 HE3 HB2 HK2 HR2 HE2 HG2 HE0 j0 j1 j2 j3 j4 jf v0
      have HB5 : Hid (Below w.heap.size w (w4.setCell ⟨w.heap.size, 4, none⟩ (.slice (some ⟨B, 0, none⟩) n n))) := Lib.hid (HB4.out.setCell (p := ⟨w.heap.size, 4, none⟩) (Nat.le_refl _) _)
      have HK5 : Hid (Blk (w4.setCell ⟨w.heap.size, 4, none⟩ (.slice (some ⟨B, 0, none⟩) n n)) w.heap.size 28 #[.int .u8 p.l.toNat, .int .u8 2, .int .u8 p.g.toNat, .string ⟨p.x.toArray⟩, .slice (some ⟨B, 0, none⟩) n n]) := Lib.hid (by simpa using HK4.out.put 4 (.slice (some ⟨B, 0, none⟩) n n))
      have HR5 : Hid (Blk (w4.setCell ⟨w.heap.size, 4, none⟩ (.slice (some ⟨B, 0, none⟩) n n)) (w.heap.size + 1) 28 #[.int .u8 0, .int .u8 0, .int .u8 0, .string ⟨#[]⟩, .slice none 0 0]) := Lib.hid (HR4.out.far (p := ⟨w.heap.size, 4, none⟩) (by show w.heap.size + 1 ≠ w.heap.size; omega) _)
      have HE5 := Lib.hid (elsL_chg HE4.out ((Chg.refl (only w.heap.size) w4).setCell (p := ⟨w.heap.size, 4, none⟩) (.inr rfl) (.slice (some ⟨B, 0, none⟩) n n)) (fun a ha h => by cases ha; have := HBL.out; unfold only at h; simp only at h; omega))
      have u0 := HK5.out.cell 0
      have u1 := HK5.out.cell 1
      have u2 := HK5.out.cell 2
      have u3 := HK5.out.cell 3
      have u4 := HK5.out.cell 4
      simp only [List.getElem?_toArray, List.getElem?_cons_succ, List.getElem?_cons_zero] at u0 u1 u2 u3 u4
      clear HB4 HK4 HR4 HE4
      go_wp2_with (refine wpList_store_row rfl 28 (.tmp 2) (.tmp 26) rfl (w.heap.size + 1) rfl _ rfl 28 _ HR5.out (by kernel_rfl) rfl (by kernel_rfl) ?_)
      refine bodyPost_ret (v := .tuple #[.agg #[.int .u8 p.l.toNat, .int .u8 2, .int .u8 p.g.toNat, .string ⟨p.x.toArray⟩, .slice (some ⟨B, 0, none⟩) n n], .int .i64 0]) (results_cell_slot (p := 2) (q := 3) (by kernel_rfl) _ _ (w.heap.size + 1) 28 _ _ rfl (Blk.row HR5.out _) Try.underlying28 rfl (by kernel_rfl) _ rfl) rfl ?_
      refine ⟨some ⟨B, 0, none⟩, n, by rw [HP.out.1, HP.out.2, ← HN.out]; rfl, ?_, fun h => (by cases h), fun _ a ha => (by cases ha; have := HBL.out; show w.heap.size ≤ B; omega), below_row HB5.out (by omega) _⟩
      rw [HP.out.1]
      exact els_row HE5.out HR5.out trivial (fun a ha => by cases ha; have := HBL.out; show B ≠ w.heap.size + 1; omega)
    · have HP : Hid (anP p = pd0 ∧ anF p = 4) := Lib.hid (by
        have h2 : p.o = 2 := by have := HQ.out.1; simpa using this
        rcases anF_is p with ⟨_, h3, _, _⟩ | ⟨h, h'⟩
        · rw [h2] at h3; cases h3
        · exact ⟨h', h⟩)
      go_wp2_with (refine wpList_store_row rfl 28 (.tmp 2) (.tmp 19) rfl (w.heap.size + 1) rfl _ rfl 28 _ HR2.out (by kernel_rfl) rfl (by kernel_rfl) ?_)
      refine bodyPost_ret (v := .tuple #[.agg #[.int .u8 0, .int .u8 0, .int .u8 0, .string ⟨#[]⟩, .slice none 0 0], .int .i64 4]) (results_cell_slot (p := 2) (q := 3) (by kernel_rfl) _ _ (w.heap.size + 1) 28 _ _ rfl (Blk.row HR2.out _) Try.underlying28 rfl (by kernel_rfl) _ rfl) rfl ?_
      exact ⟨none, 0, by rw [HP.out.1, HP.out.2]; rfl, by rw [HP.out.1]; exact els_nilL _ _, fun _ => rfl, fun h => absurd h (by rw [HP.out.1]; simp [pd0]), below_row HB2.out (by omega) _⟩
end Go.Proofs.Ytjcfdkchnikbmaa
