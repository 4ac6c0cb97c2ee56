/- Layer 16, the program: closures over end points; slices.IndexFunc, slices.ContainsFunc at end points. -/
import Derived.Test.YtfdiolfelecccaaZzPs16
import Derived.BigQuiet
import Derived.Deep.QuietTactic
import Derived.Shelf.SlSortCmp.QuietGrown
namespace Go.Proofs.Ytfdiolfelecccaa
open Go.RowKit
open Go.Sort (grow)
set_option linter.unusedVariables false
set_option linter.unusedSimpArgs false
set_option maxRecDepth 100000

theorem cell_grP {w : World} {a : Addr} {v : Value} (h : w.cell? a = some v) (n : Nat) (os : Array Obj) : (grow (w.drewN n) os).cell? a = some v := by
  rw [(Gro.of_grow (w := w) n os).cell (World.block_lt_of_cell? w _ h)]
  exact h
/-- a function value that tells of end points -/
structure ClM (w : World) (f : Value) (p : Mp → Bool) (E : List Mp) : Prop where
  is : ∃ gf bd lb, f = .func (.func gf) bd lb ∧ (∀ args w, (callFunc gf args).run Try.prog w = .ok (.enter gf args) w) ∧ ∀ (W : World) (x : Mp), x ∈ E → Gro w W → Calls Try.prog gf (bd ++ #[.agg #[.int .i64 x.a, .int .u16 x.m.toNat, .int .u8 x.p.toNat, .bool x.u]] ++ lb) W fun e w' => e = .returned (.bool (p x)) ∧ Gro W w'
theorem ClM.gro {w w' : World} {f : Value} {p : Mp → Bool} {E : List Mp} (h : ClM w f p E) (hg : Gro w w') : ClM w' f p E := by
  obtain ⟨gf, bd, lb, e, eg, hp⟩ := h.is
  exact ⟨gf, bd, lb, e, eg, fun W x hx hW => hp W x hx (hg.trans hW)⟩
def idxM (p : Mp → Bool) (d : List Mp) : Int := match d.findIdx? p with | some k => (k : Int) | none => -1
theorem Els.groP {α : Type} {k : Nat} {enc : α → List Value} {w w' : World} {A : Option Addr} {l : List α} (h : Els k enc w A l) (hg : Gro w w') : Els k enc w' A l := h.next hg.below
set_option maxHeartbeats 2000000 in
theorem idxM_any (w : World) (f : Value) (p : Mp → Bool) (d : List Mp) (A : Option Addr) (c : Nat) (hd : d.length ≤ 1000) (hE : Els 4 mpE w A d) (hf : ClM w f p d) :
    Calls Try.prog 46 #[.slice A d.length c, f] w fun e w' => e = .returned (.int .i64 (idxM p d)) ∧ Gro w w' := by
  obtain ⟨gf, bd, lb, rfl, eg, hp⟩ := hf.is
  have HE := Lib.hid hE
  have HP := Lib.hid hp
  obtain ⟨n, hn⟩ : ∃ n, d.length = n := ⟨_, rfl⟩
  have HN := Lib.hid hn
  rw [hn] at hd
  rw [hn]
  clear hn hE hp hf
  go_enter Try.func46, Try.ntmps46
  go_wp2
  go_loopw [5, 8] (fun _ i wr => ∃ k : Nat, k ≤ n ∧ i = .int .i64 k ∧ Hid (Gro w wr) ∧ Hid (∀ j (h : j < d.length), j < k → p d[j] = false)) (fun _ i _ => n - (intOf i).toNat)
  case atStart => exact ⟨0, Nat.zero_le _, rfl, Lib.hid (Gro.refl w), Lib.hid (fun j h hj => absurd hj (Nat.not_lt_zero _))⟩
  case round =>
    obtain ⟨k, hk, rfl, HG, HF⟩ := hrel
    by_cases hlt : k < n
    · have hkd : k < d.length := by rw [HN.out]; exact hlt
      have hltz : (k : Int) < (n : Int) := by omega
      obtain ⟨x, hx⟩ : ∃ x, d[k] = x := ⟨_, rfl⟩
      have hx' : d[k]? = some x := by rw [List.getElem?_eq_getElem hkd, hx]
      obtain ⟨b, off, rfl, _, e0, e1, e2, e3⟩ := mp_at (HE.out.groP HG.out) hx'
      have HX := Lib.hid hx
      have hcall := HP.out wr x (List.mem_of_getElem? hx') HG.out
      clear hx hx'
      cases hq : p x with
      | true =>
        rw [hq] at hcall
        have HQ := Lib.hid hq
        clear hq
        go_wp2_with (go_at_fn gf; refine hcall.mono ?_; rintro e w' ⟨rfl, hb'⟩)
        go_ret
        refine ⟨ret_ (congrArg (Value.int .i64) ?_), HG.out.trans hb'⟩
        unfold idxM
        have : d.findIdx? p = some k := by
          rw [List.findIdx?_eq_some_iff_getElem]
          exact ⟨by rw [HN.out]; exact hlt, by rw [HX.out]; exact HQ.out, fun j hj => by simpa using HF.out j (by rw [HN.out]; omega) hj⟩
        rw [this]
      | false =>
        rw [hq] at hcall
        have HQ := Lib.hid hq
        clear hq
        go_wp2_with (go_at_fn gf; refine hcall.mono ?_; rintro e w' ⟨rfl, hb'⟩)
        go_roundw
        case rel =>
          exact ⟨k + 1, by omega, by go_num, Lib.hid (HG.out.trans hb'), Lib.hid (fun j h hj => by
            rcases Nat.lt_or_ge j k with h1 | h1
            · exact HF.out j h h1
            · obtain rfl : j = k := by omega
              rw [HX.out]; exact HQ.out)⟩
        case measure => simp [intOf]; omega
    · obtain rfl : k = n := by omega
      clear hk hlt
      go_wp2
      go_ret
      refine ⟨ret_ (congrArg (Value.int .i64) ?_), HG.out⟩
      unfold idxM
      have : d.findIdx? p = none := by
        rw [List.findIdx?_eq_none_iff]
        intro x hx
        obtain ⟨j, hj, rfl⟩ := List.mem_iff_getElem.1 hx
        simpa using HF.out j hj (by rw [← HN.out]; exact hj)
      rw [this]
theorem idxM_ge (p : Mp → Bool) (d : List Mp) : decide (0 ≤ idxM p d) = d.any p := by
  unfold idxM
  cases h : d.findIdx? p with
  | none =>
    rw [List.findIdx?_eq_none_iff] at h
    simp only
    rw [Bool.eq_iff_iff, List.any_eq_true]
    simp only [decide_eq_true_eq]
    constructor
    · intro h'; omega
    · rintro ⟨x, hx, hp⟩
      have := h x hx
      rw [hp] at this
      simp at this
  | some k =>
    rw [List.findIdx?_eq_some_iff_getElem] at h
    obtain ⟨hk, h1, _⟩ := h
    rw [Bool.eq_iff_iff, List.any_eq_true]
    simp only [decide_eq_true_eq]
    exact ⟨fun _ => ⟨d[k], List.getElem_mem hk, h1⟩, fun _ => by omega⟩
set_option maxHeartbeats 1000000 in
theorem contM_any (w : World) (f : Value) (p : Mp → Bool) (d : List Mp) (A : Option Addr) (c : Nat) (hd : d.length ≤ 1000) (hE : Els 4 mpE w A d) (hf : ClM w f p d) :
    Calls Try.prog 41 #[.slice A d.length c, f] w fun e w' => e = .returned (.bool (d.any p)) ∧ Gro w w' := by
  have K := Lib.hid (idxM_any w f p d A c hd hE hf)
  have HA := Lib.hid (idxM_ge p d)
  obtain ⟨n, hn⟩ : ∃ n, d.length = n := ⟨_, rfl⟩
  obtain ⟨i, hi⟩ : ∃ i, idxM p d = i := ⟨_, rfl⟩
  obtain ⟨q, hq⟩ : ∃ q, d.any p = q := ⟨_, rfl⟩
  rw [hn, hi] at K
  rw [hi, hq] at HA
  rw [hn, hq]
  obtain ⟨gf, bd, lb, rfl, _⟩ := hf.is
  clear hn hi hq hd hE hf
  go_enter Try.func41, Try.ntmps41
  go_wp2_with fail
  refine K.out.mono ?_
  rintro e w1 ⟨rfl, hg⟩
  have HG := Lib.hid hg
  clear hg K
  go_wp2
  go_ret
  refine ⟨ret_ (congrArg Value.bool ?_), HG.out⟩
  first | exact HA.out | (rw [← HA.out]; simp)
section
variable {w : World} {b : Nat} {T : Tb} {X : PX}
set_option maxHeartbeats 2000000 in
theorem same1_any (h : Pt w b T X) (s : Sa) (x : Mp) (h0 : 0 ≤ x.a) (h1 : x.a < T.A.length) (gt gs : Nat) (hgt : w.cell? ⟨gt, 0, none⟩ = some (.pointer (some ⟨b, 0, none⟩))) (hgs : Blk w gs 90 #[.int .u8 s.p.toNat, .int .u16 s.v.toNat, .int .u8 s.l.toNat, .bool s.u]) :
    Calls Try.prog 40 #[.agg #[.int .i64 x.a, .int .u16 x.m.toNat, .int .u8 x.p.toNat, .bool x.u], .pointer (some ⟨gt, 0, none⟩), .pointer (some ⟨gs, 0, none⟩)] w fun e w' => e = .returned (.bool (decide (T.st x = s))) ∧ Gro w w' := by
  obtain ⟨W, hW⟩ : ∃ W, (w.alloc (.cells #[.int .i64 x.a, .int .u16 x.m.toNat, .int .u8 x.p.toNat, .bool x.u] 59)) = W := ⟨_, rfl⟩
  have HG : Hid (Gro w W) := Lib.hid (by rw [← hW]; exact (Gro.refl w).alloc _)
  have HX := Blk.new w 59 #[.int .i64 x.a, .int .u16 x.m.toNat, .int .u8 x.p.toNat, .bool x.u]
  rw [hW] at HX
  have HS := HG.out.blk hgs
  have HT := h.gro HG.out
  have c9 := (HG.out.cell (World.block_lt_of_cell? w _ hgt)).trans hgt
  have x0 := HX.cell 0
  have x1 := HX.cell 1
  have x2 := HX.cell 2
  have x3 := HX.cell 3
  simp only [List.getElem?_toArray, List.getElem?_cons_succ, List.getElem?_cons_zero] at x0 x1 x2 x3
  have s0 := HS.cell 0
  have s1 := HS.cell 1
  have s2 := HS.cell 2
  have s3 := HS.cell 3
  simp only [List.getElem?_toArray, List.getElem?_cons_succ, List.getElem?_cons_zero] at s0 s1 s2 s3
  have kI : ∀ n os, Calls Try.prog 35 #[.pointer (some ⟨b, 0, none⟩), .agg #[.int .i64 x.a, .int .u16 x.m.toNat, .int .u8 x.p.toNat, .bool x.u]] (grow (W.drewN n) os) fun e w' => e = .returned (.agg #[.int .u8 (T.st x).p.toNat, .int .u16 (T.st x).v.toNat, .int .u8 (T.st x).l.toNat, .bool (T.st x).u]) ∧ ∃ q os', w' = grow ((grow (W.drewN n) os).drewN q) os' := fun n os => (standOf_any (HT.gro (Gro.of_grow n os)) x h0 h1).mono (fun _ _ hh => ⟨hh.1, hh.2.out⟩)
  have q := fun w => run_eqSa (T.st x) s w
  generalize T.st x = sx at kI q
  clear h hgt hgs HX HS HT h0 h1
  go_enter Try.func40, Try.ntmps40
  go_wp2_with fail
  try rw [hW]
  clear hW
  have g0 := fun n os => cell_grP c9 n os
  have g1 := fun n os => cell_grP x0 n os
  have g2 := fun n os => cell_grP x1 n os
  have g3 := fun n os => cell_grP x2 n os
  have g4 := fun n os => cell_grP x3 n os
  have g5 := fun n os => cell_grP s0 n os
  have g6 := fun n os => cell_grP s1 n os
  have g7 := fun n os => cell_grP s2 n os
  have g8 := fun n os => cell_grP s3 n os
  have mixed : Try.prog.follows .mixedOrders = true := by kernel_rfl
  refine wp_region_quiet_grown mixed (by kernel_rfl) ?_
  repeat (first | go_big_quiet_step ((go_at_call 35; exact Calls.grown_of (kI _ _))) | quiet_step ((go_at_call 35; exact Calls.grown_of (kI _ _))))
  refine wpQuiet_nil ?_
  intro _ hw'
  obtain ⟨⟨nq, osq⟩, hw''⟩ := hw'
  subst hw''
  have hgr := Gro.of_grow (w := W) nq osq
  clear g0 g1 g2 g3 g4 g5 g6 g7 g8
  generalize grow (W.drewN nq) osq = wq at *
  clear kI c9 x0 x1 x2 x3 s0 s1 s2 s3
  go_wp2
  go_ret
  exact ⟨rfl, HG.out.trans hgr⟩
set_option maxHeartbeats 2000000 in
theorem num1_any (w : World) (x : Mp) (a : Int) (k : UInt16) (ga gk : Nat) (hga : w.cell? ⟨ga, 0, none⟩ = some (.int .i64 a)) (hgk : w.cell? ⟨gk, 0, none⟩ = some (.int .u16 k.toNat)) :
    Calls Try.prog 54 #[.agg #[.int .i64 x.a, .int .u16 x.m.toNat, .int .u8 x.p.toNat, .bool x.u], .pointer (some ⟨ga, 0, none⟩), .pointer (some ⟨gk, 0, none⟩)] w fun e w' => e = .returned (.bool (decide (x.a = a) && x.m == k)) ∧ Gro w w' := by
  have HG : Hid (Gro w (w.alloc (.cells #[.int .i64 x.a, .int .u16 x.m.toNat, .int .u8 x.p.toNat, .bool x.u] 59))) := Lib.hid ((Gro.refl w).alloc _)
  have HX := Blk.new w 59 #[.int .i64 x.a, .int .u16 x.m.toNat, .int .u8 x.p.toNat, .bool x.u]
  have c8 : ((w.alloc (.cells #[.int .i64 x.a, .int .u16 x.m.toNat, .int .u8 x.p.toNat, .bool x.u] 59))).cell? ⟨ga, 0, none⟩ = some (.int .i64 a) := Lib.cell?_alloc_some _ hga
  have c9 : ((w.alloc (.cells #[.int .i64 x.a, .int .u16 x.m.toNat, .int .u8 x.p.toNat, .bool x.u] 59))).cell? ⟨gk, 0, none⟩ = some (.int .u16 k.toNat) := Lib.cell?_alloc_some _ hgk
  have x0 := HX.cell 0
  have x1 := HX.cell 1
  have x2 := HX.cell 2
  have x3 := HX.cell 3
  simp only [List.getElem?_toArray, List.getElem?_cons_succ, List.getElem?_cons_zero] at x0 x1 x2 x3
  obtain ⟨p, hp⟩ : ∃ p, decide (x.a = a) = p := ⟨_, rfl⟩
  have hp' : (x.a == a) = p := by rw [← hp]; rfl
  have hq : ((x.m.toNat : Int) == (k.toNat : Int)) = (x.m == k) := u16_eqP _ _
  generalize (x.m == k) = q at hq ⊢
  clear hga hgk HX
  rw [hp]
  clear hp
  cases p
  · go_enter Try.func54, Try.ntmps54
    go_wp2
    go_ret
    exact ⟨rfl, HG.out⟩
  · go_enter Try.func54, Try.ntmps54
    go_wp2
    go_ret
    exact ⟨rfl, HG.out⟩
theorem eg_num : ∀ args w, (callFunc 54 args).run Try.prog w = .ok (.enter 54 args) w := enters_of Try.func54 (by kernel_rfl) rfl
theorem eg_same : ∀ args w, (callFunc 40 args).run Try.prog w = .ok (.enter 40 args) w := enters_of Try.func40 (by kernel_rfl) rfl
theorem eg_below : ∀ args w, (callFunc 45 args).run Try.prog w = .ok (.enter 45 args) w := enters_of Try.func45 (by kernel_rfl) rfl
theorem clm_num {w : World} {a : Int} {k : UInt16} {ga gk : Nat} (E : List Mp) (hga : w.cell? ⟨ga, 0, none⟩ = some (.int .i64 a)) (hgk : w.cell? ⟨gk, 0, none⟩ = some (.int .u16 k.toNat)) :
    ClM w (.func (.func 54) #[] #[.pointer (some ⟨ga, 0, none⟩), .pointer (some ⟨gk, 0, none⟩)]) (fun x => decide (x.a = a) && x.m == k) E :=
  ⟨_, #[], _, rfl, eg_num, fun W x _ hW => num1_any W x a k ga gk ((hW.cell (World.block_lt_of_cell? w _ hga)).trans hga) ((hW.cell (World.block_lt_of_cell? w _ hgk)).trans hgk)⟩
set_option maxHeartbeats 2000000 in
theorem num_any (w : World) (a : Int) (k : UInt16) (E : List Mp) :
    Calls Try.prog 42 #[.int .i64 a, .int .u16 k.toNat] w fun e w' => ∃ f, e = .returned f ∧ ClM w' f (fun x => decide (x.a = a) && x.m == k) E ∧ Gro w w' := by
  have HG : Hid (Gro w ((w.alloc (.cells #[.int .i64 a] 3)).alloc (.cells #[.int .u16 k.toNat] 23))) := Lib.hid (((Gro.refl w).alloc _).alloc _)
  have h1 : ((w.alloc (.cells #[.int .i64 a] 3)).alloc (.cells #[.int .u16 k.toNat] 23)).cell? ⟨w.heap.size, 0, none⟩ = some (.int .i64 a) := ((Blk.new w 3 #[.int .i64 a]).alloc _).cell 0
  have h2 : ((w.alloc (.cells #[.int .i64 a] 3)).alloc (.cells #[.int .u16 k.toNat] 23)).cell? ⟨w.heap.size + 1, 0, none⟩ = some (.int .u16 k.toNat) := by simp
  have HC := Lib.hid (clm_num E h1 h2)
  have hmf : ∀ w ls, (Instr.makeFunc (.func 54) #[] ls).run Try.prog w = .ok (.func (.func 54) #[] ls) w := fun w ls => rfl
  clear h1 h2
  go_enter Try.func42, Try.ntmps42
  go_wp2
  go_ret
  exact ⟨_, rfl, HC.out, HG.out⟩
theorem clm_same (h : Pt w b T X) (s : Sa) (gt gs : Nat) (hgt : w.cell? ⟨gt, 0, none⟩ = some (.pointer (some ⟨b, 0, none⟩))) (hgs : Blk w gs 90 #[.int .u8 s.p.toNat, .int .u16 s.v.toNat, .int .u8 s.l.toNat, .bool s.u]) :
    ClM w (.func (.func 40) #[] #[.pointer (some ⟨gt, 0, none⟩), .pointer (some ⟨gs, 0, none⟩)]) (fun x => decide (T.st x = s)) T.E :=
  ⟨_, #[], _, rfl, eg_same, fun W x hx hW => by
    have := of_level h.inv hx
    exact same1_any (h.gro hW) s x this.2.1 this.2.2 gt gs ((hW.cell (World.block_lt_of_cell? w _ hgt)).trans hgt) (hW.blk hgs)⟩
set_option maxHeartbeats 4000000 in
theorem below1_any (h : Pt w b T X) (s : Sp) (m : Mi) (x : Mp) (h0 : 0 ≤ x.a) (h1 : x.a < T.A.length) (gt gs gm : Nat) (hgt : w.cell? ⟨gt, 0, none⟩ = some (.pointer (some ⟨b, 0, none⟩))) (hgs : Blk w gs 88 #[.int .u8 s.p.toNat, .int .u16 s.v.toNat]) (hgm : Blk w gm 65 #[.int .u8 m.p.toNat, .int .u16 m.v.toNat, .int .u8 m.l.toNat]) :
    Calls Try.prog 45 #[.agg #[.int .i64 x.a, .int .u16 x.m.toNat, .int .u8 x.p.toNat, .bool x.u], .pointer (some ⟨gt, 0, none⟩), .pointer (some ⟨gs, 0, none⟩), .pointer (some ⟨gm, 0, none⟩)] w fun e w' => e = .returned (.bool (decide (Sp.mk x.p (T.of x).v = s) && decide (m.l.toNat ≤ (T.of x).l.toNat))) ∧ Gro w w' := by
  obtain ⟨W, hW⟩ : ∃ W, (w.alloc (.cells #[.int .i64 x.a, .int .u16 x.m.toNat, .int .u8 x.p.toNat, .bool x.u] 59)) = W := ⟨_, rfl⟩
  have HG : Hid (Gro w W) := Lib.hid (by rw [← hW]; exact (Gro.refl w).alloc _)
  have HX := Blk.new w 59 #[.int .i64 x.a, .int .u16 x.m.toNat, .int .u8 x.p.toNat, .bool x.u]
  rw [hW] at HX
  have HT := h.gro HG.out
  have KS := Lib.hid (standOf_any HT x h0 h1)
  have c9 := (HG.out.cell (World.block_lt_of_cell? w _ hgt)).trans hgt
  have HS := Lib.hid (HG.out.blk hgs)
  have HM := Lib.hid (HG.out.blk hgm)
  have x0 := HX.cell 0
  have x1 := HX.cell 1
  have x2 := HX.cell 2
  have x3 := HX.cell 3
  simp only [List.getElem?_toArray, List.getElem?_cons_succ, List.getElem?_cons_zero] at x0 x1 x2 x3
  have q := fun w => run_eqSp10000 ⟨(T.st x).p, (T.st x).v⟩ s w
  have hst : T.st x = ⟨x.p, (T.of x).v, (T.of x).l, x.u⟩ := rfl
  have HP : Hid ((decide (Sp.mk x.p (T.of x).v = s) && decide (m.l.toNat ≤ (T.of x).l.toNat)) = (decide (Sp.mk (T.st x).p (T.st x).v = s) && decide (m.l.toNat ≤ (T.st x).l.toNat))) := Lib.hid rfl
  rw [HP.out]
  clear HP hst
  generalize T.st x = sx at KS q ⊢
  clear h hgt hgs hgm HX HT h0 h1
  have hle : decide ((m.l.toNat : Int) ≤ (sx.l.toNat : Int)) = decide (m.l.toNat ≤ sx.l.toNat) := by rw [Bool.eq_iff_iff]; simp
  generalize decide (m.l.toNat ≤ sx.l.toNat) = qq at hle ⊢
  obtain ⟨pp, hpp⟩ : ∃ pp, decide (Sp.mk sx.p sx.v = s) = pp := ⟨_, rfl⟩
  rw [hpp] at q ⊢
  clear hpp
  go_enter Try.func45, Try.ntmps45
  go_wp2_with fail
  try rw [hW]
  clear hW
  refine KS.out.mono ?_
  rintro e w1 ⟨rfl, hg1⟩
  have HG1 : Hid (Gro w (w1.alloc (.cells #[.int .u8 sx.p.toNat, .int .u16 sx.v.toNat, .int .u8 sx.l.toNat, .bool sx.u] 90))) := Lib.hid ((HG.out.trans hg1).alloc _)
  have HS1 := (HS.out.below hg1.below HS.out.lt).alloc (.cells #[.int .u8 sx.p.toNat, .int .u16 sx.v.toNat, .int .u8 sx.l.toNat, .bool sx.u] 90)
  have HM1 := (HM.out.below hg1.below HM.out.lt).alloc (.cells #[.int .u8 sx.p.toNat, .int .u16 sx.v.toNat, .int .u8 sx.l.toNat, .bool sx.u] 90)
  have HN1 := Blk.new w1 90 #[.int .u8 sx.p.toNat, .int .u16 sx.v.toNat, .int .u8 sx.l.toNat, .bool sx.u]
  clear hg1 HG HS HM KS c9 x0 x1 x2 x3
  have s0 := HS1.cell 0
  have s1 := HS1.cell 1
  simp only [List.getElem?_toArray, List.getElem?_cons_succ, List.getElem?_cons_zero] at s0 s1
  have m2 := HM1.cell 2
  simp only [List.getElem?_toArray, List.getElem?_cons_succ, List.getElem?_cons_zero] at m2
  have n0 := HN1.cell 0
  have n1 := HN1.cell 1
  have n2 := HN1.cell 2
  simp only [List.getElem?_toArray, List.getElem?_cons_succ, List.getElem?_cons_zero] at n0 n1 n2
  clear HS1 HM1 HN1
  cases pp
  · go_wp2
    go_ret
    exact ⟨rfl, HG1.out⟩
  · go_wp2
    go_ret
    exact ⟨by simp_all, HG1.out⟩
theorem clm_below (h : Pt w b T X) (s : Sp) (m : Mi) (gt gs gm : Nat) (hgt : w.cell? ⟨gt, 0, none⟩ = some (.pointer (some ⟨b, 0, none⟩))) (hgs : Blk w gs 88 #[.int .u8 s.p.toNat, .int .u16 s.v.toNat]) (hgm : Blk w gm 65 #[.int .u8 m.p.toNat, .int .u16 m.v.toNat, .int .u8 m.l.toNat]) :
    ClM w (.func (.func 45) #[] #[.pointer (some ⟨gt, 0, none⟩), .pointer (some ⟨gs, 0, none⟩), .pointer (some ⟨gm, 0, none⟩)]) (fun x => decide (Sp.mk x.p (T.of x).v = s) && decide (m.l.toNat ≤ (T.of x).l.toNat)) T.E :=
  ⟨_, #[], _, rfl, eg_below, fun W x hx hW => by
    have := of_level h.inv hx
    exact below1_any (h.gro hW) s m x this.2.1 this.2.2 gt gs gm ((hW.cell (World.block_lt_of_cell? w _ hgt)).trans hgt) (hW.blk hgs) (hW.blk hgm)⟩
end
end Go.Proofs.Ytfdiolfelecccaa
