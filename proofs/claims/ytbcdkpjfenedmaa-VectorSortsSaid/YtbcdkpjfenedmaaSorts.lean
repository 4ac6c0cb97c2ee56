/- VectorSorts: sorted vectors rise, and are the same ones; the least path is one of them, and none greater than any: for any rows, without a condition. -/
import Derived.Test.YtbcdkpjfenedmaaWakes
import Derived.Test.YtbcdkpjfenedmaaVecOpen
import Derived.Test.YtbcdkpjfenedmaaVecSeq
import Derived.Test.YtbcdkpjfenedmaaVecSort
import Derived.Test.YtbcdkpjfenedmaaApp
import Derived.OpenShut
import Derived.Deep.RegionHeld3
import Derived.Deep.DeepCutAuto
import Derived.BigQuiet
import Derived.ShutString
import Derived.ChangeOld
namespace Go.Proofs.Ytbcdkpjfenedmaa.vectorSorts
open Go.ChangeShapes Go.WideShapes Go.ChangeAt Go.RowKit
open Go.ChangeMaps (open_string shut_string)
set_option linter.unusedVariables false
set_option linter.unusedSimpArgs false


/-- the path that the statement makes of place i -/
def inp (ins : List Int) (i : Nat) : Int := (ins[i]?).getD 0
def pathsOf (l : List Ve) (ins : List Int) : List Pa := l.mapIdx (fun i x => ⟨x, inp ins i⟩)
theorem pathsOf_len (l : List Ve) (ins : List Int) : (pathsOf l ins).length = l.length := by simp [pathsOf]
theorem pathsOf_get (l : List Ve) (ins : List Int) (k : Nat) (h : k < l.length) : (pathsOf l ins)[k]'(by rw [pathsOf_len]; exact h) = ⟨l[k], inp ins k⟩ := by simp [pathsOf]
theorem pathsOf_take (l : List Ve) (ins : List Int) (k : Nat) (h : k < l.length) : (pathsOf l ins).take (k + 1) = (pathsOf l ins).take k ++ [⟨l[k], inp ins k⟩] := by
  rw [List.take_succ_eq_append_getElem (by rw [pathsOf_len]; exact h), pathsOf_get l ins k h]
def cnt (x : Ve) (l : List Ve) (k : Nat) : Nat := (l.take k).count x
theorem cnt_zero (x : Ve) (l : List Ve) : cnt x l 0 = 0 := by simp [cnt]
theorem cnt_succ (x : Ve) (l : List Ve) (k : Nat) (h : k < l.length) : cnt x l (k + 1) = cnt x l k + if l[k] = x then 1 else 0 := by
  unfold cnt
  rw [List.take_succ_eq_append_getElem h, List.count_append, List.count_singleton]
  simp
theorem cnt_yes {x y : Ve} {l : List Ve} {k : Nat} (h : k < l.length) (hy : l[k] = y) (e : y = x) : cnt x l (k + 1) = cnt x l k + 1 := by rw [cnt_succ x l k h, if_pos (hy.trans e)]
theorem cnt_no {x y : Ve} {l : List Ve} {k : Nat} (h : k < l.length) (hy : l[k] = y) (e : ¬ y = x) : cnt x l (k + 1) = cnt x l k := by rw [cnt_succ x l k h, if_neg (by rw [hy]; exact e)]; rfl
theorem cnt_le (x : Ve) (l : List Ve) (k : Nat) : cnt x l k ≤ k := by
  unfold cnt
  exact Nat.le_trans List.count_le_length (by rw [List.length_take]; omega)
theorem cnt_perm {l ts : List Ve} (h : ts.Perm l) (x : Ve) (n : Nat) (hn : l.length = n) : cnt x ts n = cnt x l n := by
  unfold cnt
  rw [List.take_of_length_le (by rw [h.length_eq]; omega), List.take_of_length_le (by omega)]
  exact h.count_eq x
theorem cmpP_lt {x y : Pa} : cmpP x y < 0 ↔ lessV x.v y.v = true ∨ x.v = y.v ∧ x.i < y.i := by
  unfold cmpP
  split
  · rename_i h
    rw [cmpI_lt, h]
    simp [lessV_irrefl]
  · rename_i h
    rw [cmpV_lt]
    simp [h]
theorem cmpP_trans {x y z : Pa} (h1 : cmpP x y < 0) (h2 : cmpP y z < 0) : cmpP x z < 0 := by
  rw [cmpP_lt] at *
  rcases h1 with h1 | ⟨h1, h1'⟩
  · rcases h2 with h2 | ⟨h2, h2'⟩
    · exact .inl (lessV_trans h1 h2)
    · exact .inl (h2 ▸ h1)
  · rcases h2 with h2 | ⟨h2, h2'⟩
    · exact .inl (h1 ▸ h2)
    · exact .inr ⟨h1.trans h2, by omega⟩
theorem cmpP_irrefl (x : Pa) : ¬ cmpP x x < 0 := by rw [cmpP_lt]; simp [lessV_irrefl]
theorem cmpP_neg {x y z : Pa} (h1 : ¬ cmpP y x < 0) (h2 : cmpP z x < 0) : ¬ cmpP y z < 0 := fun h => h1 (cmpP_trans h h2)
theorem fold_mem (l : List Pa) (m : Pa) : l.foldl stepP m = m ∨ l.foldl stepP m ∈ l := by
  induction l generalizing m with
  | nil => exact .inl rfl
  | cons x l ih =>
    simp only [List.foldl_cons]
    rcases ih (stepP m x) with h | h
    · rw [h]
      unfold stepP
      split
      · exact .inr (by simp)
      · exact .inl rfl
    · exact .inr (List.mem_cons_of_mem _ h)
theorem step_le (m x : Pa) : ¬ cmpP m (stepP m x) < 0 ∧ ¬ cmpP x (stepP m x) < 0 := by
  unfold stepP
  split
  · rename_i h
    exact ⟨cmpP_neg (cmpP_irrefl m) h, cmpP_irrefl x⟩
  · rename_i h
    exact ⟨cmpP_irrefl m, h⟩
theorem fold_le (l : List Pa) (m y : Pa) (h : y ∈ m :: l) : ¬ cmpP y (l.foldl stepP m) < 0 := by
  induction l generalizing m y with
  | nil =>
    obtain rfl : y = m := by simpa using h
    exact cmpP_irrefl _
  | cons x l ih =>
    simp only [List.foldl_cons]
    have hs := ih (stepP m x) (stepP m x) (by simp)
    have key : ∀ z, ¬ cmpP z (stepP m x) < 0 → ¬ cmpP z (l.foldl stepP (stepP m x)) < 0 := by
      intro z hz hlt
      rcases fold_mem l (stepP m x) with e | e
      · rw [e] at hlt; exact hz hlt
      · by_cases h3 : cmpP (l.foldl stepP (stepP m x)) (stepP m x) < 0
        · exact hz (cmpP_trans hlt h3)
        · -- neither is less: the same in both numbers
          have a := cmpP_lt (x := l.foldl stepP (stepP m x)) (y := stepP m x)
          have b := cmpP_lt (x := stepP m x) (y := l.foldl stepP (stepP m x))
          have a' : ¬ (lessV (l.foldl stepP (stepP m x)).v (stepP m x).v = true ∨ (l.foldl stepP (stepP m x)).v = (stepP m x).v ∧ (l.foldl stepP (stepP m x)).i < (stepP m x).i) := fun t => h3 (a.2 t)
          have b' : ¬ (lessV (stepP m x).v (l.foldl stepP (stepP m x)).v = true ∨ (stepP m x).v = (l.foldl stepP (stepP m x)).v ∧ (stepP m x).i < (l.foldl stepP (stepP m x)).i) := fun t => hs (b.2 t)
          have hv : (l.foldl stepP (stepP m x)).v = (stepP m x).v := by
            refine lessV_tri ?_ ?_
            · cases h : lessV (l.foldl stepP (stepP m x)).v (stepP m x).v with
              | false => rfl
              | true => exact absurd (.inl h) a'
            · cases h : lessV (stepP m x).v (l.foldl stepP (stepP m x)).v with
              | false => rfl
              | true => exact absurd (.inl h) b'
          have hi : (l.foldl stepP (stepP m x)).i = (stepP m x).i := by
            have h1 : ¬ (l.foldl stepP (stepP m x)).i < (stepP m x).i := fun t => a' (.inr ⟨hv, t⟩)
            have h2 : ¬ (stepP m x).i < (l.foldl stepP (stepP m x)).i := fun t => b' (.inr ⟨hv.symm, t⟩)
            omega
          rw [cmpP_lt, hv, hi, ← cmpP_lt] at hlt
          exact hz hlt
    rcases List.mem_cons.1 h with rfl | h
    · exact key _ (step_le _ _).1
    · rcases List.mem_cons.1 h with rfl | h
      · exact key _ (step_le _ _).2
      · exact ih (stepP m x) y (List.mem_cons_of_mem _ h)
theorem minP_mem {l : List Pa} (h : 0 < l.length) : minP l ∈ l := by
  cases l with
  | nil => simp at h
  | cons x l =>
    rcases fold_mem l x with e | e
    · simp only [minP]; rw [e]; simp
    · exact List.mem_cons_of_mem _ e
theorem minP_le {l : List Pa} {y : Pa} (h : y ∈ l) : ¬ cmpP y (minP l) < 0 := by
  cases l with
  | nil => simp at h
  | cons x l => exact fold_le l x y h
/-- what the last loop asks of each path -/
theorem minP_ask {l : List Pa} {y : Pa} (h : y ∈ l) : cmpV (minP l).v y.v < 0 ∨ cmpV (minP l).v y.v = 0 ∧ (minP l).i ≤ y.i := by
  have h1 := minP_le h
  rw [cmpP_lt] at h1
  have h2 := cmpV_gt (x := (minP l).v) (y := y.v)
  have h3 : ¬ 0 < cmpV (minP l).v y.v := fun t => h1 (.inl (h2.1 t))
  rcases Int.lt_or_eq_of_le (Int.not_lt.1 h3) with h4 | h4
  · exact .inl h4
  · refine .inr ⟨h4, ?_⟩
    have e := cmpV_zero.1 h4
    have : ¬ y.i < (minP l).i := fun t => h1 (.inr ⟨e.symm, t⟩)
    omega
/-- is the least among the first k? -/
def among (m : Pa) (l : List Pa) (k : Nat) : Bool := decide (m ∈ l.take k)
theorem among_zero (m : Pa) (l : List Pa) : among m l 0 = false := by simp [among]
theorem among_succ {m y : Pa} {l : List Pa} {k : Nat} (h : k < l.length) (hy : l[k] = y) : among m l (k + 1) = (among m l k || decide (m = y)) := by
  unfold among
  rw [List.take_succ_eq_append_getElem h, hy]
  simp
theorem among_all {l : List Pa} (n : Nat) (hn : l.length = n) (h : 0 < n) : among (minP l) l n = true := by
  unfold among
  rw [List.take_of_length_le (by omega)]
  simpa using minP_mem (l := l) (by omega)

theorem eqV_yes {x y : Ve} (h : x = y) : ∀ w, (Op.equalIn 10000 27 (VV x) (VV y)).run Try.prog w = .ok true w := fun w => by rw [run_eqV]; simp [h]
theorem eqV_no {x y : Ve} (h : ¬ x = y) : ∀ w, (Op.equalIn 10000 27 (VV x) (VV y)).run Try.prog w = .ok false w := fun w => by rw [run_eqV]; simp [h]
theorem below_drewN {B : Nat} {a w : World} (h : Below B a w) (n : Nat) : Below B a (w.drewN n) := ⟨h.os, h.tape, h.output, h.size, h.block⟩
theorem wpl_append_own {P : Program} {w : World} {ops : Array Oper} {rest : List Oper} {o : Oper} {a : Act} {Q : Exit → Act → World → Prop} (hgd : o.guard = none) (s x : Operand) (t : TypeId)
    (ho : o.op = .call { callee := .builtin .append, args := #[s, x], argTypes := #[t, t] })
    (base : Nat) (e : TypeId) (i : TypeInfo) (z : Value) (size bytes : Nat) (ht : P.underlying t = some (.slice e)) (hi : P.info? e = some i) (hz : i.zero = some z)
    (hsize : i.size = size) (hby : i.bytes = bytes) (hzs : z.cells.size = size) (hsz : 0 < size)
    (v : Value) (n : Nat) (xs : List Value) (hs : a.eval s = v) (hown : w.ownsRow base e size v n xs)
    (ad : Addr) (m c : Nat) (news : List Value) (hx : a.eval x = .slice (some ad) m c) (hl : news.length = m * size) (hnews : ∀ j u, news[j]? = some u → w.cell? (ad.add j) = some u) (h1 : ∀ u ∈ news, u.oneCell' = true)
    (h63 : n + m ≤ maxLen) (hbytes : (n + m) * bytes ≤ 140737488355328) (hbase : base ≤ w.heap.size)
    (h : ∀ v' w', w'.ownsRow base e size v' (n + m) (xs ++ news) → w.grownBy w' v.ownBlock → wpList P ops Q rest (a.put o.dst v') w') :
    wpList P ops Q (o :: rest) a w :=
  wpList_plain hgd fun _ hK => by
    obtain ⟨v', w', hr, h2, h3, _, _⟩ := run_append_own_at (P := P) w base t o.type e i z size bytes ht hi hz hsize hby hzs hsz v n xs hown ad m c news hl hnews h1 h63 hbytes hbase
    unfold Oper.wp execOp
    simp only [ho, resolve, invoke, builtin, Sem.run_bind, Sem.run_pure, Result.andThen_ok, List.map_toArray, List.map_cons, List.map_nil, hs, hx, hr]
    exact hK _ _ (h _ _ h2 h3)
/-- a slice of bytes, as numbers -/
def encB (b : Int) : List Value := [.int .u8 b]
theorem infoP : (Try.prog.info? 41).map (fun i => (i.zero, i.size, i.bytes)) = some (some (.agg #[.int .u64 0, .int .u32 0, .int .u64 0, .int .u8 0, .int .u8 0]), 5, 40) := by kernel_rfl
theorem encP_one (x : Pa) : ∀ u ∈ encP x, u.oneCell' = true := by
  intro u hu
  simp only [encP, List.mem_cons, List.mem_nil_iff, or_false] at hu
  rcases hu with rfl | rfl | rfl | rfl | rfl <;> rfl
theorem keep18 {W w w' : World} (g0 g1 o0 o1 : Nat) (x0 : Ve) (x1 : Ve) (h0 : w.cell? ⟨g0, o0, none⟩ = some (.int .u64 x0.r)) (h1 : w.cell? ⟨g0, o0 + 1, none⟩ = some (.int .u32 x0.c)) (h2 : w.cell? ⟨g0, o0 + 2, none⟩ = some (.int .u64 x0.b)) (h3 : w.cell? ⟨g0, o0 + 3, none⟩ = some (.int .u8 x0.p)) (h4 : w.cell? ⟨g1, o1, none⟩ = some (.int .u64 x1.r)) (h5 : w.cell? ⟨g1, o1 + 1, none⟩ = some (.int .u32 x1.c)) (h6 : w.cell? ⟨g1, o1 + 2, none⟩ = some (.int .u64 x1.b)) (h7 : w.cell? ⟨g1, o1 + 3, none⟩ = some (.int .u8 x1.p)) (hB : Hid (Below W.heap.size W w)) (hb : Below w.heap.size w w') : w'.cell? ⟨g0, o0, none⟩ = some (.int .u64 x0.r) ∧ w'.cell? ⟨g0, o0 + 1, none⟩ = some (.int .u32 x0.c) ∧ w'.cell? ⟨g0, o0 + 2, none⟩ = some (.int .u64 x0.b) ∧ w'.cell? ⟨g0, o0 + 3, none⟩ = some (.int .u8 x0.p) ∧ w'.cell? ⟨g1, o1, none⟩ = some (.int .u64 x1.r) ∧ w'.cell? ⟨g1, o1 + 1, none⟩ = some (.int .u32 x1.c) ∧ w'.cell? ⟨g1, o1 + 2, none⟩ = some (.int .u64 x1.b) ∧ w'.cell? ⟨g1, o1 + 3, none⟩ = some (.int .u8 x1.p) ∧ Hid (Below W.heap.size W w') := by
  have hk : ∀ {g i : Nat} {v : Value}, w.cell? ⟨g, i, none⟩ = some v → w'.cell? ⟨g, i, none⟩ = some v := fun {g i v} h => (hb.cell (p := ⟨g, i, none⟩) (World.block_lt_of_cell? w _ h)).trans h
  exact ⟨hk h0, hk h1, hk h2, hk h3, hk h4, hk h5, hk h6, hk h7, Lib.hid (hB.out.trans (hb.mono hB.out.size))⟩

theorem keep29 {W w w' : World} (g0 g1 o1 : Nat) (x0 : Ve) (x1 : Ve) (h0 : w.cell? ⟨g0, 0, none⟩ = some (.int .u64 x0.r)) (h1 : w.cell? ⟨g0, 1, none⟩ = some (.int .u32 x0.c)) (h2 : w.cell? ⟨g0, 2, none⟩ = some (.int .u64 x0.b)) (h3 : w.cell? ⟨g0, 3, none⟩ = some (.int .u8 x0.p)) (h4 : w.cell? ⟨g1, o1, none⟩ = some (.int .u64 x1.r)) (h5 : w.cell? ⟨g1, o1 + 1, none⟩ = some (.int .u32 x1.c)) (h6 : w.cell? ⟨g1, o1 + 2, none⟩ = some (.int .u64 x1.b)) (h7 : w.cell? ⟨g1, o1 + 3, none⟩ = some (.int .u8 x1.p)) (hB : Hid (Below W.heap.size W w)) (hb : Below w.heap.size w w') : w'.cell? ⟨g0, 0, none⟩ = some (.int .u64 x0.r) ∧ w'.cell? ⟨g0, 1, none⟩ = some (.int .u32 x0.c) ∧ w'.cell? ⟨g0, 2, none⟩ = some (.int .u64 x0.b) ∧ w'.cell? ⟨g0, 3, none⟩ = some (.int .u8 x0.p) ∧ w'.cell? ⟨g1, o1, none⟩ = some (.int .u64 x1.r) ∧ w'.cell? ⟨g1, o1 + 1, none⟩ = some (.int .u32 x1.c) ∧ w'.cell? ⟨g1, o1 + 2, none⟩ = some (.int .u64 x1.b) ∧ w'.cell? ⟨g1, o1 + 3, none⟩ = some (.int .u8 x1.p) ∧ Hid (Below W.heap.size W w') := by
  have hk : ∀ {g i : Nat} {v : Value}, w.cell? ⟨g, i, none⟩ = some v → w'.cell? ⟨g, i, none⟩ = some v := fun {g i v} h => (hb.cell (p := ⟨g, i, none⟩) (World.block_lt_of_cell? w _ h)).trans h
  exact ⟨hk h0, hk h1, hk h2, hk h3, hk h4, hk h5, hk h6, hk h7, Lib.hid (hB.out.trans (hb.mono hB.out.size))⟩


set_option maxRecDepth 100000 in
set_option maxHeartbeats 4000000 in
theorem sorts_law (W : World) (A B : Option Addr) (c cb : Nat) (l : List Ve) (ins : List Int) (hl : l.length ≤ maxLen) (hi : ins.length ≤ maxLen) (hE : Els 4 encV W A l) (hEb : Els 1 encB W B ins) :
    Calls Try.prog 6 #[.slice A l.length c, .slice B ins.length cb] W fun e w' => e = .returned (.bool true) ∧ Below W.heap.size W w' := by
  have HE := Lib.hid hE
  have HEb := Lib.hid hEb
  obtain ⟨n, hn⟩ : ∃ n, l.length = n := ⟨_, rfl⟩
  obtain ⟨nb, hnb⟩ : ∃ n, ins.length = n := ⟨_, rfl⟩
  have HN := Lib.hid hn
  have HNb := Lib.hid hnb
  rw [hn] at hl ⊢
  rw [hnb] at hi ⊢
  unfold maxLen at hl hi
  clear hE hn hEb hnb
  by_cases h50 : 50 < n
  · have d : decide ((50 : Int) < (n : Int)) = true := by simp; omega
    clear hl hi
    go_enter Try.func6, Try.ntmps6
    go_wp2_with fail
    refine (wakes_any _).mono ?_
    rintro e w1 ⟨rfl, hb⟩
    have HB := Lib.hid hb
    clear hb
    go_wp2
    go_ret
    exact ⟨rfl, HB.out⟩
  · have d : decide ((50 : Int) < (n : Int)) = false := by simp; omega
    have h50' : n ≤ 50 := by omega
    obtain ⟨i0, hi0, hz0, hz1, hz2⟩ := info_parts infoP
    have HI : Hid (Try.prog.info? 41 = some i0 ∧ i0.zero = some (.agg #[.int .u64 0, .int .u32 0, .int .u64 0, .int .u8 0, .int .u8 0]) ∧ i0.size = 5 ∧ i0.bytes = 40) := Lib.hid ⟨hi0, hz0, hz1, hz2⟩
    have kS := sort_any W A c l (by rw [HN.out]; omega) HE.out
    rw [HN.out] at kS
    clear hl h50 hi0 hz0 hz1 hz2
    go_enter Try.func6, Try.ntmps6
    go_wp2_with fail
    refine kS.mono ?_
    rintro e w0 ⟨A', c', ts, rfl, hperm, hsort, hEt, hB0⟩
    have hdn : (n != n) = false := by simp
    have HP := Lib.hid hperm
    have HS := Lib.hid hsort
    have HL : Hid (ts.length = n) := Lib.hid (hperm.length_eq.trans HN.out)
    have HT := Lib.hid hEt
    have HB0 := Lib.hid hB0
    have HEl := Lib.hid (HE.out.next hB0)
    have HEi := Lib.hid (HEb.out.next hB0)
    rw [HN.out]
    clear hperm hsort hEt hB0 kS HE HEb
    go_wp2_with fail
    go_loopw [6, 7] (fun v i wr => ∃ k : Nat, k ≤ n ∧ i = .int .i64 k ∧ Hid (wr.ownsRow w0.heap.size 41 5 v k (((pathsOf l ins).take k).flatMap encP)) ∧ Below w0.heap.size w0 wr) (fun _ i _ => n - (intOf i).toNat)
    case atStart => exact ⟨0, Nat.zero_le _, rfl, Lib.hid (World.ownsRow_nil _ _ _ _), Below.refl _ _⟩
    case round =>
      obtain ⟨k, hk, rfl, hO, hB⟩ := hrel
      by_cases hlt : k < n
      · have hlt' : k < l.length := by rw [HN.out]; exact hlt
        obtain ⟨b, off, rfl, hbA, hc⟩ := HEl.out (by omega)
        obtain ⟨b1, o1, rfl, hbT, hct⟩ := HT.out (by have := HL.out; omega)
        obtain ⟨x, hx⟩ : ∃ x, l[k] = x := ⟨_, rfl⟩
        have HX := Lib.hid hx
        have HC := Lib.hid hc
        have HCt := Lib.hid hct
        have HO := Lib.hid hO
        have HB := Lib.hid hB
        clear hx hc hct hO hB
        obtain ⟨wo, rfl⟩ : ∃ wo, wo = wr := ⟨_, rfl⟩
        go_wp2_with fail
        go_loopw [8, 9, 10] (fun a b i wi => ∃ j : Nat, j ≤ n ∧ i = .int .i64 j ∧ a = .int .i64 (cnt x l j : Nat) ∧ b = .int .i64 (cnt x ts j : Nat) ∧ Below wo.heap.size wo wi) (fun _ _ i _ => n - (intOf i).toNat)
        case atStart => exact ⟨0, Nat.zero_le _, rfl, by rw [cnt_zero]; rfl, by rw [cnt_zero]; rfl, Below.refl _ _⟩
        case round =>
          obtain ⟨wi, rfl⟩ : ∃ wi, wi = wr := ⟨_, rfl⟩
          obtain ⟨j, hj, rfl, rfl, rfl, hb⟩ := hrel
          have hBi : Below w0.heap.size w0 wi := HB.out.trans (hb.mono HB.out.size)
          by_cases hjn : j < n
          · have hjl : j < l.length := by rw [HN.out]; exact hjn
            have hjt : j < ts.length := by rw [HL.out]; exact hjn
            obtain ⟨y, hy⟩ : ∃ y, l[j] = y := ⟨_, rfl⟩
            obtain ⟨z, hz⟩ : ∃ z, ts[j] = z := ⟨_, rfl⟩
            obtain ⟨x0, x1, x2, x3⟩ := vcells (w := wi) (fun i h jj v hv => (hBi.cell (p := ⟨b, off + i * 4 + jj, none⟩) hbA).trans (HC.out i h jj v hv)) k hlt' x HX.out
            obtain ⟨y0, y1, y2, y3⟩ := vcells (w := wi) (fun i h jj v hv => (hBi.cell (p := ⟨b, off + i * 4 + jj, none⟩) hbA).trans (HC.out i h jj v hv)) j hjl y hy
            obtain ⟨z0, z1, z2, z3⟩ := vcells (w := wi) (fun i h jj v hv => (hBi.cell (p := ⟨b1, o1 + i * 4 + jj, none⟩) hbT).trans (HCt.out i h jj v hv)) j hjt z hz
            have c1 := cnt_le x l j
            have c2 := cnt_le x ts j
            obtain ⟨n1, hn1⟩ : ∃ n1, cnt x l j = n1 := ⟨_, rfl⟩
            obtain ⟨n2, hn2⟩ : ∃ n2, cnt x ts j = n2 := ⟨_, rfl⟩
            rw [hn1] at c1 ⊢
            rw [hn2] at c2 ⊢
            have J1 : Hid ((y = x → cnt x l (j + 1) = n1 + 1) ∧ (¬ y = x → cnt x l (j + 1) = n1)) := Lib.hid ⟨fun e => by rw [cnt_yes hjl hy e, hn1], fun e => by rw [cnt_no hjl hy e, hn1]⟩
            have J2 : Hid ((z = x → cnt x ts (j + 1) = n2 + 1) ∧ (¬ z = x → cnt x ts (j + 1) = n2)) := Lib.hid ⟨fun e => by rw [cnt_yes hjt hz e, hn2], fun e => by rw [cnt_no hjt hz e, hn2]⟩
            have HBj := Lib.hid hb
            clear hn1 hn2 hy hz hBi hb
            by_cases hyx : y = x <;> by_cases hzx : z = x
            all_goals (
              first | (have e1 := eqV_yes hyx; have K1 : Hid (cnt x l (j + 1) = n1 + 1) := Lib.hid (J1.out.1 hyx)) | (have e1 := eqV_no hyx; have K1 : Hid (cnt x l (j + 1) = n1) := Lib.hid (J1.out.2 hyx))
              first | (have e2 := eqV_yes hzx; have K2 : Hid (cnt x ts (j + 1) = n2 + 1) := Lib.hid (J2.out.1 hzx)) | (have e2 := eqV_no hzx; have K2 : Hid (cnt x ts (j + 1) = n2) := Lib.hid (J2.out.2 hzx))
              clear hyx hzx J1 J2
              go_wp2_with fail
              go_quiet (fail)
              go_wp2_with fail
              go_quiet (fail)
              go_wp2
              go_roundw
              case rel => exact ⟨j + 1, by omega, by go_num, by rw [K1.out]; first | done | rfl | go_num, by rw [K2.out]; first | done | rfl | go_num, (by repeat (first | exact HBj.out | (refine Below.drew ?_) | (refine below_drewN ?_ _)))⟩
              case measure => simp [intOf]; omega)
          · obtain rfl : j = n := by omega
            have HBj := Lib.hid hb
            rw [cnt_perm HP.out x j HN.out]
            obtain ⟨n1, hn1⟩ : ∃ n1, cnt x l j = n1 := ⟨_, rfl⟩
            rw [hn1]
            clear hn1 hb hBi hjn
            have hdc : ((n1 : Int) != (n1 : Int)) = false := by simp
            go_upto_region 18 with fail
            go_cut [81] (fun t wx => t = .bool false ∧ Below wo.heap.size wo wx)
            case first =>
              by_cases hk0 : k = 0
              · subst hk0
                go_quiet (fail)
                go_wp2_with fail
                go_meet
                exact ⟨rfl, below_drewN HBj.out _⟩
              · obtain ⟨k1, hk1⟩ : ∃ k1, k = k1 + 1 := ⟨k - 1, by omega⟩
                have hk1t : k1 < ts.length := by rw [HL.out]; omega
                have hkt : k < ts.length := by rw [HL.out]; omega
                have hw0 : IntKind.i64.wrap ((k : Int) - 1) = (k1 : Int) := by rw [hk1]; simp [IntKind.wrap, IntKind.signed, IntKind.bits]; omega
                have d0 : 0 < k := by omega
                have d1 : k1 < j := by omega
                have hBi : Below w0.heap.size w0 wi.drew := (HB.out.trans (HBj.out.mono HB.out.size)).drew
                obtain ⟨x1, hx1⟩ : ∃ x1, ts[k1] = x1 := ⟨_, rfl⟩
                obtain ⟨x2, hx2⟩ : ∃ x2, ts[k] = x2 := ⟨_, rfl⟩
                obtain ⟨x0, x1_, x2_, x3⟩ := vcells (w := wi) (fun i h jj v hv => (hBi.cell (p := ⟨b1, o1 + i * 4 + jj, none⟩) hbT).trans (HCt.out i h jj v hv)) k1 hk1t x1 hx1
                obtain ⟨y0, y1_, y2_, y3⟩ := vcells (w := wi) (fun i h jj v hv => (hBi.cell (p := ⟨b1, o1 + i * 4 + jj, none⟩) hbT).trans (HCt.out i h jj v hv)) k hkt x2 hx2
                have hs := HS.out k1 k (by omega) hkt
                have kC := fun W => (compare_any W x1 x2).mono (fun _ _ h => (⟨h.1, h.2.below⟩ : _ ∧ Below W.heap.size W _))
                have hq : ¬ 0 < cmpV x1 x2 := by rw [cmpV_gt, ← hx1, ← hx2, hs]; simp
                obtain ⟨q, hq'⟩ : ∃ q, cmpV x1 x2 = q := ⟨_, rfl⟩
                rw [hq'] at hq kC
                have dq : decide (0 < q) = false := by simpa using hq
                have HK1 := Lib.hid hk1
                have HBd : Hid (Below wo.heap.size wo wi.drew) := Lib.hid HBj.out.drew
                clear hx1 hx2 hs hq hq' hk1 hBi hk0
                go_region_held3 (fun w_ => w_.cell? ⟨b1, o1 + k1 * 4, none⟩ = some (.int .u64 x1.r) ∧ w_.cell? ⟨b1, o1 + k1 * 4 + 1, none⟩ = some (.int .u32 x1.c) ∧ w_.cell? ⟨b1, o1 + k1 * 4 + 2, none⟩ = some (.int .u64 x1.b) ∧ w_.cell? ⟨b1, o1 + k1 * 4 + 3, none⟩ = some (.int .u8 x1.p) ∧ w_.cell? ⟨b1, o1 + k * 4, none⟩ = some (.int .u64 x2.r) ∧ w_.cell? ⟨b1, o1 + k * 4 + 1, none⟩ = some (.int .u32 x2.c) ∧ w_.cell? ⟨b1, o1 + k * 4 + 2, none⟩ = some (.int .u64 x2.b) ∧ w_.cell? ⟨b1, o1 + k * 4 + 3, none⟩ = some (.int .u8 x2.p) ∧ Hid (Below wo.heap.size wo w_)) (go_keep)
                  (first
                    | (go_at_call 11; (with_reducible refine (kC _).mono ?_); rintro r w_ ⟨rfl, hb_⟩; obtain ⟨k0, k1, k2, k3, k4, k5, k6, k7, k8⟩ := keep18 (b1) (b1) (o1 + k1 * 4) (o1 + k * 4) (x1) (x2) (by assumption) (by assumption) (by assumption) (by assumption) (by assumption) (by assumption) (by assumption) (by assumption) (by assumption) hb_; clear hb_))
                all_goals (
                  go_wp2_with fail
                  go_meet
                  obtain ⟨_, _, _, _, _, _, _, _, hh⟩ := ‹_ ∧ _›
                  exact ⟨rfl, hh.out⟩)
            case rest =>
              obtain ⟨rfl, hbc⟩ := hcut
              have hBc : Below w0.heap.size w0 wc := HB.out.trans (hbc.mono HB.out.size)
              obtain ⟨x0, x1, x2, x3⟩ := vcells (w := wc) (fun i h jj v hv => (hBc.cell (p := ⟨b, off + i * 4 + jj, none⟩) hbA).trans (HC.out i h jj v hv)) k hlt' x HX.out
              have HOc : Hid (wc.ownsRow w0.heap.size 41 5 u6 k (((pathsOf l ins).take k).flatMap encP)) := Lib.hid (own_below HO.out hbc)
              have HBc := Lib.hid hBc
              have hbz : b < wc.heap.size := Nat.lt_of_lt_of_le hbA hBc.size
              obtain ⟨v, hv⟩ : ∃ v, inp ins k = v := ⟨_, rfl⟩
              have HV := Lib.hid hv
              clear hbc hBc hv hdc
              go_upto_if 90 with fail
              go_cut [11] (fun t wx => t = .pointer (some ⟨wc.heap.size, 0, none⟩) ∧ wx = wc.alloc (.cells #[.int .u64 (Pa.mk x v).v.r, .int .u32 (Pa.mk x v).v.c, .int .u64 (Pa.mk x v).v.b, .int .u8 (Pa.mk x v).v.p, .int .u8 (Pa.mk x v).i] 41))
              case first =>
                by_cases hkb : k < nb
                · have hkl : k < ins.length := by rw [HNb.out]; exact hkb
                  obtain ⟨b2, o2, rfl, hbI, hci⟩ := HEi.out (by omega)
                  have hcv := ((HBc.out.cell (p := ⟨b2, o2 + k * 1, none⟩) hbI).trans (hci k hkl 0 _ rfl))
                  have hv : ins[k] = v := by have := HV.out; unfold inp at this; rw [List.getElem?_eq_getElem hkl] at this; exact this
                  rw [hv, Nat.mul_one] at hcv
                  have hb2 : b2 < wc.heap.size := Nat.lt_of_lt_of_le hbI HBc.out.size
                  have dk : decide (k < nb) = true := by simpa using hkb
                  clear hv hci hbI
                  go_wp2_with fail
                  go_meet
                  exact ⟨rfl, rfl⟩
                · have dk : decide (k < nb) = false := by simpa using hkb
                  obtain rfl : v = 0 := by have := HV.out; unfold inp at this; rw [List.getElem?_eq_none (by rw [HNb.out]; omega)] at this; exact this.symm
                  go_wp2_with fail
                  go_meet
                  exact ⟨rfl, rfl⟩
              case rest =>
                obtain ⟨rfl, rfl⟩ := hcut
                have HT : Hid (((pathsOf l ins).take (k + 1)).flatMap encP = ((pathsOf l ins).take k).flatMap encP ++ encP ⟨x, v⟩) := Lib.hid (by rw [pathsOf_take l ins k hlt', HX.out, HV.out]; simp)
                obtain ⟨p0, p1, p2, p3, p4⟩ := (PA.new wc ⟨x, v⟩).cells
                have HB1 : Hid (Below w0.heap.size w0 (wc.alloc (.cells #[.int .u64 (Pa.mk x v).v.r, .int .u32 (Pa.mk x v).v.c, .int .u64 (Pa.mk x v).v.b, .int .u8 (Pa.mk x v).v.p, .int .u8 (Pa.mk x v).i] 41))) := Lib.hid (HBc.out.alloc HBc.out.size _)
                have HO1 : Hid ((wc.alloc (.cells #[.int .u64 (Pa.mk x v).v.r, .int .u32 (Pa.mk x v).v.c, .int .u64 (Pa.mk x v).v.b, .int .u8 (Pa.mk x v).v.p, .int .u8 (Pa.mk x v).i] 41)).ownsRow w0.heap.size 41 5 u6 k (((pathsOf l ins).take k).flatMap encP)) := Lib.hid (HOc.out.alloc _)
                have HCN : Hid (∀ j u, (encP ⟨x, v⟩)[j]? = some u → ((wc.alloc (.cells #[.int .u64 (Pa.mk x v).v.r, .int .u32 (Pa.mk x v).v.c, .int .u64 (Pa.mk x v).v.b, .int .u8 (Pa.mk x v).v.p, .int .u8 (Pa.mk x v).i] 41)).alloc (.cells #[.int .u64 (Pa.mk x v).v.r, .int .u32 (Pa.mk x v).v.c, .int .u64 (Pa.mk x v).v.b, .int .u8 (Pa.mk x v).v.p, .int .u8 (Pa.mk x v).i] 41)).cell? ((⟨wc.heap.size + 1, 0, none⟩ : Addr).add j) = some u) := Lib.hid (by have := cells_new (wc.alloc (.cells #[.int .u64 (Pa.mk x v).v.r, .int .u32 (Pa.mk x v).v.c, .int .u64 (Pa.mk x v).v.b, .int .u8 (Pa.mk x v).v.p, .int .u8 (Pa.mk x v).i] 41)) (encP ⟨x, v⟩) 41; rw [show (wc.alloc (.cells #[.int .u64 (Pa.mk x v).v.r, .int .u32 (Pa.mk x v).v.c, .int .u64 (Pa.mk x v).v.b, .int .u8 (Pa.mk x v).v.p, .int .u8 (Pa.mk x v).i] 41)).heap.size = wc.heap.size + 1 by simp] at this; exact this)
                clear x0 x1 x2 x3
                go_wp2_with (at_builtin; refine wpl_append_own rfl (.tmp 96) (.tmp 98) 37 rfl w0.heap.size 41 i0 (.agg #[.int .u64 0, .int .u32 0, .int .u64 0, .int .u8 0, .int .u8 0]) 5 40 Try.underlying37 HI.out.1 HI.out.2.1 HI.out.2.2.1 HI.out.2.2.2 rfl (by decide) u6 k (((pathsOf l ins).take k).flatMap encP) (by simp [Act.eval, Act.put]) (HO1.out.alloc _) ⟨wc.heap.size + 1, 0, none⟩ 1 1 (encP ⟨x, v⟩) (by simp [Act.eval, Act.put]) rfl HCN.out (encP_one _) (by simp only [maxLen]; omega) (by omega) (by have := HB1.out.size; simp at *; omega) ?_; intro v6 w6 ho6 hg6; have HO6 : Hid (w6.ownsRow w0.heap.size 41 5 v6 (k + 1) (((pathsOf l ins).take (k + 1)).flatMap encP)) := Lib.hid (by rw [HT.out]; exact ho6); have HB6 : Hid (Below w0.heap.size w0 w6) := Lib.hid (grown_below (HB1.out.alloc HB1.out.size _) (Nat.le_refl _) (HO1.out.alloc _) hg6); clear ho6 hg6)
                go_roundw
                case rel => exact ⟨k + 1, by omega, by go_num, HO6, HB6.out⟩
                case measure => simp [intOf]; omega
      · obtain rfl : k = n := by omega
        have hO' : wr.ownsRow w0.heap.size 41 5 u6 (pathsOf l ins).length ((pathsOf l ins).flatMap encP) := by
          have := hO.out
          rw [List.take_of_length_le (by rw [pathsOf_len, HN.out]; omega)] at this
          rw [pathsOf_len, HN.out]
          exact this
        obtain ⟨Ap, cp, hv, hEp⟩ := own_els (k := 5) (enc := encP) (fun _ => rfl) hO'
        have hpl := pathsOf_len l ins
        obtain ⟨ps, hps⟩ : ∃ ps, pathsOf l ins = ps := ⟨_, rfl⟩
        rw [hps] at hv hEp hpl
        rw [HN.out] at hpl
        have HPl := Lib.hid hpl
        rw [hpl] at hv
        subst hv
        have kL := least_any wr Ap cp ps (by rw [hpl]; omega) hEp
        rw [hpl] at kL
        have hask := fun y (h : y ∈ ps) => minP_ask h
        have hall : among (minP ps) ps k = !ps.isEmpty := by
          cases ps with
          | nil => simp [among]
          | cons x r => exact among_all k hpl (by rw [← hpl]; simp)
        have hq : (!ps.isEmpty) = decide (0 < k) := by
          cases ps with
          | nil => simp at hpl; subst hpl; rfl
          | cons x r => have : 0 < k := by rw [← hpl]; simp
                        simp [this]
        rw [hq] at hall kL
        obtain ⟨m, hm⟩ : ∃ m, minP ps = m := ⟨_, rfl⟩
        obtain ⟨q, hq'⟩ : ∃ q, decide (0 < k) = q := ⟨_, rfl⟩
        rw [hm] at kL hask hall
        rw [hq'] at kL hall
        have HASK := Lib.hid hask
        have HALL := Lib.hid hall
        have HQ := Lib.hid hq'
        have HEp := Lib.hid hEp
        have HB := Lib.hid hB
        clear hask hall hq hq' hm hEp hpl hps hO hO' hB hlt
        go_wp2_with fail
        refine kL.mono ?_
        rintro e w1 ⟨rfl, hb⟩
        go_wp2_with fail
        obtain ⟨gp, hgp⟩ : ∃ g, w1.heap.size = g := ⟨_, rfl⟩
        obtain ⟨V, hV⟩ : ∃ V, w1.alloc (.cells #[.int .u64 m.v.r, .int .u32 m.v.c, .int .u64 m.v.b, .int .u8 m.v.p, .int .u8 m.i] 41) = V := ⟨_, rfl⟩
        have hP : PA V gp m := by rw [← hV, ← hgp]; exact PA.new w1 m
        have hbV : Below wr.heap.size wr V := by rw [← hV]; exact hb.alloc hb.size _
        have HEV := Lib.hid (HEp.out.next hbV)
        have HBV := Lib.hid (HB.out.trans (hbV.mono HB.out.size))
        have HP := Lib.hid hP
        rw [hV, hgp]
        clear hV hgp hP hbV hb HEp HB kL
        go_loopw [14, 15] (fun f i wz => ∃ j : Nat, j ≤ k ∧ i = .int .i64 j ∧ f = .bool (among m ps j) ∧ Below V.heap.size V wz) (fun _ i _ => k - (intOf i).toNat)
        case atStart => exact ⟨0, Nat.zero_le _, rfl, by rw [among_zero], Below.refl _ _⟩
        case round =>
          obtain ⟨wi, rfl⟩ : ∃ wi, wi = wr := ⟨_, rfl⟩
          obtain ⟨j, hj, rfl, rfl, hb⟩ := hrel
          by_cases hjk : j < k
          · have hjp : j < ps.length := by rw [HPl.out]; exact hjk
            obtain ⟨bp, op, rfl, hbp, hcp⟩ := HEV.out (by omega)
            obtain ⟨y, hy⟩ : ∃ y, ps[j] = y := ⟨_, rfl⟩
            have HY : Hid (∀ w, Below V.heap.size V w → w.cell? ⟨bp, op + j * 5, none⟩ = some (.int .u64 y.v.r) ∧ w.cell? ⟨bp, op + j * 5 + 1, none⟩ = some (.int .u32 y.v.c) ∧ w.cell? ⟨bp, op + j * 5 + 2, none⟩ = some (.int .u64 y.v.b) ∧ w.cell? ⟨bp, op + j * 5 + 3, none⟩ = some (.int .u8 y.v.p) ∧ w.cell? ⟨bp, op + j * 5 + 4, none⟩ = some (.int .u8 y.i)) :=
              Lib.hid (fun w hw => pcells (w := w) (fun i h jj v hv => (hw.cell (p := ⟨bp, op + i * 5 + jj, none⟩) hbp).trans (hcp i h jj v hv)) j hjp y hy)
            have hsucc := among_succ (m := m) hjp hy
            obtain ⟨f, hf⟩ : ∃ f, among m ps j = f := ⟨_, rfl⟩
            obtain ⟨r, hr⟩ : ∃ r, decide (m = y) = r := ⟨_, rfl⟩
            rw [hf, hr] at hsucc
            rw [hf]
            have HSU := Lib.hid hsucc
            have heq : ∀ w, (Op.equalIn 10000 41 (PV m) (PV y)).run Try.prog w = .ok r w := fun w => by rw [run_eqP, hr]
            have hay := HASK.out y (hy ▸ List.getElem_mem hjp)
            have kC := fun W => (compare_any W m.v y.v).mono (fun _ _ h => (⟨h.1, h.2.below⟩ : _ ∧ Below W.heap.size W _))
            obtain ⟨s, hs⟩ : ∃ s, cmpV m.v y.v = s := ⟨_, rfl⟩
            rw [hs] at hay kC
            have HAY := Lib.hid hay
            have HBj := Lib.hid hb
            clear hf hr hsucc hay hs hy hcp hb
            go_upto_region 29 with fail
            go_cut [16] (fun t wx => t = .int .i64 s ∧ Below V.heap.size V wx)
            case first =>
              obtain ⟨p0, p1, p2, p3, p4⟩ := PA.cells (Blk.below HP.out HBj.out.drew (PA.lt HP.out))
              obtain ⟨y0, y1, y2, y3, y4⟩ := HY.out _ HBj.out.drew
              have HBd : Hid (Below V.heap.size V wi.drew) := Lib.hid HBj.out.drew
              simp only [World.cell?_drew] at p0 p1 p2 p3 p4 y0 y1 y2 y3 y4
              clear p4 y4
              go_region_held3 (fun w_ => w_.cell? ⟨gp, 0, none⟩ = some (.int .u64 m.v.r) ∧ w_.cell? ⟨gp, 1, none⟩ = some (.int .u32 m.v.c) ∧ w_.cell? ⟨gp, 2, none⟩ = some (.int .u64 m.v.b) ∧ w_.cell? ⟨gp, 3, none⟩ = some (.int .u8 m.v.p) ∧ w_.cell? ⟨bp, op + j * 5, none⟩ = some (.int .u64 y.v.r) ∧ w_.cell? ⟨bp, op + j * 5 + 1, none⟩ = some (.int .u32 y.v.c) ∧ w_.cell? ⟨bp, op + j * 5 + 2, none⟩ = some (.int .u64 y.v.b) ∧ w_.cell? ⟨bp, op + j * 5 + 3, none⟩ = some (.int .u8 y.v.p) ∧ Hid (Below V.heap.size V w_)) (go_keep)
                (first
                  | (go_at_call 11; (with_reducible refine (kC _).mono ?_); rintro r w_ ⟨rfl, hb_⟩; obtain ⟨k0, k1, k2, k3, k4, k5, k6, k7, k8⟩ := keep29 (gp) (bp) (op + j * 5) (m.v) (y.v) (by assumption) (by assumption) (by assumption) (by assumption) (by assumption) (by assumption) (by assumption) (by assumption) (by assumption) hb_; clear hb_))
              all_goals (
                go_wp2_with fail
                go_meet
                obtain ⟨_, _, _, _, _, _, _, _, hh⟩ := ‹_ ∧ _›
                exact ⟨rfl, hh.out⟩)
            case rest =>
              obtain ⟨rfl, hbc⟩ := hcut
              have HBc := Lib.hid hbc
              obtain ⟨p0, p1, p2, p3, p4⟩ := PA.cells (Blk.below HP.out hbc (PA.lt HP.out))
              obtain ⟨y0, y1, y2, y3, y4⟩ := HY.out _ hbc
              clear hbc kC
              go_upto_region 30 with fail
              go_cut [14] (fun t wx => t = .bool (among m ps (j + 1)) ∧ ∃ n, wx = wc.drewN n)
              case first =>
                cases f with
                | true =>
                  go_quiet (fail)
                  go_wp2_with fail
                  go_meet
                  exact ⟨by rw [HSU.out]; rfl, _, rfl⟩
                | false =>
                  go_quiet (fail)
                  go_wp2_with fail
                  go_meet
                  exact ⟨by rw [HSU.out]; rfl, _, rfl⟩
              case rest =>
                obtain ⟨rfl, nd, rfl⟩ := hcut
                have HBd : Hid (Below V.heap.size V (wc.drewN nd)) := Lib.hid (below_drewN HBc.out nd)
                obtain ⟨wd, hwd⟩ : ∃ wd, wc.drewN nd = wd := ⟨_, rfl⟩
                rw [hwd] at HBd ⊢
                clear hwd p0 p1 p2 p3 p4 y0 y1 y2 y3 y4
                obtain ⟨p0, p1, p2, p3, p4⟩ := PA.cells (Blk.below HP.out HBd.out (PA.lt HP.out))
                obtain ⟨y0, y1, y2, y3, y4⟩ := HY.out _ HBd.out
                clear p0 p1 p2 p3 y0 y1 y2 y3 heq
                obtain ⟨f2, hf2⟩ : ∃ f, among m ps (j + 1) = f := ⟨_, rfl⟩
                have HF2 := Lib.hid hf2
                rw [hf2]
                clear hf2
                go_upto_region 31 with fail
                go_cut [143] (fun t wx => t = .bool false ∧ ∃ n, wx = wd.drewN n)
                case first =>
                  rcases HAY.out with h | ⟨h, hi⟩
                  · have d1 : decide (0 < s) = false := by simp; omega
                    have d2 : (s == 0) = false := by simp; omega
                    clear h
                    go_quiet (fail)
                    go_wp2_with fail
                    go_meet
                    exact ⟨rfl, _, rfl⟩
                  · subst h
                    have d1 : decide (y.i < m.i) = false := by simpa using hi
                    clear hi
                    go_quiet (fail)
                    go_wp2_with fail
                    go_meet
                    exact ⟨rfl, _, rfl⟩
                case rest =>
                  obtain ⟨rfl, ne, rfl⟩ := hcut
                  clear p4 y4
                  go_wp2
                  go_roundw
                  case rel => exact ⟨j + 1, by omega, by go_num, by rw [HF2.out], below_drewN HBd.out _⟩
                  case measure => simp [intOf]; omega
          · obtain rfl : j = k := by omega
            have HB1 : Hid (Below w0.heap.size w0 wi) := Lib.hid (HBV.out.trans (hb.mono HBV.out.size))
            rw [HALL.out]
            clear hb hjk
            have hF : Hid (Below W.heap.size W wi) := Lib.hid (HB0.out.trans (HB1.out.mono HB0.out.size))
            cases q with
            | true =>
              have hpos : 0 < j := by simpa using HQ.out
              go_wp2_with fail
              refine (wakes_any _).mono ?_
              rintro e w9 ⟨rfl, hb9⟩
              have HF := Lib.hid (hF.out.trans (hb9.mono hF.out.size))
              clear hb9
              go_wp2
              go_ret
              exact ⟨rfl, HF.out⟩
            | false =>
              have hz : j = 0 := by have := HQ.out; simp at this; omega
              subst hz
              go_wp2_with fail
              refine (wakes_any _).mono ?_
              rintro e w9 ⟨rfl, hb9⟩
              have HF := Lib.hid (hF.out.trans (hb9.mono hF.out.size))
              clear hb9
              go_wp2
              go_ret
              exact ⟨rfl, HF.out⟩

set_option maxRecDepth 100000 in
set_option maxHeartbeats 4000000 in
theorem walk {H : Type} {enc : TypeId × Value → H} (W : World) (base : Nat) {v0 v1 : Value} {d0 d1 : DataW H} {p0 p1 : List MemPlace}
    (o0 : Value.okWide Try.prog W .any base 48 v0) (h0 : DataW.Trod enc Try.prog W 0 (fun _ => true) true 48 v0 d0 p0) (o1 : Value.okWide Try.prog W .any base 49 v1) (h1 : DataW.Trod enc Try.prog W 0 (fun _ => true) true 49 v1 d1 p1) :
    Calls Try.prog 6 #[v0, v1] W fun e w' => e = .returned (.bool true) ∧ Below W.heap.size W w' := by
  obtain ⟨A, c, l, rfl, hl, _, _, hE⟩ := open_els 4 encV Ve.ok Try.underlying48 (e := 27) (by kernel_rfl) (by omega)
    (fun cs fuel x hl h => ve_trod Try.underlying27 ⟨rfl, rfl, rfl, rfl⟩ ⟨rfl, rfl, rfl, rfl⟩ (hl.trans (by kernel_rfl)) h) o0 h0
  obtain ⟨B, cb, ins, rfl, hi, _, _, hEb⟩ := open_els 1 encB (fun _ => True) Try.underlying49 (e := 5) (by kernel_rfl) (by omega)
    (fun cs fuel x hl h => by
      obtain ⟨n, e, _, hw⟩ := DataW.trod_int Try.underlying5 h
      exact ⟨n, trivial, e⟩) o1 h1
  exact sorts_law W A B c cb l ins hl hi hE hEb

theorem own : ownKnob Try.prog.godebug = none := by kernel_rfl
theorem laidOut : laidOutB Try.prog = true := by kernel_rfl
set_option maxRecDepth 100000 in
theorem lifted (os : Os) (started : os.Started) (H : Type) (enc : TypeId × Value → H) :
    ReturnsInHanded {} Try.checked os 6 .any (Rows.vectorSortsSpec.pre6 enc Try.prog Try.f6 Rows.vectorSortsRow.domain false) (Rows.vectorSortsSpec.post enc Try.prog Try.f6 false true false false) := by
  refine returnsInHanded_of_change (C := Try.checked) own started (by kernel_rfl) Try.func6
    (ChangeSpec.witness6 (enc := enc) (C := Try.checked) false ⟨#[], #[.slice none 0 0, .slice none 0 0], []⟩ 8 (by kernel_rfl) (by kernel_rfl) (by kernel_rfl) (by kernel_rfl)) ?_
  intro W base args ds gs before hval0 hW hcnd _
  have hval : ∀ (j : Nat) t v, Try.f6.params[j]? = some t → args[j]? = some v → Value.okWide Try.prog W .any base t v := hval0
  have hW' := hW
  obtain ⟨p, q, hA0, hV, rfl, hfz, hnd⟩ := hW
  have hA : DataW.TrodAll enc Try.prog W 0 (fun _ => true) true Try.f6.params.toList args.toList ds p := hA0
  rw [Try.params6] at hA hval
  obtain ⟨v0, vs0, d0, ds0, p0, q0, hargs, rfl, rfl, h0, r0⟩ := trodAll_cons hA
  obtain ⟨v1, vs1, d1, ds1, p1, q1, rfl, rfl, rfl, h1, r1⟩ := trodAll_cons r0
  obtain ⟨rfl, rfl, rfl⟩ := trodAll_nil r1
  obtain rfl : args = #[v0, v1] := by cases args; simp_all
  obtain ⟨rfl, rfl⟩ := trodVars_none hV
  have o0 := hval 0 48 v0 rfl rfl
  have lt0 : ∀ x ∈ p0, x.block < W.heap.size := by obtain ⟨m, hm⟩ := h0; exact DataW.trod_lt m _ _ _ hm
  have o1 := hval 1 49 v1 rfl rfl
  have lt1 : ∀ x ∈ p1, x.block < W.heap.size := by obtain ⟨m, hm⟩ := h1; exact DataW.trod_lt m _ _ _ hm
  clear hA0 hval0
  refine (walk W base o0 h0 o1 h1).mono fun e W' ⟨he, bel⟩ => ?_
  subst he
  exact ⟨_, rfl, _, _, _, [], _, [], hW', trodAll_mk1 (shut_bool Try.underlying4 _), (trodAll_cons_mk (Below.trod laidOut (by kernel_rfl) (of_decide_eq_true (by kernel_rfl)) h0 bel lt0) (trodAll_cons_mk (Below.trod laidOut (by kernel_rfl) (of_decide_eq_true (by kernel_rfl)) h1 bel lt1) trodAll_mk0)), rfl, bel.frame _, fun h => by cases h⟩

theorem over : Rows.vectorSortsRow.holds Try.pinned (OpenSpec.ofChange Rows.vectorSortsSpec) :=
  OpenClaim.holds_of_wide 6 Try.f6 rfl rfl rfl rfl rfl rfl rfl ⟨rfl, rfl, rfl, rfl, rfl⟩ rfl rfl rfl rfl rfl (by kernel_rfl) Try.func6 (by kernel_rfl)
    (of_decide_eq_true (by kernel_rfl)) (by unfold Func.isWrapper; first | (rw [if_pos (by decide +kernel)]; kernel_rfl) | (rw [if_neg (by decide +kernel)]; exact ⟨rfl, rfl⟩))
    (fun os started H enc _ => lifted os started H enc)

/-- THE STATEMENT -/
theorem proved : Rows.VectorSortsSaid := over
end Go.Proofs.Ytbcdkpjfenedmaa.vectorSorts
