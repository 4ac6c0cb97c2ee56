/- Layer 6: the document's queue. -/
import Derived.Test.YtofgdemkddbjeaaActs
import Derived.Deep.RegionLaw
import Derived.IntWalk
import Derived.Deep.DeepCutAuto
namespace Go.Proofs.Ytofgdemkddbjeaa
open Go.RowKit
set_option linter.unusedVariables false
set_option linter.unusedSimpArgs false
set_option maxRecDepth 100000

theorem infoI : (Try.prog.info? 3).map (fun i => (i.zero, i.size, i.bytes)) = some (some (.int .i64 0), 1, 8) := by kernel_rfl
/-- a row of numbers of one's own -/
def OwnI (w : World) (base : Nat) (v : Value) (l : List Int) : Prop := w.ownsRow base 3 1 v l.length (vi l)
theorem vi_one (l : List Int) : ∀ u ∈ vi l, u.oneCell' = true := by
  intro u hu
  obtain ⟨s, rfl⟩ := vi_ok l u hu
  rfl
theorem vi_app (l r : List Int) : vi (l ++ r) = vi l ++ vi r := by simp [vi]
/-- append of numbers onto a row of one's own, as a step of a region that draws -/
theorem step_append_ints {w : World} {ops : Array Oper} {o : Oper} {a : Act} {K : Act → World → Prop} {Q : Exit → Act → World → Prop} {E : Prop} (hgd : o.guard = none) (s x : Operand)
    (ho : o.op = .call { callee := .builtin .append, args := #[s, x], argTypes := #[29, 29] })
    (base : Nat) (v : Value) (l : List Int) (hs : a.eval s = v) (hown : OwnI w base v l)
    (A : Option Addr) (m c : Nat) (r : List Int) (hx : a.eval x = .slice A m c) (hm : m = r.length) (hz : A = none → c = 0) (hr : Els 1 one w A (vi r))
    (hlen : l.length + r.length ≤ 1000000) (hbase : base ≤ w.heap.size)
    (h : ∀ v' w', OwnI w' base v' (l ++ r) → w.grownBy w' v.ownBlock → K (a.put o.dst v') w') :
    if Region.wanted o (yielded ops a.tmps) = true then Oper.wp Try.prog o a w K Q else E := by
  have hw : Region.wanted o (yielded ops a.tmps) = true := by simp [Region.wanted, hgd]
  rw [if_pos hw]
  obtain ⟨i, hi, hz0, hz1, hz2⟩ := info_parts infoI
  subst hm
  have key : ∀ ad, A = some ad → (∀ j u, (vi r)[j]? = some u → w.cell? (ad.add j) = some u) → Oper.wp Try.prog o a w K Q := by
    rintro ad rfl hc
    obtain ⟨v', w', hr, h2, h3, _, _⟩ := run_append_own_at (P := Try.prog) w base _ o.type 3 i _ 1 8 Try.underlying29 hi hz0 hz1 hz2 rfl (by omega) v l.length (vi l) hown ad r.length c (vi r) (by simp [vi]) hc (vi_one r)
      (by simp only [maxLen]; omega) (by omega) hbase
    unfold Oper.wp execOp
    simp only [ho, resolve, invoke, builtin, Sem.run_bind, Sem.run_pure, Result.andThen_ok, List.map_toArray, List.map_cons, List.map_nil, hs, hx, hr]
    exact h _ _ (by unfold OwnI; rw [List.length_append, vi_app]; exact h2) h3
  rcases Nat.eq_zero_or_pos r.length with h0 | h0
  · have hr0 : r = [] := List.eq_nil_of_length_eq_zero h0
    subst hr0
    cases A with
    | none =>
      have hc := hz rfl
      subst hc
      have hrun := run_append_owned_none (P := Try.prog) (w := w) base 29 o.type 3 i 1 Try.underlying29 hi v l.length (vi l) hown
      unfold Oper.wp
      simp [execOp, ho, resolve, invoke, builtin, hs, hx, hrun, Result.andThen]
      exact h v w (by simpa using hown) ⟨rfl, rfl, rfl, Nat.le_refl _, fun _ _ _ => rfl⟩
    | some ad => exact key ad rfl (by simp [vi])
  · obtain ⟨b, off, rfl, hlt, hc⟩ := hr.at (by rw [vi_len]; exact h0)
    refine key _ rfl (fun j u hu => ?_)
    have hadd : (⟨b, off, none⟩ : Addr).add j = ⟨b, off + j, none⟩ := by unfold Addr.add; split <;> simp_all
    rw [hadd]
    exact hc j u hu

abbrev RQ (most : Int) (A : Option Addr) (n c : Nat) : Value := .agg #[.int .i64 most, .slice A n c]

/-- a slice that reads as these numbers -/
structure RL (w : World) (A : Option Addr) (c : Nat) (zs : List Int) : Prop where
  le : zs.length ≤ c
  nil : A = none → c = 0
  els : Els 1 one w A (vi zs)
theorem RL.next {w w' : World} {A : Option Addr} {c : Nat} {zs : List Int} (h : RL w A c zs) (hb : Below w.heap.size w w') : RL w' A c zs := ⟨h.le, h.nil, h.els.next hb⟩

theorem may_any (w : World) (n : Int) : Calls Try.prog 9 #[.int .i64 n] w fun e w' => e = .returned (.bool (decide (0 < n) && decide (n < 1025))) ∧ Below w.heap.size w w' := by
  by_cases h : 0 < n
  · have d : decide (0 < n) = true := by simpa using h
    obtain ⟨q, hq⟩ : ∃ q, decide (n < 1025) = q := ⟨_, rfl⟩
    rw [d, hq]
    go_enter Try.func9, Try.ntmps9
    go_wp2
    go_ret
    exact ⟨by simp, Below.refl _ _⟩
  · have d : decide (0 < n) = false := by simpa using h
    rw [d]
    go_enter Try.func9, Try.ntmps9
    go_wp2
    go_ret
    exact ⟨rfl, Below.refl _ _⟩

set_option maxHeartbeats 1000000 in
theorem refpop_none (w : World) (most : Int) (A : Option Addr) (c : Nat) :
    Calls Try.prog 11 #[RQ most A 0 c] w fun e w' => e = .returned (.tuple #[RQ most A 0 c, .int .i64 0, .int .i64 7]) ∧ Below w.heap.size w w' := by
  go_enter Try.func11, Try.ntmps11
  go_wp2
  exact bodyPost_ret (v := .tuple #[RQ most A 0 c, .int .i64 0, .int .i64 7]) (by simp [results, Try.results11, go_sem]) rfl ⟨rfl, (by repeat (first | exact Below.refl _ _ | (refine Below.drew ?_) | (refine Below.alloc ?_ (by simp; try omega) _) | (refine Below.setCell ?_ (by simp; try omega) _)))⟩

set_option maxHeartbeats 1000000 in
theorem refpop_some (w : World) (most : Int) (A : Option Addr) (c : Nat) (s : Int) (zs : List Int) (h : RL w A c (s :: zs)) :
    Calls Try.prog 11 #[RQ most A (zs.length + 1) c] w fun e w' => (∃ A' c', e = .returned (.tuple #[RQ most A' zs.length c', .int .i64 s, .int .i64 0]) ∧ RL w' A' c' zs ∧ ∀ b' o', A' = some ⟨b', o', none⟩ → ∃ o, A = some ⟨b', o, none⟩) ∧ Below w.heap.size w w' := by
  have hc : zs.length + 1 ≤ c := h.le
  obtain ⟨b, off, rfl, hlt, hcl⟩ := h.els.at (by simp [vi])
  have c0 : w.cell? ⟨b, off, none⟩ = some (.int .i64 s) := by simpa using hcl 0 _ rfl
  have HE : Hid (∃ A', (if c = 1 then some ⟨b, off, none⟩ else some ⟨b, off + 1, none⟩) = some A' ∧ A'.block = b ∧ Els 1 one w (some A') (vi zs)) := Lib.hid (by
    by_cases h1 : c = 1
    · rw [if_pos h1]
      have h0 : zs = [] := List.eq_nil_of_length_eq_zero (by omega)
      subst h0
      exact ⟨_, rfl, rfl, fun h => absurd h (by simp [vi])⟩
    · rw [if_neg h1]
      refine ⟨_, rfl, rfl, fun _ => ⟨b, off + 1, rfl, hlt, fun i hi j v hv => ?_⟩⟩
      obtain rfl : j = 0 := by
        have := (List.getElem?_eq_some_iff.1 hv).1
        simp only [one, List.length_cons, List.length_nil] at this
        omega
      have hv' : (vi zs)[i]? = some v := by
        simp only [one, List.getElem?_cons_zero, Option.some.injEq] at hv
        rw [← hv]; exact List.getElem?_eq_getElem hi
      have := hcl (i + 1) v (by simpa [vi] using hv')
      rw [show off + 1 + i * 1 + 0 = off + (i + 1) by omega]
      exact this)
  clear h hcl
  obtain ⟨n, hn⟩ : ∃ n, zs.length = n := ⟨_, rfl⟩
  have HN := Lib.hid hn
  rw [hn] at hc ⊢
  clear hn
  go_enter Try.func11, Try.ntmps11
  go_wp2_with fail
  go_region
  obtain ⟨A', hA, hAb, hE⟩ := HE.out
  rw [hA]
  have HE2 := Lib.hid hE
  clear hA hE HE c0
  go_wp2
  exact bodyPost_ret (v := .tuple #[RQ most (some A') n (c - 1), .int .i64 s, .int .i64 0]) (by simp [results, Try.results11, go_sem]) rfl ⟨⟨_, _, rfl, ⟨by rw [HN.out]; omega, by simp, HE2.out.next (by repeat (first | exact Below.refl _ _ | (refine Below.drew ?_) | (refine Below.alloc ?_ (by simp; try omega) _) | (refine Below.setCell ?_ (by simp; try omega) _)))⟩, fun b' o' e => ⟨off, by simp only [Option.some.injEq] at e; subst e; simp at hAb; rw [hAb]⟩⟩, (by repeat (first | exact Below.refl _ _ | (refine Below.drew ?_) | (refine Below.alloc ?_ (by simp; try omega) _) | (refine Below.setCell ?_ (by simp; try omega) _)))⟩

theorem els_new (w : World) (x : Int) : Els 1 one (w.alloc (.cells #[.int .i64 x] 3)) (some ⟨w.heap.size, 0, none⟩) (vi [x]) := by
  intro _
  refine ⟨_, 0, rfl, by simp, fun i hi j v hv => ?_⟩
  obtain rfl : i = 0 := by simp [vi] at hi; omega
  obtain rfl : j = 0 := by
    have := (List.getElem?_eq_some_iff.1 hv).1
    simp only [one, List.length_cons, List.length_nil] at this
    omega
  rw [← hv]
  exact (Blk.new w 3 #[.int .i64 x]).cell 0
theorem own_RL {w : World} {base : Nat} {v : Value} {l : List Int} (h : OwnI w base v l) : ∃ A c, v = .slice A l.length c ∧ RL w A c l := by
  obtain ⟨A, c, hv, he⟩ := own_ones (vi_len l) h
  rcases h.2 with ⟨h1, h0⟩ | ⟨g, cap, cur, h1, _, _, hcap, _⟩
  · have e := hv.symm.trans h1
    simp only [Value.slice.injEq] at e
    exact ⟨A, c, hv, ⟨by omega, fun _ => e.2.2, he⟩⟩
  · have e := hv.symm.trans h1
    simp only [Value.slice.injEq] at e
    exact ⟨A, c, hv, ⟨by omega, fun hA => by rw [hA] at e; simp at e, he⟩⟩
theorem RL_of_own {w : World} {base n : Nat} {A : Option Addr} {c : Nat} {l : List Int} (h : OwnI w base (.slice A n c) l) : RL w A c l := by
  obtain ⟨A', c', e, he⟩ := own_RL h
  simp only [Value.slice.injEq] at e
  obtain ⟨rfl, _, rfl⟩ := e
  exact he
theorem own_far {w : World} {s n : Nat} {A : Option Addr} {c : Nat} {l : List Int} (h : OwnI w (s + 2) (.slice A n c) l) : ∀ b' o', A = some ⟨b', o', none⟩ → s ≤ b' := by
  rintro b' o' rfl
  have := (World.ownsRow.lt h b' (by rfl)).1
  omega
theorem own_lt {w : World} {s n : Nat} {A : Option Addr} {c : Nat} {l : List Int} (h : OwnI w (s + 2) (.slice A n c) l) : ∀ b' o', A = some ⟨b', o', none⟩ → b' < w.heap.size := by
  rintro b' o' rfl
  exact (World.ownsRow.lt h b' (by rfl)).2
theorem own_set {w : World} {base : Nat} {v : Value} {l : List Int} {p : Addr} (h : OwnI w base v l) (hp : p.block < base) (u : Value) : OwnI (w.setCell p u) base v l := by
  refine ⟨h.1, ?_⟩
  rcases h.2 with hn | ⟨g, cap, cur, hv, hg, hgb, rest⟩
  · exact .inl hn
  · exact .inr ⟨g, cap, cur, hv, hg, (Below.heap_setCell w p u g (by omega)).trans hgb, rest⟩
/-- the two blocks of the call: its argument's box, and its result -/
structure Two (w w' : World) (bs : Array Value) (tb : TypeId) (cs : Array Value) (t : TypeId) : Prop where
  size : w.heap.size + 2 ≤ w'.heap.size
  b : Below w.heap.size w w'
  box : Blk w' w.heap.size tb bs
  res : Blk w' (w.heap.size + 1) t cs
theorem Two.start (w : World) (bs : Array Value) (tb : TypeId) (cs : Array Value) (t : TypeId) : Two w ((w.alloc (.cells bs tb)).alloc (.cells cs t)).drew bs tb cs t where
  size := by simp
  b := (((Below.refl _ w).alloc (Nat.le_refl _) _).alloc (by simp) _).drew
  box := (Blk.new w tb bs).alloc _
  res := by
    have := Blk.new (w.alloc (.cells bs tb)) t cs
    rw [show (w.alloc (.cells bs tb)).heap.size = w.heap.size + 1 by simp] at this
    exact this
theorem Two.alloc {w w' : World} {bs cs : Array Value} {tb t : TypeId} (h : Two w w' bs tb cs t) (o : Obj) : Two w (w'.alloc o) bs tb cs t :=
  ⟨Nat.le_trans h.size (by simp), h.b.alloc (by have := h.size; omega) o, h.box.alloc o, h.res.alloc o⟩
theorem Two.grown {w w' w6 : World} {bs cs : Array Value} {tb t : TypeId} {row : Option Nat} (h : Two w w' bs tb cs t) (hr : ∀ j, row = some j → w.heap.size + 2 ≤ j) (hg : w'.grownBy w6 row) : Two w w6 bs tb cs t :=
  ⟨Nat.le_trans h.size hg.size, Below.grown h.b hg (by have := h.size; omega) (fun j ej => by have := hr j ej; omega),
   (hg.block _ h.box.lt (fun e => by have := hr _ e.symm; omega)).trans h.box, (hg.block _ h.res.lt (fun e => by have := hr _ e.symm; omega)).trans h.res⟩
theorem Els.grown0 {w w6 : World} {A : Option Addr} {L : List Value} (h : Els 1 one w A L) (hg : w.grownBy w6 none) : Els 1 one w6 A L := h.next (Below.grown (Below.refl _ _) hg (Nat.le_refl _) (fun j ej => by cases ej))
set_option maxHeartbeats 1000000 in
theorem refpush_room (w : World) (most : Int) (A : Option Addr) (c : Nat) (zs : List Int) (x : Int) (h : RL w A c zs) (hm : (zs.length : Int) < most) (hz : zs.length ≤ 100000) :
    Calls Try.prog 13 #[RQ most A zs.length c, .int .i64 x] w fun e w' => (∃ A' c', e = .returned (.tuple #[RQ most A' (zs.length + 1) c', .int .i64 0]) ∧ RL w' A' c' (zs ++ [x]) ∧ (∀ b' o', A' = some ⟨b', o', none⟩ → w.heap.size ≤ b') ∧ ∀ b' o', A' = some ⟨b', o', none⟩ → b' < w'.heap.size) ∧ Below w.heap.size w w' := by
  have HR := Lib.hid h
  obtain ⟨n, hn⟩ : ∃ n, zs.length = n := ⟨_, rfl⟩
  have HN := Lib.hid hn
  rw [hn] at hm hz ⊢
  have d : decide (most ≤ (n : Int)) = false := by simp; omega
  clear h hn hm
  go_enter Try.func13, Try.ntmps13
  go_wp2_with fail
  go_region_law (first
    | (refine step_append_ints rfl (.const (.slice none 0 0)) (.tmp 16) rfl (w.heap.size + 2) (.slice none 0 0) [] rfl (World.ownsRow_nil _ _ _ _) A n c zs (by simp [Act.eval, Act.put]) HN.out.symm HR.out.nil (HR.out.els.next (by repeat (first | exact Below.refl _ _ | (refine Below.drew ?_) | (refine Below.alloc ?_ (by simp; try omega) _) | (refine Below.setCell ?_ (by simp; try omega) _)))) (by have := HN.out; simp; omega) (by simp) ?_; intro v6 w6 ho6 hg6; have HO6 : Hid (OwnI w6 (w.heap.size + 2) v6 zs) := Lib.hid ho6; have ht6 : Two w w6 #[.int .i64 most, .slice A n c] 31 #[.int .i64 0, .slice none 0 0] 31 := Two.grown (Two.start w _ _ _ _) (fun j ej => by cases ej) hg6; have HT6 := Lib.hid ht6; have y0 := ht6.box.cell 0; have y1 := ht6.box.cell 1; have yl : w.heap.size < w6.heap.size := (by have := ht6.size; omega); clear ho6 hg6 ht6)
    | (refine step_append_ints rfl (.const (.slice none 0 0)) (.tmp 16) rfl (w.heap.size + 2) (.slice none 0 0) [] rfl (World.ownsRow_nil _ _ _ _) A n c zs (by simp [Act.eval, Act.put]) HN.out.symm HR.out.nil (HR.out.els.next (by repeat (first | exact Below.refl _ _ | (refine Below.drew ?_) | (refine Below.alloc ?_ (by simp; try omega) _) | (refine Below.setCell ?_ (by simp; try omega) _)))) (by have := HN.out; simp; omega) (by simp) ?_; intro v6 w6 ho6 hg6; have HO6 : Hid (OwnI w6 (w.heap.size + 2) v6 zs) := Lib.hid ho6; have ht6 : Two w w6 #[.int .i64 most, .slice A n c] 31 #[.int .i64 0, .slice none 0 0] 31 := Two.grown ((Two.start w _ _ _ _).alloc (.cells #[.int .i64 x] 3)) (fun j ej => by cases ej) hg6; have HE6 : Hid (Els 1 one w6 (some ⟨w.heap.size + 1 + 1, 0, none⟩) (vi [x])) := Lib.hid ((by simpa using els_new ((w.alloc (.cells #[.int .i64 most, .slice A n c] 31)).alloc (.cells #[.int .i64 0, .slice none 0 0] 31)).drew x : Els 1 one (((w.alloc (.cells #[.int .i64 most, .slice A n c] 31)).alloc (.cells #[.int .i64 0, .slice none 0 0] 31)).drew.alloc (.cells #[.int .i64 x] 3)) (some ⟨w.heap.size + 1 + 1, 0, none⟩) (vi [x])).grown0 hg6); have HT6 := Lib.hid ht6; have y0 := ht6.box.cell 0; have y1 := ht6.box.cell 1; have yl : w.heap.size < w6.heap.size := (by have := ht6.size; omega); clear ho6 hg6 ht6)
    | (refine step_append_ints rfl (.tmp 17) (.tmp 19) rfl (w.heap.size + 2) v6 zs (by simp [Act.eval, Act.put]) (World.ownsRow.alloc HO6.out _) (some ⟨w6.heap.size, 0, none⟩) 1 1 [x] (by simp [Act.eval, Act.put]) rfl (by simp) (els_new w6 x) (by have := HN.out; simp; omega) (by have := HT6.out.size; simp; omega) ?_; intro v7 w7 ho7 hg7; have ht7 := Two.grown (HT6.out.alloc _) (fun j ej => (World.ownsRow.lt HO6.out j ej).1) hg7; have HB7 := Lib.hid ht7.b; have HR7 := Lib.hid ht7.res; obtain ⟨A7, c7, hv7, he7⟩ := own_RL ho7; subst hv7; have HO7 : Hid (OwnI w7 (w.heap.size + 2) (Value.slice A7 (zs ++ [x]).length c7) (zs ++ [x])) := Lib.hid ho7; have c0 := ht7.res.cell 0; have c1 := ht7.res.cell 1; have f0 := ht7.res.frozen 0; have f1 := ht7.res.frozen 1; have z0 := ht7.box.cell 0; have z1 := ht7.box.cell 1; clear ho7 hg7 he7 ht7)
    | (refine step_append_ints rfl (.tmp 17) (.tmp 19) rfl (w.heap.size + 2) v6 zs (by simp [Act.eval, Act.put]) HO6.out (some ⟨w.heap.size + 1 + 1, 0, none⟩) 1 1 [x] (by simp [Act.eval, Act.put]) rfl (by simp) HE6.out (by have := HN.out; simp; omega) (by have := HT6.out.size; simp; omega) ?_; intro v7 w7 ho7 hg7; have ht7 := Two.grown HT6.out (fun j ej => (World.ownsRow.lt HO6.out j ej).1) hg7; have HB7 := Lib.hid ht7.b; have HR7 := Lib.hid ht7.res; obtain ⟨A7, c7, hv7, he7⟩ := own_RL ho7; subst hv7; have HO7 : Hid (OwnI w7 (w.heap.size + 2) (Value.slice A7 (zs ++ [x]).length c7) (zs ++ [x])) := Lib.hid ho7; have c0 := ht7.res.cell 0; have c1 := ht7.res.cell 1; have f0 := ht7.res.frozen 0; have f1 := ht7.res.frozen 1; have z0 := ht7.box.cell 0; have z1 := ht7.box.cell 1; clear ho7 hg7 he7 ht7))
  all_goals (
    go_wp2
    have hR8 := (HR7.out.put 0 (.int .i64 most)).put 1 (.slice A7 (n + 1) c7)
    have r0 := hR8.cell 0
    have r1 := hR8.cell 1
    simp only [List.getElem?_toArray, List.setIfInBounds_toArray, List.set_cons_zero, List.set_cons_succ, List.getElem?_cons_zero, List.getElem?_cons_succ] at r0 r1
    rw [HN.out]
    exact bodyPost_ret (v := .tuple #[RQ most A7 (n + 1) c7, .int .i64 0]) (by simp [results, Try.results13, go_sem, HN.out, r0, r1]) rfl ⟨⟨A7, c7, rfl, RL_of_own (n := (zs ++ [x]).length) (base := w.heap.size + 2) (by refine own_set ?_ (by simp) _; refine own_set ?_ (by simp) _; exact (HO7.out : OwnI w7 (w.heap.size + 2) (Value.slice A7 (zs ++ [x]).length c7) (zs ++ [x]))), own_far HO7.out, fun b' o' e => by have := own_lt HO7.out b' o' e; simpa [World.setCell] using this⟩, (by repeat (first | exact HB7.out | (refine Below.drew ?_) | (refine Below.setCell ?_ (by simp; try omega) _)))⟩)

set_option maxHeartbeats 1000000 in
theorem refpush_full (w : World) (most : Int) (A : Option Addr) (n c : Nat) (x : Int) (h : most ≤ n) :
    Calls Try.prog 13 #[RQ most A n c, .int .i64 x] w fun e w' => e = .returned (.tuple #[RQ most A n c, .int .i64 6]) ∧ Below w.heap.size w w' := by
  have d : decide (most ≤ (n : Int)) = true := by simpa using h
  go_enter Try.func13, Try.ntmps13
  go_wp2
  exact bodyPost_ret (v := .tuple #[RQ most A n c, .int .i64 6]) (by simp [results, Try.results13, go_sem]) rfl ⟨rfl, (by repeat (first | exact Below.refl _ _ | (refine Below.drew ?_) | (refine Below.alloc ?_ (by simp; try omega) _) | (refine Below.setCell ?_ (by simp; try omega) _)))⟩
end Go.Proofs.Ytofgdemkddbjeaa
