/- Layer 8: where a place was learnt last, as a matter of lists of acts alone. -/
import Derived.Test.YtlofaahckdfeiaaArg
namespace Go.Proofs.Ytlofaahckdfeiaa
open Go.RowKit
set_option linter.unusedVariables false
set_option linter.unusedSimpArgs false
set_option maxRecDepth 100000

abbrev Zt := List En × List (Pl × UInt8)
def stp (z : Zt) (a : Ac) : Zt :=
  if a.d = 0 then (ltick z.1, z.2) else if a.d = 1 then (lflush z.1 a.s, z.2) else if a.d = 2 then (setL z.1 z.2 a.k, setS z.2 a.k a.s)
  else if a.d = 3 then (z.1, dropS z.2 a.k) else (llearn z.1 z.2 a.k a.p, z.2)
def runA (l : List Ac) : Zt := l.foldl stp ([], [])
def mayB (a : Ac) : Bool := decide (3 < a.d.toNat) && decide (a.p.toNat < 8) && okVid a.k.v && !grp a.k.m
theorem may_d {a : Ac} (h : mayB a = true) : a.d ≠ 0 ∧ a.d ≠ 1 ∧ a.d ≠ 2 ∧ a.d ≠ 3 := by
  unfold mayB at h
  simp only [Bool.and_eq_true, decide_eq_true_eq] at h
  have h3 := h.1.1.1
  refine ⟨?_, ?_, ?_, ?_⟩ <;> (intro e; rw [e] at h3; revert h3; decide)
theorem stp0 {z : Zt} {a : Ac} (h : a.d = 0) : stp z a = (ltick z.1, z.2) := by unfold stp; rw [if_pos h]
theorem stp1 {z : Zt} {a : Ac} (h : a.d = 1) : stp z a = (lflush z.1 a.s, z.2) := by
  unfold stp
  rw [if_neg (by rw [h]; decide), if_pos h]
theorem stp2 {z : Zt} {a : Ac} (h : a.d = 2) : stp z a = (setL z.1 z.2 a.k, setS z.2 a.k a.s) := by
  unfold stp
  rw [if_neg (by rw [h]; decide), if_neg (by rw [h]; decide), if_pos h]
theorem stp3 {z : Zt} {a : Ac} (h : a.d = 3) : stp z a = (z.1, dropS z.2 a.k) := by
  unfold stp
  rw [if_neg (by rw [h]; decide), if_neg (by rw [h]; decide), if_neg (by rw [h]; decide), if_pos h]
theorem stp4 {z : Zt} {a : Ac} (h0 : a.d ≠ 0) (h1 : a.d ≠ 1) (h2 : a.d ≠ 2) (h3 : a.d ≠ 3) : stp z a = (llearn z.1 z.2 a.k a.p, z.2) := by
  unfold stp
  rw [if_neg h0, if_neg h1, if_neg h2, if_neg h3]
theorem d_gt {a : Ac} (h0 : a.d ≠ 0) (h1 : a.d ≠ 1) (h2 : a.d ≠ 2) (h3 : a.d ≠ 3) : 3 < a.d.toNat := by
  have g0 : a.d.toNat ≠ 0 := fun e => h0 (UInt8.toNat_inj.1 e)
  have g1 : a.d.toNat ≠ 1 := fun e => h1 (UInt8.toNat_inj.1 e)
  have g2 : a.d.toNat ≠ 2 := fun e => h2 (UInt8.toNat_inj.1 e)
  have g3 : a.d.toNat ≠ 3 := fun e => h3 (UInt8.toNat_inj.1 e)
  omega
/-- an act that may not be learnt, or that may -/
theorem bad_may {S : List (Pl × UInt8)} {a : Ac} (h3 : 3 < a.d.toNat) : badLearn S a.k a.p = !(mayB a && !shas S a.k) := by
  unfold badLearn mayB
  have e : decide (8 ≤ a.p.toNat) = !decide (a.p.toNat < 8) := by
    rw [Bool.eq_iff_iff]
    simp only [decide_eq_true_eq, Bool.not_eq_true', decide_eq_false_iff_not]
    omega
  rw [e, decide_eq_true h3]
  cases grp a.k.m <;> cases decide (a.p.toNat < 8) <;> cases okVid a.k.v <;> cases shas S a.k <;> rfl
/-- what always holds of tables -/
structure Inv (z : Zt) : Prop where
  un : z.1.Pairwise fun x y => x.k ≠ y.k
  old : ∀ e ∈ z.1, e.a < 40
  prt : ∀ e ∈ z.1, e.p.toNat < 8
  l32 : z.1.length ≤ 32
  ok : ∀ x ∈ z.2, okVid x.1.v = true
theorem lwo_un {L : List En} (k : Pl) (h : L.Pairwise fun x y => x.k ≠ y.k) : (lwo L k).Pairwise fun x y => x.k ≠ y.k := List.Pairwise.filter _ h
theorem lput_un {L : List En} (k : Pl) (p : UInt8) (h : L.Pairwise fun x y => x.k ≠ y.k) : (lput L k p).Pairwise fun x y => x.k ≠ y.k := by
  unfold lput
  rw [List.pairwise_append]
  refine ⟨?_, by simp, fun x hx y hy => ?_⟩
  · split
    · exact (lwo_un k h).sublist (List.drop_sublist _ _)
    · exact lwo_un k h
  · obtain rfl := List.mem_singleton.1 hy
    have hx' : x ∈ lwo L k := by
      split at hx
      · exact List.mem_of_mem_drop hx
      · exact hx
    have := (List.mem_filter.1 hx').2
    simp only [Bool.not_eq_true', decide_eq_false_iff_not] at this
    exact fun e => this e.symm
theorem lput_len {L : List En} (k : Pl) (p : UInt8) (h : L.length ≤ 32) : (lput L k p).length ≤ 32 := by
  unfold lput
  have := List.length_filter_le (fun x : En => !decide (k = x.k)) L
  have h2 : (lwo L k).length ≤ 32 := Nat.le_trans this h
  rw [List.length_append]
  split
  · rw [List.length_drop]; simp; omega
  · simp; omega
theorem lput_prt {L : List En} {k : Pl} {p : UInt8} (hp : p.toNat < 8) (h : ∀ e ∈ L, e.p.toNat < 8) : ∀ e ∈ lput L k p, e.p.toNat < 8 := by
  intro e he
  unfold lput at he
  rcases List.mem_append.1 he with he | he
  · split at he
    · exact h e (lwo_sub (List.mem_of_mem_drop he))
    · exact h e (lwo_sub he)
  · obtain rfl := List.mem_singleton.1 he
    exact hp
theorem sput_ok {S : List (Pl × UInt8)} {k : Pl} {s : UInt8} (hk : okVid k.v = true) (h : ∀ x ∈ S, okVid x.1.v = true) : ∀ x ∈ sput S k s, okVid x.1.v = true := by
  intro x hx
  unfold sput at hx
  split at hx
  · obtain ⟨y, hy, rfl⟩ := List.mem_map.1 hx
    split
    · exact hk
    · exact h y hy
  · rcases List.mem_append.1 hx with hx | hx
    · exact h x hx
    · obtain rfl := List.mem_singleton.1 hx
      exact hk
theorem Inv.stp {z : Zt} (h : Inv z) (a : Ac) : Inv (stp z a) := by
  obtain ⟨h1, h2, h3, h4, h5⟩ := h
  by_cases d0 : a.d = 0
  · rw [stp0 d0]
    refine ⟨?_, ltick_old h2, ?_, ?_, h5⟩
    · show (ltick z.1).Pairwise _
      unfold ltick
      refine List.Pairwise.filter _ ?_
      rw [List.pairwise_map]
      exact h1
    · intro e he
      obtain ⟨x, hx, rfl⟩ := List.mem_map.1 (List.mem_filter.1 he).1
      exact h3 x hx
    · have := List.length_filter_le (fun e : En => !decide (e.a = 40)) (z.1.map older)
      rw [List.length_map] at this
      exact Nat.le_trans this h4
  by_cases d1 : a.d = 1
  · rw [stp1 d1]
    exact ⟨List.Pairwise.filter _ h1, fun e he => h2 e (List.mem_filter.1 he).1, fun e he => h3 e (List.mem_filter.1 he).1, Nat.le_trans (List.length_filter_le _ _) h4, h5⟩
  by_cases d2 : a.d = 2
  · rw [stp2 d2]
    unfold setL setS
    by_cases hs : sete z.2 a.k = 0
    · rw [if_pos hs, if_pos hs]
      have hk : okVid a.k.v = true := by
        unfold sete at hs
        by_cases h0 : okVid a.k.v = true
        · exact h0
        · rw [if_neg h0] at hs; cases hs
      exact ⟨lwo_un _ h1, fun e he => h2 e (lwo_sub he), fun e he => h3 e (lwo_sub he), Nat.le_trans (List.length_filter_le _ _) h4, sput_ok hk h5⟩
    · rw [if_neg hs, if_neg hs]
      exact ⟨h1, h2, h3, h4, h5⟩
  by_cases d3 : a.d = 3
  · rw [stp3 d3]
    refine ⟨h1, h2, h3, h4, fun x hx => h5 x ?_⟩
    show x ∈ z.2
    have hx : x ∈ dropS z.2 a.k := hx
    unfold dropS at hx
    split at hx
    · exact (List.mem_filter.1 hx).1
    · exact hx
  rw [stp4 d0 d1 d2 d3]
  unfold llearn
  by_cases hb : badLearn z.2 a.k a.p = true
  · rw [if_pos hb]; exact ⟨h1, h2, h3, h4, h5⟩
  · rw [if_neg hb]
    have hp : a.p.toNat < 8 := by
      unfold badLearn at hb
      simp only [Bool.or_eq_true, decide_eq_true_eq, not_or] at hb
      omega
    exact ⟨lput_un _ _ h1, lput_old h2, lput_prt hp h3, lput_len _ _ h4, h5⟩
theorem Inv.nil : Inv ([], []) := ⟨List.Pairwise.nil, by simp, by simp, by simp, by simp⟩
theorem Inv.fold {z : Zt} (h : Inv z) : ∀ r : List Ac, Inv (r.foldl _root_.Go.Proofs.Ytlofaahckdfeiaa.stp z)
  | [] => h
  | a :: r => Inv.fold (h.stp a) r
theorem Inv.run (l : List Ac) : Inv (runA l) := Inv.nil.fold l
theorem lget_iff {L : List En} (hu : L.Pairwise fun x y => x.k ≠ y.k) (k : Pl) (e : En) : lget L k = some e ↔ e ∈ L ∧ e.k = k := by
  unfold lget
  induction L with
  | nil => simp
  | cons x L ih =>
    obtain ⟨h1, h2⟩ := List.pairwise_cons.1 hu
    rw [List.find?_cons]
    by_cases hk : k = x.k
    · rw [decide_eq_true hk]
      simp only [Option.some.injEq, List.mem_cons]
      constructor
      · rintro rfl; exact ⟨.inl rfl, hk.symm⟩
      · rintro ⟨h | h, he⟩
        · exact h.symm
        · exact absurd (hk.symm.trans he.symm) (h1 e h)
    · rw [decide_eq_false hk]
      show List.find? _ L = some e ↔ _
      rw [ih h2]
      simp only [List.mem_cons]
      constructor
      · rintro ⟨h, he⟩; exact ⟨.inr h, he⟩
      · rintro ⟨h | h, he⟩
        · subst h; exact absurd he.symm hk
        · exact ⟨h, he⟩
theorem lget_none_iff {L : List En} (k : Pl) : lget L k = none ↔ ∀ e ∈ L, e.k ≠ k := by
  unfold lget
  rw [List.find?_eq_none]
  constructor
  · intro h e he e2; exact h e he (by simpa using e2.symm)
  · intro h e he; simpa using fun e2 => h e he e2.symm
def tks (r : List Ac) : Nat := (r.filter fun a => decide (a.d = 0)).length
def flsh (r : List Ac) (p : UInt8) : Bool := r.any fun a => decide (a.d = 1) && pbit a.s p
/-- from there on the place isn't learnt, nor made static -/
def nostop (k : Pl) : Zt → List Ac → Prop
  | _, [] => True
  | z, a :: r => ¬ (a.d = 2 ∧ a.k = k ∧ shas (stp z a).2 k = true) ∧ ¬ (mayB a = true ∧ shas z.2 k = false ∧ a.k = k) ∧ nostop k (stp z a) r
def pshB (z : Zt) (a : Ac) (k : Pl) : Bool := mayB a && decide (z.1.length = 32) && (match z.1 with | [] => false | e :: _ => decide (e.k = k)) && (!lookB (stp z a).1 (stp z a).2 k || decide (lookP (stp z a).1 (stp z a).2 k = 0))
def pshAny (k : Pl) : Zt → List Ac → Bool
  | _, [] => false
  | z, a :: r => pshB z a k || pshAny k (stp z a) r
theorem lput_mem {L : List En} {x : Pl} {p : UInt8} {e : En} (h : e ∈ lput L x p) : e = ⟨x, p, 0⟩ ∨ (e ∈ L ∧ e.k ≠ x) := by
  unfold lput at h
  rcases List.mem_append.1 h with h | h
  · right
    have h' : e ∈ lwo L x := by
      split at h
      · exact List.mem_of_mem_drop h
      · exact h
    have := (List.mem_filter.1 h').2
    simp only [Bool.not_eq_true', decide_eq_false_iff_not] at this
    exact ⟨lwo_sub h', fun e2 => this e2.symm⟩
  · exact .inl (List.mem_singleton.1 h)
/-- who is not there, and isn't learnt, is not there later -/
theorem absent_step {k : Pl} {z : Zt} {a : Ac} (h : ∀ e ∈ z.1, e.k ≠ k) (hn : ¬ (mayB a = true ∧ shas z.2 k = false ∧ a.k = k)) : ∀ e ∈ (stp z a).1, e.k ≠ k := by
  by_cases d0 : a.d = 0
  · rw [stp0 d0]
    intro e he
    obtain ⟨x, hx, rfl⟩ := List.mem_map.1 (List.mem_filter.1 he).1
    exact h x hx
  by_cases d1 : a.d = 1
  · rw [stp1 d1]
    exact fun e he => h e (List.mem_filter.1 he).1
  by_cases d2 : a.d = 2
  · rw [stp2 d2]
    intro e he
    have he : e ∈ setL z.1 z.2 a.k := he
    unfold setL at he
    split at he
    · exact h e (lwo_sub he)
    · exact h e he
  by_cases d3 : a.d = 3
  · rw [stp3 d3]; exact h
  rw [stp4 d0 d1 d2 d3]
  intro e he
  have he : e ∈ llearn z.1 z.2 a.k a.p := he
  unfold llearn at he
  have hb := bad_may (S := z.2) (d_gt d0 d1 d2 d3)
  by_cases hbl : badLearn z.2 a.k a.p = true
  · rw [if_pos hbl] at he; exact h e he
  · rw [if_neg hbl] at he
    rcases lput_mem he with rfl | ⟨h1, _⟩
    · intro e2
      have e2 : a.k = k := e2
      have h3 : badLearn z.2 a.k a.p = false := by simpa using hbl
      rw [hb] at h3
      simp only [Bool.not_eq_false', Bool.and_eq_true, Bool.not_eq_true'] at h3
      exact hn ⟨h3.1, by rw [← e2]; exact h3.2, e2⟩
    · exact h e h1
theorem absent {k : Pl} : ∀ (r : List Ac) (z : Zt), (∀ e ∈ z.1, e.k ≠ k) → nostop k z r → ∀ e ∈ (r.foldl stp z).1, e.k ≠ k
  | [], z, h, _ => h
  | a :: r, z, h, hn => absent r (stp z a) (absent_step h hn.2.1) hn.2.2
theorem pow8_ne {p : UInt8} (h : p.toNat < 8) : pow8 p ≠ 0 := by
  intro e
  have h1 := pow8_nat h
  rw [e] at h1
  have : 0 < 2 ^ p.toNat := Nat.pow_pos (by decide)
  have h2 : (0 : UInt8).toNat = 0 := rfl
  omega
theorem look_there {L : List En} {S : List (Pl × UInt8)} {k : Pl} {e : En} (hu : L.Pairwise fun x y => x.k ≠ y.k) (he : e ∈ L) (hk : e.k = k) (hs : shas S k = false) : lookB L S k = true ∧ lookP L S k = pow8 e.p := by
  have h1 := (lget_iff hu k e).2 ⟨he, hk⟩
  exact ⟨by unfold lookB; rw [h1]; simp, by unfold lookP; rw [sget_none hs, h1]⟩
theorem look_not {L : List En} {S : List (Pl × UInt8)} {k : Pl} (h : ∀ e ∈ L, e.k ≠ k) (hs : shas S k = false) : lookB L S k = false ∧ lookP L S k = 0 := by
  have h1 := (lget_none_iff k).2 h
  exact ⟨by unfold lookB; rw [h1, hs]; rfl, by unfold lookP; rw [sget_none hs, h1]⟩
theorem tks_cons (a : Ac) (r : List Ac) : tks (a :: r) = (if a.d = 0 then 1 else 0) + tks r := by
  unfold tks
  rw [List.filter_cons]
  by_cases h : a.d = 0
  · simp [h]; omega
  · simp [h]
theorem flsh_cons (a : Ac) (r : List Ac) (p : UInt8) : flsh (a :: r) p = ((decide (a.d = 1) && pbit a.s p) || flsh r p) := rfl
/-- an entry, followed through acts -/
theorem present {k : Pl} : ∀ (r : List Ac) (z : Zt) (e : En), Inv z → e ∈ z.1 → e.k = k → shas z.2 k = false → nostop k z r →
    (lget (r.foldl stp z).1 k).isSome = (decide (e.a + tks r < 40) && !flsh r e.p && !pshAny k z r) ∧ ∀ e', lget (r.foldl stp z).1 k = some e' → e'.p = e.p
  | [], z, e, hi, he, hk, hs, _ => by
    have h1 := (lget_iff hi.un k e).2 ⟨he, hk⟩
    have := hi.old e he
    refine ⟨?_, fun e' h2 => ?_⟩
    · show (lget z.1 k).isSome = _
      rw [h1]
      simp [tks, flsh, pshAny, this]
    · have h2 : lget z.1 k = some e' := h2
      rw [h1] at h2; cases h2; rfl
  | a :: r, z, e, hi, he, hk, hs, hn => by
    obtain ⟨n1, n2, n3⟩ := hn
    have hi' := hi.stp a
    have gone : (∀ x ∈ (stp z a).1, x.k ≠ k) → (decide (e.a + tks (a :: r) < 40) && !flsh (a :: r) e.p && !pshAny k z (a :: r)) = false →
        (lget ((a :: r).foldl stp z).1 k).isSome = (decide (e.a + tks (a :: r) < 40) && !flsh (a :: r) e.p && !pshAny k z (a :: r)) ∧ ∀ e', lget ((a :: r).foldl stp z).1 k = some e' → e'.p = e.p := by
      intro h1 h2
      have h3 := (lget_none_iff k).2 (absent r (stp z a) h1 n3)
      rw [h2, List.foldl_cons, h3]
      exact ⟨rfl, fun e' h => by cases h⟩
    have stays : ∀ e2 : En, e2 ∈ (stp z a).1 → e2.k = k → e2.p = e.p → shas (stp z a).2 k = false → e2.a = e.a + (if a.d = 0 then 1 else 0) → (decide (a.d = 1) && pbit a.s e.p) = false →
        (lget ((a :: r).foldl stp z).1 k).isSome = (decide (e.a + tks (a :: r) < 40) && !flsh (a :: r) e.p && !pshAny k z (a :: r)) ∧ ∀ e', lget ((a :: r).foldl stp z).1 k = some e' → e'.p = e.p := by
      intro e2 m1 m2 m3 m4 m5 m6
      have ih := present r (stp z a) e2 hi' m1 m2 m4 n3
      rw [List.foldl_cons, tks_cons, flsh_cons, m6]
      have hl := look_there hi'.un m1 m2 m4
      have hp : pshB z a k = false := by
        unfold pshB
        rw [hl.1, hl.2, decide_eq_false (pow8_ne (hi'.prt e2 m1))]
        simp
      have hq : pshAny k z (a :: r) = pshAny k (stp z a) r := by show (pshB z a k || _) = _; rw [hp]; rfl
      rw [hq]
      rw [m5, m3] at ih
      rw [← Nat.add_assoc]
      simpa using ih
    by_cases d0 : a.d = 0
    · rw [stp0 d0] at gone stays hi'
      by_cases h40 : e.a + 1 = 40
      · refine gone ?_ ?_
        · intro x hx
          obtain ⟨h1, h2⟩ := List.mem_filter.1 hx
          obtain ⟨y, hy, rfl⟩ := List.mem_map.1 h1
          intro e2
          have e2 : y.k = k := e2
          have h3 := (lget_iff hi.un k y).2 ⟨hy, e2⟩
          have h4 := (lget_iff hi.un k e).2 ⟨he, hk⟩
          have hye : y = e := Option.some.inj (h3.symm.trans h4)
          have h5 : (older y).a = 40 := by
            have : (older y).a = y.a + 1 := rfl
            rw [this, hye, h40]
          rw [h5] at h2
          simp at h2
        · rw [tks_cons, if_pos d0]
          have : ¬ e.a + (1 + tks r) < 40 := by omega
          rw [decide_eq_false this]; rfl
      · refine stays (older e) ?_ hk rfl hs (by rw [if_pos d0]; rfl) (by rw [d0]; rfl)
        refine List.mem_filter.2 ⟨List.mem_map.2 ⟨e, he, rfl⟩, ?_⟩
        have : (older e).a = e.a + 1 := rfl
        rw [this]
        simpa using h40
    by_cases d1 : a.d = 1
    · rw [stp1 d1] at gone stays hi'
      cases hb : pbit a.s e.p with
      | true =>
        refine gone ?_ ?_
        · intro x hx e2
          obtain ⟨h1, h2⟩ := List.mem_filter.1 hx
          have h3 := (lget_iff hi.un k x).2 ⟨h1, e2⟩
          have h4 := (lget_iff hi.un k e).2 ⟨he, hk⟩
          rw [h3] at h4
          cases h4
          rw [hb] at h2
          cases h2
        · rw [flsh_cons, hb, decide_eq_true d1]; simp
      | false =>
        refine stays e (List.mem_filter.2 ⟨he, by rw [hb]; rfl⟩) hk rfl hs (by rw [if_neg d0]; rfl) (by rw [hb, Bool.and_false])
    by_cases d2 : a.d = 2
    · rw [stp2 d2] at gone stays hi' n1
      have m6 : (decide (a.d = 1) && pbit a.s e.p) = false := by rw [decide_eq_false d1]; rfl
      by_cases hk2 : a.k = k
      · have h0 : sete z.2 a.k ≠ 0 := by
          intro h0
          refine n1 ⟨d2, hk2, ?_⟩
          show shas (setS z.2 a.k a.s) k = true
          unfold setS
          rw [if_pos h0, shas_put, hk2]
          simp
        refine stays e ?_ hk rfl ?_ (by rw [if_neg d0]; rfl) m6
        · show e ∈ setL z.1 z.2 a.k
          unfold setL; rw [if_neg h0]; exact he
        · show shas (setS z.2 a.k a.s) k = false
          unfold setS; rw [if_neg h0]; exact hs
      · refine stays e ?_ hk rfl ?_ (by rw [if_neg d0]; rfl) m6
        · show e ∈ setL z.1 z.2 a.k
          unfold setL
          split
          · refine List.mem_filter.2 ⟨he, ?_⟩
            rw [hk]
            simpa using hk2
          · exact he
        · show shas (setS z.2 a.k a.s) k = false
          unfold setS
          split
          · rw [shas_put, hs, decide_eq_false (fun e => hk2 e.symm)]; rfl
          · exact hs
    by_cases d3 : a.d = 3
    · rw [stp3 d3] at gone stays hi'
      refine stays e he hk rfl ?_ (by rw [if_neg d0]; rfl) (by rw [decide_eq_false d1]; rfl)
      show shas (dropS z.2 a.k) k = false
      unfold dropS
      split
      · rw [shas_del, hs, Bool.and_false]
      · exact hs
    have hb := bad_may (S := z.2) (d_gt d0 d1 d2 d3)
    have m6 : (decide (a.d = 1) && pbit a.s e.p) = false := by rw [decide_eq_false d1]; rfl
    have hst := stp4 (z := z) d0 d1 d2 d3
    by_cases hbl : badLearn z.2 a.k a.p = true
    · have hl : llearn z.1 z.2 a.k a.p = z.1 := by unfold llearn; rw [if_pos hbl]
      rw [hl] at hst
      refine stays e (by rw [hst]; exact he) hk rfl (by rw [hst]; exact hs) (by rw [if_neg d0]; rfl) m6
    · have h3 : badLearn z.2 a.k a.p = false := by simpa using hbl
      have hl : llearn z.1 z.2 a.k a.p = lput z.1 a.k a.p := by unfold llearn; rw [if_neg hbl]
      rw [hl] at hst
      rw [hb] at h3
      simp only [Bool.not_eq_false', Bool.and_eq_true, Bool.not_eq_true'] at h3
      have hne : a.k ≠ k := fun e2 => n2 ⟨h3.1, by rw [← e2]; exact h3.2, e2⟩
      have hew : e ∈ lwo z.1 a.k := List.mem_filter.2 ⟨he, by rw [hk]; simpa using hne⟩
      by_cases hin : e ∈ lput z.1 a.k a.p
      · refine stays e (by rw [hst]; exact hin) hk rfl (by rw [hst]; exact hs) (by rw [if_neg d0]; rfl) m6
      · have h32 : (lwo z.1 a.k).length = 32 := by
          by_cases h32 : (lwo z.1 a.k).length = 32
          · exact h32
          · refine absurd ?_ hin
            unfold lput
            rw [if_neg h32]
            exact List.mem_append.2 (.inl hew)
        have hle := List.length_filter_le (fun x : En => !decide (a.k = x.k)) z.1
        have hlen : z.1.length = 32 := by
          have h4 : (lwo z.1 a.k).length ≤ z.1.length := hle
          have := hi.l32
          omega
        have hweq : lwo z.1 a.k = z.1 := by
          unfold lwo at h32 ⊢
          exact List.filter_eq_self.2 (List.length_filter_eq_length_iff.1 (by rw [h32, hlen]))
        obtain ⟨x, L', hL⟩ : ∃ x L', z.1 = x :: L' := by
          cases hz : z.1 with
          | nil => rw [hz] at he; cases he
          | cons x L' => exact ⟨x, L', rfl⟩
        have hxe : x = e := by
          rw [hL] at he
          rcases List.mem_cons.1 he with h | h
          · exact h.symm
          · refine absurd ?_ hin
            unfold lput
            rw [if_pos h32, hweq, hL]
            exact List.mem_append.2 (.inl h)
        have hgone : ∀ y ∈ (stp z a).1, y.k ≠ k := by
          rw [hst]
          intro y hy e2
          have hy : y ∈ lput z.1 a.k a.p := hy
          rcases lput_mem hy with rfl | ⟨h5, _⟩
          · exact hne e2
          · have h6 := (lget_iff hi.un k y).2 ⟨h5, e2⟩
            have h7 := (lget_iff hi.un k e).2 ⟨he, hk⟩
            rw [h6] at h7
            cases h7
            exact hin hy
        refine gone hgone ?_
        have hs' : shas (stp z a).2 k = false := by rw [hst]; exact hs
        have hl2 := look_not hgone hs'
        have hp : pshB z a k = true := by
          unfold pshB
          rw [hl2.1, h3.1, decide_eq_true hlen, hL, hxe]
          simp [hk]
        have hq : pshAny k z (a :: r) = true := by show (pshB z a k || _) = true; rw [hp]; rfl
        rw [hq]
        simp
/-- the scan from the last act on -/
def pushedB (more ahead : List Ac) : Bool := match (runA ahead).1.getLast? with | none => true | some e => pshAny e.k (runA ahead) more
def lscan (l : List Ac) (k : Pl) : Nat → Nat → UInt8 → UInt8 × Bool
  | 0, _, _ => (0, false)
  | i + 1, t, f => match l[i]? with
    | none => (0, false)
    | some a =>
      if a.d = 0 then lscan l k i (t + 1) f
      else if a.d = 1 then lscan l k i t (f ||| a.s)
      else if a.d = 2 ∧ a.k = k ∧ shas (runA (l.take (i + 1))).2 k = true then (0, false)
      else if mayB a = true ∧ shas (runA (l.take i)).2 a.k = false ∧ a.k = k then (a.p, decide (t < 40) && !pbit f a.p && !pushedB (l.drop (i + 1)) (l.take (i + 1)))
      else lscan l k i t f
theorem run_take {l : List Ac} {i : Nat} {a : Ac} (h : l[i]? = some a) : runA (l.take (i + 1)) = stp (runA (l.take i)) a := by
  unfold runA
  rw [List.take_add_one, h, List.foldl_append]
  rfl
theorem run_drop (l : List Ac) (i : Nat) : runA l = (l.drop i).foldl stp (runA (l.take i)) := by
  unfold runA
  rw [← List.foldl_append, List.take_append_drop]
theorem drop_at {l : List Ac} {i : Nat} {a : Ac} (h : l[i]? = some a) : l.drop i = a :: l.drop (i + 1) := by
  obtain ⟨hi, rfl⟩ := List.getElem?_eq_some_iff.1 h
  exact List.drop_eq_getElem_cons hi
theorem pbit_or (f s p : UInt8) : pbit (f ||| s) p = (pbit f p || pbit s p) := by
  have h : ∀ x : UInt8, pbit x p = x.toNat.testBit p.toNat := fun x => by
    unfold pbit
    rw [Nat.testBit_eq_decide_div_mod_eq, Bool.eq_iff_iff]
    simp
  rw [h, h, h, UInt8.toNat_or, Nat.testBit_or]
/-- what the scan tells is so -/
theorem scan_ok {l : List Ac} {k : Pl} (hs : shas (runA l).2 k = false) : ∀ (i t : Nat) (f : UInt8), i ≤ l.length → nostop k (runA (l.take i)) (l.drop i) → t = tks (l.drop i) → (∀ p, pbit f p = flsh (l.drop i) p) →
    (lget (runA l).1 k).isSome = (lscan l k i t f).2 ∧ ∀ e, lget (runA l).1 k = some e → e.p = (lscan l k i t f).1
  | 0, t, f, _, hn, _, _ => by
    have h := (lget_none_iff k).2 (absent (k := k) l ([], []) (by simp) hn)
    have h : lget (runA l).1 k = none := h
    rw [h]
    exact ⟨rfl, fun e h => by cases h⟩
  | i + 1, t, f, hle, hn, ht, hf => by
    obtain ⟨a, ha⟩ : ∃ a, l[i]? = some a := ⟨_, List.getElem?_eq_getElem (by omega)⟩
    have hr := run_take ha
    have hd := drop_at ha
    have hR := run_drop l (i + 1)
    rw [hr] at hn hR
    have hrec : ¬ (a.d = 2 ∧ a.k = k ∧ shas (stp (runA (l.take i)) a).2 k = true) → ¬ (mayB a = true ∧ shas (runA (l.take i)).2 k = false ∧ a.k = k) → nostop k (runA (l.take i)) (l.drop i) := by
      intro h1 h2
      rw [hd]
      exact ⟨h1, h2, hn⟩
    have hsc : lscan l k (i + 1) t f = (if a.d = 0 then lscan l k i (t + 1) f else if a.d = 1 then lscan l k i t (f ||| a.s) else if a.d = 2 ∧ a.k = k ∧ shas (runA (l.take (i + 1))).2 k = true then (0, false)
      else if mayB a = true ∧ shas (runA (l.take i)).2 a.k = false ∧ a.k = k then (a.p, decide (t < 40) && !pbit f a.p && !pushedB (l.drop (i + 1)) (l.take (i + 1))) else lscan l k i t f) := by
      rw [lscan, ha]
    rw [hsc]
    clear hsc
    by_cases d0 : a.d = 0
    · rw [if_pos d0]
      refine scan_ok hs i (t + 1) f (by omega) (hrec (by rw [d0]; simp) (fun h => (may_d h.1).1 d0)) ?_ ?_
      · rw [hd, tks_cons, if_pos d0, ht]; omega
      · intro p
        rw [hd, flsh_cons, hf, decide_eq_false (by rw [d0]; decide)]; rfl
    rw [if_neg d0]
    by_cases d1 : a.d = 1
    · rw [if_pos d1]
      refine scan_ok hs i t (f ||| a.s) (by omega) (hrec (by rw [d1]; simp) (fun h => (may_d h.1).2.1 d1)) ?_ ?_
      · rw [hd, tks_cons, if_neg d0, ht]; omega
      · intro p
        rw [hd, flsh_cons, pbit_or, hf, decide_eq_true d1, Bool.true_and, Bool.or_comm]
    rw [if_neg d1]
    have ht' : t = tks (l.drop i) := by rw [hd, tks_cons, if_neg d0, ht]; omega
    have hf' : ∀ p, pbit f p = flsh (l.drop i) p := fun p => by rw [hd, flsh_cons, hf, decide_eq_false d1]; rfl
    rw [hr]
    by_cases c2 : a.d = 2 ∧ a.k = k ∧ shas (stp (runA (l.take i)) a).2 k = true
    · rw [if_pos c2]
      obtain ⟨e1, e2, e3⟩ := c2
      rw [stp2 e1] at e3 hn hR
      have h0 : sete (runA (l.take i)).2 a.k = 0 := by
        by_cases h0 : sete (runA (l.take i)).2 a.k = 0
        · exact h0
        · exfalso
          have e3 : shas (setS (runA (l.take i)).2 a.k a.s) k = true := e3
          unfold setS at e3
          rw [if_neg h0] at e3
          unfold shas at e3
          obtain ⟨x, hx, hxk⟩ := List.any_eq_true.1 e3
          have hxk : x.1 = k := by simpa using hxk
          have hok := (Inv.run (l.take i)).ok x hx
          refine h0 ?_
          unfold sete
          rw [e2, ← hxk, if_pos hok, if_neg (by
            rintro ⟨h1, _⟩
            have : shas (runA (l.take i)).2 x.1 = true := by
              unfold shas
              exact List.any_eq_true.2 ⟨x, hx, by simp⟩
            rw [this] at h1; cases h1)]
      have hab : ∀ e ∈ (setL (runA (l.take i)).1 (runA (l.take i)).2 a.k), e.k ≠ k := by
        unfold setL
        rw [if_pos h0]
        intro e he
        have := (List.mem_filter.1 he).2
        simp only [Bool.not_eq_true', decide_eq_false_iff_not] at this
        rw [e2] at this
        exact fun e4 => this e4.symm
      have h := (lget_none_iff k).2 (absent (l.drop (i + 1)) _ hab hn)
      rw [← hR] at h
      rw [h]
      exact ⟨rfl, fun e h => by cases h⟩
    rw [if_neg c2]
    by_cases c4 : mayB a = true ∧ shas (runA (l.take i)).2 a.k = false ∧ a.k = k
    · rw [if_pos c4]
      obtain ⟨e1, e2, e3⟩ := c4
      have hd4 := may_d e1
      have hst := stp4 (z := runA (l.take i)) hd4.1 hd4.2.1 hd4.2.2.1 hd4.2.2.2
      have hbl : badLearn (runA (l.take i)).2 a.k a.p = false := by
        rw [bad_may (d_gt hd4.1 hd4.2.1 hd4.2.2.1 hd4.2.2.2), e1, e2]; rfl
      have hll : llearn (runA (l.take i)).1 (runA (l.take i)).2 a.k a.p = lput (runA (l.take i)).1 a.k a.p := by unfold llearn; rw [if_neg (by rw [hbl]; decide)]
      rw [hll] at hst
      have hlast : (stp (runA (l.take i)) a).1.getLast? = some ⟨k, a.p, 0⟩ := by
        rw [hst]
        show (lput (runA (l.take i)).1 a.k a.p).getLast? = _
        unfold lput
        rw [List.getLast?_concat, e3]
      have hp := present (k := k) (l.drop (i + 1)) (stp (runA (l.take i)) a) ⟨k, a.p, 0⟩ ((Inv.run (l.take i)).stp a) (List.mem_of_getLast? hlast) rfl (by rw [hst]; show shas (runA (l.take i)).2 k = false; rw [← e3]; exact e2) hn
      rw [← hR] at hp
      have hpb : pushedB (l.drop (i + 1)) (l.take (i + 1)) = pshAny k (stp (runA (l.take i)) a) (l.drop (i + 1)) := by
        unfold pushedB
        rw [hr, hlast]
      refine ⟨?_, hp.2⟩
      rw [hp.1, hpb, hf, ht]
      simp
    rw [if_neg c4]
    exact scan_ok hs i t f (by omega) (hrec c2 (fun h => c4 ⟨h.1, by rw [h.2.2]; exact h.2.1, h.2.2⟩)) ht' hf'
theorem last_ok (l : List Ac) (k : Pl) (hs : shas (runA l).2 k = false) : lookB (runA l).1 (runA l).2 k = (lscan l k l.length 0 0).2 ∧ (lookB (runA l).1 (runA l).2 k = true → lookP (runA l).1 (runA l).2 k = pow8 (lscan l k l.length 0 0).1 ∧ (lscan l k l.length 0 0).1.toNat < 8) ∧ (lookB (runA l).1 (runA l).2 k = false → lookP (runA l).1 (runA l).2 k = 0) := by
  have h := scan_ok hs l.length 0 0 (Nat.le_refl _) (by rw [List.drop_length]; trivial) (by rw [List.drop_length]; rfl) (fun p => by rw [List.drop_length]; unfold pbit; simp [flsh])
  have hb : lookB (runA l).1 (runA l).2 k = (lget (runA l).1 k).isSome := by unfold lookB; rw [hs]; rfl
  have hp : lookP (runA l).1 (runA l).2 k = match lget (runA l).1 k with | some e => pow8 e.p | none => 0 := by
    unfold lookP
    rw [sget_none hs]
    rfl
  refine ⟨by rw [hb]; exact h.1, fun h1 => ?_, fun h1 => ?_⟩
  · rw [hb] at h1
    obtain ⟨e, he⟩ := Option.isSome_iff_exists.1 h1
    rw [hp, he, ← h.2 e he]
    exact ⟨rfl, (Inv.run l).prt e ((lget_iff (Inv.run l).un k e).1 he).1⟩
  · rw [hb] at h1
    have he : lget (runA l).1 k = none := by simpa using h1
    rw [hp, he]
end Go.Proofs.Ytlofaahckdfeiaa
