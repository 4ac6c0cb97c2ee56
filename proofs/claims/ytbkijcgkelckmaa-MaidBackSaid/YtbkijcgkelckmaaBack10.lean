/- MaidBack: what is put is taken, bytes that are taken are put as themselves, unlike names have unlike bytes: for every five texts, without a condition of ours. -/
import Derived.Test.YtbkijcgkelckmaaWk
import Derived.OpenShut
import Derived.ShutString
import Derived.ChangeOld
import Derived.Deep.DeepCutAuto
namespace Go.Proofs.Ytbkijcgkelckmaa.maidBack
open Go.ChangeShapes Go.WideShapes Go.ChangeAt Go.RowKit
open Go.ChangeMaps (open_string shut_string)
set_option linter.unusedVariables false
set_option linter.unusedSimpArgs false
set_option maxRecDepth 100000

set_option maxRecDepth 20000 in
set_option maxHeartbeats 4000000 in
theorem walkL (W : World) (a b c d s : List UInt8) :
    Calls Try.prog 5 #[.string ⟨a.toArray⟩, .string ⟨b.toArray⟩, .string ⟨c.toArray⟩, .string ⟨d.toArray⟩, .string ⟨s.toArray⟩] W fun e w' => e = .returned (.bool true) ∧ Below W.heap.size W w' := by
  by_cases ha : 200 < a.length
  · have p0 : (200 : Int) < (a.length : Int) := by omega
    go_enter Try.func5, Try.ntmps5
    go_wp2_with fail
    refine (wakes10 _).mono ?_
    rintro r w1 ⟨rfl, hb1⟩
    go_wp2
    go_ret
    exact ⟨rfl, hb1⟩
  by_cases hb : 200 < b.length
  · have p1 : (200 : Int) < (b.length : Int) := by omega
    have n0 : ¬ (200 : Int) < (a.length : Int) := by omega
    go_enter Try.func5, Try.ntmps5
    go_wp2_with fail
    refine (wakes10 _).mono ?_
    rintro r w1 ⟨rfl, hb1⟩
    go_wp2
    go_ret
    exact ⟨rfl, hb1⟩
  by_cases hc : 200 < c.length
  · have p2 : (200 : Int) < (c.length : Int) := by omega
    have n0 : ¬ (200 : Int) < (a.length : Int) := by omega
    have n1 : ¬ (200 : Int) < (b.length : Int) := by omega
    go_enter Try.func5, Try.ntmps5
    go_wp2_with fail
    refine (wakes10 _).mono ?_
    rintro r w1 ⟨rfl, hb1⟩
    go_wp2
    go_ret
    exact ⟨rfl, hb1⟩
  by_cases hd : 200 < d.length
  · have p3 : (200 : Int) < (d.length : Int) := by omega
    have n0 : ¬ (200 : Int) < (a.length : Int) := by omega
    have n1 : ¬ (200 : Int) < (b.length : Int) := by omega
    have n2 : ¬ (200 : Int) < (c.length : Int) := by omega
    go_enter Try.func5, Try.ntmps5
    go_wp2_with fail
    refine (wakes10 _).mono ?_
    rintro r w1 ⟨rfl, hb1⟩
    go_wp2
    go_ret
    exact ⟨rfl, hb1⟩
  by_cases hs : 200 < s.length
  · have p4 : (200 : Int) < (s.length : Int) := by omega
    have n0 : ¬ (200 : Int) < (a.length : Int) := by omega
    have n1 : ¬ (200 : Int) < (b.length : Int) := by omega
    have n2 : ¬ (200 : Int) < (c.length : Int) := by omega
    have n3 : ¬ (200 : Int) < (d.length : Int) := by omega
    go_enter Try.func5, Try.ntmps5
    go_wp2_with fail
    refine (wakes10 _).mono ?_
    rintro r w1 ⟨rfl, hb1⟩
    go_wp2
    go_ret
    exact ⟨rfl, hb1⟩
  have n0 : ¬ (200 : Int) < (a.length : Int) := by omega
  have n1 : ¬ (200 : Int) < (b.length : Int) := by omega
  have n2 : ¬ (200 : Int) < (c.length : Int) := by omega
  have n3 : ¬ (200 : Int) < (d.length : Int) := by omega
  have n4 : ¬ (200 : Int) < (s.length : Int) := by omega
  have KX := Lib.hid (fun w => mdput a b w (by omega) (by omega))
  have KY := Lib.hid (fun w => mdput c d w (by omega) (by omega))
  have HIN := Lib.hid (fun h h' => @mdV_inj a b c d h h')
  have KXT := Lib.hid (fun w => mdtake (mdV a b) w)
  have HPT := Lib.hid (fun h => @pt_put a b h)
  have HLE := Lib.hid (fun h => @mdV_len a b h)
  have KT := Lib.hid (fun w => mdtake s w)
  have HT := Lib.hid (pt_is s)
  have hla := rdA_len s
  have hlb := rdB_len s
  have hm : (ptA s).length ≤ 255 ∧ (ptB s).length ≤ 255 := by
    unfold ptA ptB
    constructor <;> (split <;> first | assumption | simp)
  have HMN := Lib.hid hm
  obtain ⟨M, hM⟩ : ∃ A, ptA s = A := ⟨_, rfl⟩
  obtain ⟨N, hN⟩ : ∃ B, ptB s = B := ⟨_, rfl⟩
  obtain ⟨G, hG⟩ : ∃ E, ptE s = E := ⟨_, rfl⟩
  rw [hM, hN, hG] at KT HT
  rw [hM, hN] at HMN
  obtain ⟨V, hV⟩ : ∃ V, mdV a b = V := ⟨_, rfl⟩
  obtain ⟨E, hE⟩ : ∃ E, mdE a b = E := ⟨_, rfl⟩
  obtain ⟨V2, hV2⟩ : ∃ V, mdV c d = V := ⟨_, rfl⟩
  obtain ⟨E2, hE2⟩ : ∃ E, mdE c d = E := ⟨_, rfl⟩
  simp only [hV, hE, hV2, hE2] at KX KY HIN KXT HPT HLE
  have HVV := Lib.hid (And.intro hV hV2)
  clear hM hN hG hla hlb hm hV hE hV2 hE2 ha hb hc hd hs
  go_enter Try.func5, Try.ntmps5
  go_wp2_with fail
  refine (KX.out _).mono ?_
  rintro r w1 ⟨rfl, hb1⟩
  have HB1 : Hid (Below W.heap.size W w1) := Lib.hid (hb1)
  clear hb1
  go_wp2_with fail
  refine (KY.out _).mono ?_
  rintro r w2 ⟨rfl, hb2⟩
  have HB2 : Hid (Below W.heap.size W w2) := Lib.hid (HB1.out.trans (hb2.mono HB1.out.size))
  clear hb2
  clear n0 n1 n2 n3 n4 KX KY
  go_upto_region 5 with (fail)
  go_cut [78] (fun t wx => t = .bool false ∧ wx = w2)
  case first =>
    by_cases hE : E = 0
    · subst hE
      by_cases hE2 : E2 = 0
      · subst hE2
        obtain ⟨qa, hqa⟩ : ∃ q, (a == c) = q := ⟨_, rfl⟩
        obtain ⟨qb, hqb⟩ : ∃ q, (b == d) = q := ⟨_, rfl⟩
        have hq : (V == V2) = (qa && qb) := by
          rw [← hqa, ← hqb, Bool.eq_iff_iff]
          simp only [Bool.and_eq_true, beq_iff_eq]
          exact ⟨fun h => HIN.out rfl rfl h, fun h => by obtain ⟨h1, h2⟩ := h; rw [← HVV.out.1, ← HVV.out.2, h1, h2]⟩
        clear HIN
        cases qa <;> cases qb
        all_goals (
          simp only [Bool.and_true, Bool.and_false, Bool.true_and, Bool.false_and] at hq
          go_wp2
          go_meet
          exact ⟨rfl, rfl⟩)
      · have e2 : (E2 == 0) = false := by simpa using hE2
        clear hE2
        go_wp2
        go_meet
        exact ⟨rfl, rfl⟩
    · have e1 : (E == 0) = false := by simpa using hE
      clear hE
      go_wp2
      go_meet
      exact ⟨rfl, rfl⟩
  obtain ⟨rfl, hw⟩ := hcut
  rw [hw]
  clear hw HIN
  by_cases hE : E = 0
  · subst hE
    obtain ⟨x1, x2, x3⟩ := HPT.out rfl
    have x4 := HLE.out rfl
    rw [x1, x2, x3] at KXT
    clear HPT HLE HVV x1 x2 x3
    go_wp2_with fail
    refine (KXT.out _).mono ?_
    rintro r w3 ⟨rfl, hb3⟩
    have HB3 : Hid (Below W.heap.size W w3) := Lib.hid (HB2.out.trans (hb3.mono HB2.out.size))
    clear hb3 KXT
    go_wp2_with fail
    refine (KT.out _).mono ?_
    rintro r w4 ⟨rfl, hb4⟩
    have HB4 : Hid (Below W.heap.size W w4) := Lib.hid (HB3.out.trans (hb4.mono HB3.out.size))
    clear hb4 KT
    rcases HT.out with ⟨q1, q2, q3⟩ | ⟨q1, q2, q3, _⟩
    · subst q1
      have K2 := Lib.hid (fun w => mdput M N w (by have := HMN.out; omega) (by have := HMN.out; omega))
      rw [q2, q3] at K2
      clear q2 q3 HT
      go_wp2_with fail
      refine (K2.out _).mono ?_
      rintro r w5 ⟨rfl, hb5⟩
      have HB5 : Hid (Below W.heap.size W w5) := Lib.hid (HB4.out.trans (hb5.mono HB4.out.size))
      clear hb5
      go_wp2_with fail
      refine (wakes10 _).mono ?_
      rintro r w6 ⟨rfl, hb6⟩
      have HB6 : Hid (Below W.heap.size W w6) := Lib.hid (HB5.out.trans (hb6.mono HB5.out.size))
      clear hb6
      go_wp2
      go_ret
      exact ⟨rfl, HB6.out⟩

    · subst q1 q2 q3
      clear HT
      go_wp2_with fail
      refine (wakes10 _).mono ?_
      rintro r w5 ⟨rfl, hb5⟩
      have HB5 : Hid (Below W.heap.size W w5) := Lib.hid (HB4.out.trans (hb5.mono HB4.out.size))
      clear hb5
      go_wp2
      go_ret
      exact ⟨rfl, HB5.out⟩

  · have e1 : (E == 0) = false := by simpa using hE
    clear HPT HLE HVV KXT hE
    go_wp2_with fail
    refine (KT.out _).mono ?_
    rintro r w3 ⟨rfl, hb3⟩
    have HB3 : Hid (Below W.heap.size W w3) := Lib.hid (HB2.out.trans (hb3.mono HB2.out.size))
    clear hb3 KT
    rcases HT.out with ⟨q1, q2, q3⟩ | ⟨q1, q2, q3, _⟩
    · subst q1
      have K2 := Lib.hid (fun w => mdput M N w (by have := HMN.out; omega) (by have := HMN.out; omega))
      rw [q2, q3] at K2
      clear q2 q3 HT
      go_wp2_with fail
      refine (K2.out _).mono ?_
      rintro r w4 ⟨rfl, hb4⟩
      have HB4 : Hid (Below W.heap.size W w4) := Lib.hid (HB3.out.trans (hb4.mono HB3.out.size))
      clear hb4
      go_wp2_with fail
      refine (wakes10 _).mono ?_
      rintro r w5 ⟨rfl, hb5⟩
      have HB5 : Hid (Below W.heap.size W w5) := Lib.hid (HB4.out.trans (hb5.mono HB4.out.size))
      clear hb5
      go_wp2
      go_ret
      exact ⟨rfl, HB5.out⟩

    · subst q1 q2 q3
      clear HT
      go_wp2_with fail
      refine (wakes10 _).mono ?_
      rintro r w4 ⟨rfl, hb4⟩
      have HB4 : Hid (Below W.heap.size W w4) := Lib.hid (HB3.out.trans (hb4.mono HB3.out.size))
      clear hb4
      go_wp2
      go_ret
      exact ⟨rfl, HB4.out⟩

set_option maxRecDepth 100000 in
set_option maxHeartbeats 4000000 in
theorem walk {H : Type} {enc : TypeId × Value → H} (W : World) (base : Nat) {v0 v1 v2 v3 v4 : Value} {d0 d1 d2 d3 d4 : DataW H} {p0 p1 p2 p3 p4 : List MemPlace}
    (o0 : Value.okWide Try.prog W .any base 9 v0) (h0 : DataW.Trod enc Try.prog W 0 (fun _ => true) true 9 v0 d0 p0) (o1 : Value.okWide Try.prog W .any base 9 v1) (h1 : DataW.Trod enc Try.prog W 0 (fun _ => true) true 9 v1 d1 p1) (o2 : Value.okWide Try.prog W .any base 9 v2) (h2 : DataW.Trod enc Try.prog W 0 (fun _ => true) true 9 v2 d2 p2) (o3 : Value.okWide Try.prog W .any base 9 v3) (h3 : DataW.Trod enc Try.prog W 0 (fun _ => true) true 9 v3 d3 p3) (o4 : Value.okWide Try.prog W .any base 9 v4) (h4 : DataW.Trod enc Try.prog W 0 (fun _ => true) true 9 v4 d4 p4) :
    Calls Try.prog 5 #[v0, v1, v2, v3, v4] W fun e w' => e = .returned (.bool true) ∧ Below W.heap.size W w' := by
  obtain ⟨sb0, rfl, rfl, rfl, hs0⟩ := open_string Try.underlying9 o0 h0
  obtain ⟨⟨a⟩⟩ := sb0
  obtain ⟨sb1, rfl, rfl, rfl, hs1⟩ := open_string Try.underlying9 o1 h1
  obtain ⟨⟨b⟩⟩ := sb1
  obtain ⟨sb2, rfl, rfl, rfl, hs2⟩ := open_string Try.underlying9 o2 h2
  obtain ⟨⟨c⟩⟩ := sb2
  obtain ⟨sb3, rfl, rfl, rfl, hs3⟩ := open_string Try.underlying9 o3 h3
  obtain ⟨⟨d⟩⟩ := sb3
  obtain ⟨sb4, rfl, rfl, rfl, hs4⟩ := open_string Try.underlying9 o4 h4
  obtain ⟨⟨s⟩⟩ := sb4
  exact walkL W a b c d s

theorem own : ownKnob Try.prog.godebug = none := by kernel_rfl
theorem laidOut : laidOutB Try.prog = true := by kernel_rfl
set_option maxRecDepth 100000 in
theorem lifted (os : Os) (started : os.Started) (H : Type) (enc : TypeId × Value → H) :
    ReturnsInHanded {} Try.checked os 5 .any (Rows.maidBackSpec.pre6 enc Try.prog Try.f5 Rows.maidBackRow.domain false) (Rows.maidBackSpec.post enc Try.prog Try.f5 false true false false) := by
  refine returnsInHanded_of_change (C := Try.checked) own started (by kernel_rfl) Try.func5
    (ChangeSpec.witness6 (enc := enc) (C := Try.checked) false ⟨#[], #[.string ⟨#[]⟩, .string ⟨#[]⟩, .string ⟨#[]⟩, .string ⟨#[]⟩, .string ⟨#[]⟩], []⟩ 8 (by kernel_rfl) (by kernel_rfl) (by kernel_rfl) (by kernel_rfl)) ?_
  intro W base args ds gs before hval0 hW hcnd _
  have hval : ∀ (j : Nat) t v, Try.f5.params[j]? = some t → args[j]? = some v → Value.okWide Try.prog W .any base t v := hval0
  have hW' := hW
  obtain ⟨p, q, hA0, hV, rfl, hfz, hnd⟩ := hW
  have hA : DataW.TrodAll enc Try.prog W 0 (fun _ => true) true Try.f5.params.toList args.toList ds p := hA0
  rw [Try.params5] at hA hval
  obtain ⟨v0, vs0, d0, ds0, p0, q0, hargs, rfl, rfl, h0, r0⟩ := trodAll_cons hA
  obtain ⟨v1, vs1, d1, ds1, p1, q1, rfl, rfl, rfl, h1, r1⟩ := trodAll_cons r0
  obtain ⟨v2, vs2, d2, ds2, p2, q2, rfl, rfl, rfl, h2, r2⟩ := trodAll_cons r1
  obtain ⟨v3, vs3, d3, ds3, p3, q3, rfl, rfl, rfl, h3, r3⟩ := trodAll_cons r2
  obtain ⟨v4, vs4, d4, ds4, p4, q4, rfl, rfl, rfl, h4, r4⟩ := trodAll_cons r3
  obtain ⟨rfl, rfl, rfl⟩ := trodAll_nil r4
  obtain rfl : args = #[v0, v1, v2, v3, v4] := by cases args; simp_all
  obtain ⟨rfl, rfl⟩ := trodVars_none hV
  have o0 := hval 0 9 v0 rfl rfl
  have lt0 : ∀ x ∈ p0, x.block < W.heap.size := by obtain ⟨m, hm⟩ := h0; exact DataW.trod_lt m _ _ _ hm
  have o1 := hval 1 9 v1 rfl rfl
  have lt1 : ∀ x ∈ p1, x.block < W.heap.size := by obtain ⟨m, hm⟩ := h1; exact DataW.trod_lt m _ _ _ hm
  have o2 := hval 2 9 v2 rfl rfl
  have lt2 : ∀ x ∈ p2, x.block < W.heap.size := by obtain ⟨m, hm⟩ := h2; exact DataW.trod_lt m _ _ _ hm
  have o3 := hval 3 9 v3 rfl rfl
  have lt3 : ∀ x ∈ p3, x.block < W.heap.size := by obtain ⟨m, hm⟩ := h3; exact DataW.trod_lt m _ _ _ hm
  have o4 := hval 4 9 v4 rfl rfl
  have lt4 : ∀ x ∈ p4, x.block < W.heap.size := by obtain ⟨m, hm⟩ := h4; exact DataW.trod_lt m _ _ _ hm
  clear hA0 hval0
  refine (walk W base o0 h0 o1 h1 o2 h2 o3 h3 o4 h4).mono fun e W' ⟨he, bel⟩ => ?_
  subst he
  exact ⟨_, rfl, _, _, _, [], _, [], hW', trodAll_mk1 (shut_bool Try.underlying4 _), (trodAll_cons_mk (Below.trod laidOut (by kernel_rfl) (of_decide_eq_true (by kernel_rfl)) h0 bel lt0) (trodAll_cons_mk (Below.trod laidOut (by kernel_rfl) (of_decide_eq_true (by kernel_rfl)) h1 bel lt1) (trodAll_cons_mk (Below.trod laidOut (by kernel_rfl) (of_decide_eq_true (by kernel_rfl)) h2 bel lt2) (trodAll_cons_mk (Below.trod laidOut (by kernel_rfl) (of_decide_eq_true (by kernel_rfl)) h3 bel lt3) (trodAll_cons_mk (Below.trod laidOut (by kernel_rfl) (of_decide_eq_true (by kernel_rfl)) h4 bel lt4) trodAll_mk0))))), rfl, bel.frame _, fun h => by cases h⟩

theorem over : Rows.maidBackRow.holds Try.pinned (OpenSpec.ofChange Rows.maidBackSpec) :=
  OpenClaim.holds_of_wide 5 Try.f5 rfl rfl rfl rfl rfl rfl rfl ⟨rfl, rfl, rfl, rfl, rfl⟩ rfl rfl rfl rfl rfl (by kernel_rfl) Try.func5 (by kernel_rfl)
    (of_decide_eq_true (by kernel_rfl)) (by unfold Func.isWrapper; first | (rw [if_pos (by decide +kernel)]; kernel_rfl) | (rw [if_neg (by decide +kernel)]; exact ⟨rfl, rfl⟩))
    (fun os started H enc _ => lifted os started H enc)

/-- THE STATEMENT -/
theorem proved : Rows.MaidBackSaid := over
end Go.Proofs.Ytbkijcgkelckmaa.maidBack
