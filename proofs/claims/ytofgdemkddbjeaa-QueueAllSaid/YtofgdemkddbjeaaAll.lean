/- QueueAll: all things are those that come out then. -/
import Derived.Test.YtofgdemkddbjeaaWakes
import Derived.Test.YtofgdemkddbjeaaQueImpl
import Derived.OpenShut
import Derived.ShutString
import Derived.ChangeOld
namespace Go.Proofs.Ytofgdemkddbjeaa.queueAll
open Go.ChangeShapes Go.WideShapes Go.ChangeAt Go.RowKit
open Go.ChangeMaps (open_string shut_string)
set_option linter.unusedVariables false
set_option linter.unusedSimpArgs false
set_option maxRecDepth 100000


/-- a text is one cell -/
def encS (s : ByteArray) : List Value := [.string s]
/-- texts, as values -/
def vs (l : List ByteArray) : List Value := l.map .string
theorem vs_len (l : List ByteArray) : (vs l).length = l.length := by simp [vs]
theorem vs_ok (l : List ByteArray) : ∀ u ∈ vs l, isS u := by
  intro u hu
  simp only [vs, List.mem_map] at hu
  obtain ⟨s, _, rfl⟩ := hu
  exact ⟨s, rfl⟩
theorem vs_take {l : List ByteArray} {k : Nat} {s : ByteArray} (h : l[k]? = some s) : vs (l.take (k + 1)) = vs (l.take k) ++ [.string s] := by
  obtain ⟨hk, rfl⟩ := List.getElem?_eq_some_iff.1 h
  rw [List.take_succ_eq_append_getElem hk]
  unfold vs
  rw [List.map_append]
  rfl
theorem vs_drop {l : List ByteArray} {k : Nat} {s : ByteArray} (h : l[k]? = some s) : vs (l.drop k) = .string s :: vs (l.drop (k + 1)) := by
  obtain ⟨hk, rfl⟩ := List.getElem?_eq_some_iff.1 h
  rw [List.drop_eq_getElem_cons hk]
  rfl
theorem vs_get {l : List ByteArray} {k : Nat} {s : ByteArray} (h : l[k]? = some s) : (vs l)[k]? = some (.string s) := by simp [vs, h]
theorem els_str {w : World} {A : Option Addr} {l : List ByteArray} (h : Els 1 encS w A l) : Els 1 one w A (vs l) := by
  intro h0
  obtain ⟨b, off, e, hlt, hc⟩ := h (by rw [vs_len] at h0; exact h0)
  refine ⟨b, off, e, hlt, fun i hi j v hv => hc i (by rw [vs_len] at hi; exact hi) j v ?_⟩
  simpa [vs, one, encS] using hv
/-- while the first loop runs -/
structure Put (W w : World) (p c : Nat) (A : Option Addr) (l : List ByteArray) (L : List Value) : Prop where
  q : Que w p c 60 200 L
  a : Els 1 one w A (vs l)
  b : Below W.heap.size W w
  pb : W.heap.size ≤ p
  cb : W.heap.size ≤ c
theorem one_pos (v : Value) : 0 < (one v).length := Nat.zero_lt_one
theorem Put.step {W w w' : World} {p c : Nat} {A : Option Addr} {l : List ByteArray} {L L' : List Value} (h : Put W w p c A l L) (hq : Que w' p c 60 200 L') (hg : Chg (sole c) w w') : Put W w' p c A l L' :=
  ⟨hq, h.a.chan one_pos h.q.ch hg, h.b.trans (hg.below h.b.size (fun k hk e => by have := h.cb; unfold sole at e; omega)), h.pb, h.cb⟩
theorem Put.drew {W w : World} {p c : Nat} {A : Option Addr} {l : List ByteArray} {L : List Value} (h : Put W w p c A l L) : Put W w.drew p c A l L := ⟨h.q.drew, h.a, h.b.drew, h.pb, h.cb⟩
theorem els_drew {α : Type} {k : Nat} {enc : α → List Value} {w : World} {A : Option Addr} {l : List α} (h : Els k enc w A l) : Els k enc w.drew A l := h
set_option maxRecDepth 100000 in
set_option maxHeartbeats 4000000 in
theorem all_law (KS : QueS) (W : World) (A : Option Addr) (ca : Nat) (l : List ByteArray) (hl : l.length ≤ maxLen) (hE : Els 1 encS W A l) :
    Calls Try.prog 6 #[.slice A l.length ca] W fun e w' => e = .returned (.bool true) ∧ Below W.heap.size W w' := by
  have HK := Lib.hid KS
  have HE := Lib.hid (els_str hE)
  obtain ⟨n, hn⟩ : ∃ n, l.length = n := ⟨_, rfl⟩
  have HN := Lib.hid hn
  rw [hn] at hl ⊢
  unfold maxLen at hl
  clear KS hE hn
  by_cases h200 : 200 < n
  · have d : decide ((200 : Int) < (n : Int)) = true := by simp; omega
    go_enter Try.func6, Try.ntmps6
    go_wp2_with fail
    refine (wakes_any HK.out _).mono ?_
    rintro e w1 ⟨rfl, hb⟩
    go_wp2
    go_ret
    exact ⟨rfl, hb⟩
  have d : decide ((200 : Int) < (n : Int)) = false := by simp; omega
  have h200' : n ≤ 200 := by omega
  clear h200 hl
  go_enter Try.func6, Try.ntmps6
  go_wp2_with fail
  refine (HK.out.newOk _ 200 (by decide) (by decide)).mono ?_
  rintro e w1 ⟨p, c, rfl, hq, hp, hc, hb⟩
  have HP1 : Hid (Put W w1 p c A l []) := Lib.hid ⟨hq, HE.out.next hb, hb, hp, hc⟩
  clear hq hp hc hb HE
  go_wp2_with fail
  go_loopw [5] (fun i wr => ∃ k : Nat, k ≤ n ∧ i = .int .i64 k ∧ Hid (Put W wr p c A l (vs (l.take k)))) (fun i _ => n - (intOf i).toNat)
  case atStart => exact ⟨0, Nat.zero_le _, rfl, by simpa [vs] using HP1⟩
  case round =>
    obtain ⟨k, hk, rfl, HP⟩ := hrel
    by_cases hlt : k < n
    · have hlt' : k < l.length := by rw [HN.out]; exact hlt
      obtain ⟨s, hs⟩ : ∃ s, l[k]? = some s := ⟨_, List.getElem?_eq_getElem hlt'⟩
      obtain ⟨b, off, rfl, hbl, hcl⟩ := HP.out.a.at (by rw [vs_len]; omega)
      have c0 : wr.cell? ⟨b, off + k, none⟩ = some (.string s) := hcl k _ (vs_get hs)
      have HT := Lib.hid (vs_take hs)
      clear hcl hbl hs
      go_wp2_with fail
      refine (HK.out.pushRoom _ p c 200 (vs (l.take k)) (.string s) ⟨_, rfl⟩ HP.out.q (by rw [vs_len, List.length_take, HN.out]; omega)).mono ?_
      rintro e w2 ⟨rfl, hq, hg⟩
      rw [← HT.out] at hq
      have HP2 := Lib.hid (HP.out.step hq hg)
      clear hq hg HP c0
      go_wp2
      go_roundw
      case rel => exact ⟨k + 1, by omega, by go_num, HP2⟩
      case measure => simp [intOf]; omega
    · obtain rfl : k = n := by omega
      have hP := HP.out
      rw [List.take_of_length_le (by rw [HN.out]; omega)] at hP
      clear HP HP1
      have HP1 := Lib.hid hP
      clear hP
      go_wp2_with fail
      refine (HK.out.allAny _ p c 200 (vs l) HP1.out.q (by rw [vs_len, HN.out]; omega) (by decide) (vs_ok l)).mono ?_
      rintro e w2 ⟨Aa, ka, rfl, he, hq, hg⟩
      rw [vs_len, HN.out]
      have HP2 := Lib.hid (HP1.out.step hq hg)
      have HA2 := Lib.hid he
      clear he hq hg HP1
      go_wp2_with fail
      refine (HK.out.allAny _ p c 200 (vs l) HP2.out.q (by rw [vs_len, HN.out]; omega) (by decide) (vs_ok l)).mono ?_
      rintro e w3 ⟨Ab, kb, rfl, he, hq, hg⟩
      rw [vs_len, HN.out]
      have HP3 := Lib.hid (HP2.out.step hq hg)
      have HA3 := Lib.hid (HA2.out.chan one_pos HP2.out.q.ch hg)
      have HB3 := Lib.hid he
      clear he hq hg HP2 HA2
      have dk : (k != k) = false := by simp
      go_wp2_with fail
      go_loopw [8] (fun i wr => ∃ j : Nat, j ≤ k ∧ i = .int .i64 j ∧ Hid (Put W wr p c A l (vs (l.drop j))) ∧ Hid (Els 1 one wr Aa (vs l)) ∧ Hid (Els 1 one wr Ab (vs l))) (fun i _ => k - (intOf i).toNat)
      case atStart => exact ⟨0, Nat.zero_le _, rfl, HP3, HA3, HB3⟩
      case round =>
        obtain ⟨j, hj, rfl, HP, HA, HB⟩ := hrel
        by_cases hlt : j < k
        · have hlt' : j < l.length := by rw [HN.out]; exact hlt
          obtain ⟨s, hs⟩ : ∃ s, l[j]? = some s := ⟨_, List.getElem?_eq_getElem hlt'⟩
          have HG := Lib.hid (vs_get hs)
          have hD := vs_drop hs
          clear hs
          go_wp2_with fail
          refine (HK.out.popSome _ p c 200 (vs (l.drop (j + 1))) (.string s) (by rw [← hD]; exact HP.out.q)).mono ?_
          rintro e w4 ⟨rfl, hq, hg⟩
          have HP4 := Lib.hid (HP.out.step hq hg)
          have HA4 := Lib.hid (HA.out.chan one_pos HP.out.q.ch hg)
          have HB4 := Lib.hid (HB.out.chan one_pos HP.out.q.ch hg)
          clear hq hg hD HP HA HB
          obtain ⟨b0, o0, rfl, hb0, hc0⟩ := HP4.out.a.at (by rw [vs_len]; omega)
          obtain ⟨b1, o1, rfl, hb1, hc1⟩ := HA4.out.at (by rw [vs_len]; omega)
          obtain ⟨b2, o2, rfl, hb2, hc2⟩ := HB4.out.at (by rw [vs_len]; omega)
          have c0 : w4.cell? ⟨b0, o0 + j, none⟩ = some (.string s) := hc0 j _ HG.out
          have c1 : w4.cell? ⟨b1, o1 + j, none⟩ = some (.string s) := hc1 j _ HG.out
          have c2 : w4.cell? ⟨b2, o2 + j, none⟩ = some (.string s) := hc2 j _ HG.out
          clear hc0 hc1 hc2 hb0 hb1 hb2
          go_wp2_with fail
          go_region
          clear c0 c1 c2
          go_wp2
          go_roundw
          case rel => exact ⟨j + 1, by omega, by go_num, Lib.hid HP4.out.drew, Lib.hid (els_drew HA4.out), Lib.hid (els_drew HB4.out)⟩
          case measure => simp [intOf]; omega
        · obtain rfl : j = k := by omega
          have hP := HP.out
          rw [List.drop_of_length_le (by rw [HN.out]; omega)] at hP
          have HP5 := Lib.hid hP
          clear hP HP HA HB HP3 HA3 HB3
          go_wp2_with fail
          refine (drawn_same HP5.out.q (HK.out.lenAny _ p c 200 _ HP5.out.q (by simp [vs]) (by decide))).mono ?_
          rintro e w6 ⟨rfl, hq, hg⟩
          have HP6 := Lib.hid (HP5.out.step hq hg)
          clear hq hg HP5
          go_wp2_with fail
          refine (wakes_any HK.out _).mono ?_
          rintro e w7 ⟨rfl, hb⟩
          go_wp2
          go_ret
          exact ⟨rfl, HP6.out.b.trans (hb.mono HP6.out.b.size)⟩

set_option maxRecDepth 100000 in
set_option maxHeartbeats 4000000 in
theorem walk {H : Type} {enc : TypeId × Value → H} (W : World) (base : Nat) {v0 : Value} {d0 : DataW H} {p0 : List MemPlace}
    (o0 : Value.okWide Try.prog W .any base 46 v0) (h0 : DataW.Trod enc Try.prog W 0 (fun _ => true) true 46 v0 d0 p0) :
    Calls Try.prog 6 #[v0] W fun e w' => e = .returned (.bool true) ∧ Below W.heap.size W w' := by
  obtain ⟨A, c, l, rfl, hl, _, _, hE⟩ := open_els 1 encS (fun _ => True) Try.underlying46 (e := 9) (by kernel_rfl) (by omega)
    (fun cs fuel x hl h => by
      obtain ⟨s, e, _, hw⟩ := DataW.trod_string Try.underlying9 h
      exact ⟨s, trivial, e⟩) o0 h0
  exact all_law queS W A c l hl hE

theorem own : ownKnob Try.prog.godebug = none := by kernel_rfl
theorem laidOut : laidOutB Try.prog = true := by kernel_rfl
set_option maxRecDepth 100000 in
theorem lifted (os : Os) (started : os.Started) (H : Type) (enc : TypeId × Value → H) :
    ReturnsInHanded {} Try.checked os 6 .any (Rows.queueAllSpec.pre6 enc Try.prog Try.f6 Rows.queueAllRow.domain false) (Rows.queueAllSpec.post enc Try.prog Try.f6 false true false false) := by
  refine returnsInHanded_of_change (C := Try.checked) own started (by kernel_rfl) Try.func6
    (ChangeSpec.witness6 (enc := enc) (C := Try.checked) false ⟨#[], #[.slice none 0 0], []⟩ 8 (by kernel_rfl) (by kernel_rfl) (by kernel_rfl) (by kernel_rfl)) ?_
  intro W base args ds gs before hval0 hW hcnd _
  have hval : ∀ (j : Nat) t v, Try.f6.params[j]? = some t → args[j]? = some v → Value.okWide Try.prog W .any base t v := hval0
  have hW' := hW
  obtain ⟨p, q, hA0, hV, rfl, hfz, hnd⟩ := hW
  have hA : DataW.TrodAll enc Try.prog W 0 (fun _ => true) true Try.f6.params.toList args.toList ds p := hA0
  rw [Try.params6] at hA hval
  obtain ⟨v0, vs0, d0, ds0, p0, q0, hargs, rfl, rfl, h0, r0⟩ := trodAll_cons hA
  obtain ⟨rfl, rfl, rfl⟩ := trodAll_nil r0
  obtain rfl : args = #[v0] := by cases args; simp_all
  obtain ⟨rfl, rfl⟩ := trodVars_none hV
  have o0 := hval 0 46 v0 rfl rfl
  have lt0 : ∀ x ∈ p0, x.block < W.heap.size := by obtain ⟨m, hm⟩ := h0; exact DataW.trod_lt m _ _ _ hm
  clear hA0 hval0
  refine (walk W base o0 h0).mono fun e W' ⟨he, bel⟩ => ?_
  subst he
  exact ⟨_, rfl, _, _, _, [], _, [], hW', trodAll_mk1 (shut_bool Try.underlying4 _), (trodAll_cons_mk (Below.trod laidOut (by kernel_rfl) (of_decide_eq_true (by kernel_rfl)) h0 bel lt0) trodAll_mk0), rfl, bel.frame _, fun h => by cases h⟩

theorem over : Rows.queueAllRow.holds Try.pinned (OpenSpec.ofChange Rows.queueAllSpec) :=
  OpenClaim.holds_of_wide 6 Try.f6 rfl rfl rfl rfl rfl rfl rfl ⟨rfl, rfl, rfl, rfl, rfl⟩ rfl rfl rfl rfl rfl (by kernel_rfl) Try.func6 (by kernel_rfl)
    (of_decide_eq_true (by kernel_rfl)) (by unfold Func.isWrapper; first | (rw [if_pos (by decide +kernel)]; kernel_rfl) | (rw [if_neg (by decide +kernel)]; exact ⟨rfl, rfl⟩))
    (fun os started H enc _ => lifted os started H enc)

/-- THE STATEMENT -/
theorem proved : Rows.QueueAllSaid := over
end Go.Proofs.Ytofgdemkddbjeaa.queueAll
