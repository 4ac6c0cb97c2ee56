/- CfmPuts: a message's bytes, or why there are none, are what the document says: for every message, without a condition of ours. -/
import Derived.Test.YtjilolehcboihaaOpenPd
import Derived.OpenShut
import Derived.ShutString
import Derived.ChangeOld
import Derived.Deep.DeepCutAuto
namespace Go.Proofs.Ytjilolehcboihaa.cfmPuts
open Go.ChangeShapes Go.WideShapes Go.ChangeAt Go.RowKit
open Go.ChangeMaps (open_string shut_string)
set_option linter.unusedVariables false
set_option linter.unusedSimpArgs false
set_option maxRecDepth 100000

set_option maxRecDepth 100000 in
set_option maxHeartbeats 4000000 in
theorem walkL (W : World) (A : Option Addr) (c : Nat) (p : Pd) (hE : Els 2 tlV W A p.t) :
    Calls Try.prog 3 #[PdV p A c] W fun e w' => e = .returned (.bool true) ∧ Below W.heap.size W w' := by
  show Calls _ _ #[.agg #[.int .u8 p.l.toNat, .int .u8 p.o.toNat, .int .u8 p.g.toNat, .string ⟨p.x.toArray⟩, .slice A p.t.length c]] _ _
  have HB0 : Hid (Below W.heap.size W (W.alloc (.cells #[.int .u8 p.l.toNat, .int .u8 p.o.toNat, .int .u8 p.g.toNat, .string ⟨p.x.toArray⟩, .slice A p.t.length c] 24))) := Lib.hid ((Below.refl _ _).alloc (Nat.le_refl _) _)
  have HE0 := Lib.hid (hE.next HB0.out)
  have HK0 : Hid (Blk (W.alloc (.cells #[.int .u8 p.l.toNat, .int .u8 p.o.toNat, .int .u8 p.g.toNat, .string ⟨p.x.toArray⟩, .slice A p.t.length c] 24)) W.heap.size 24 #[.int .u8 p.l.toNat, .int .u8 p.o.toNat, .int .u8 p.g.toNat, .string ⟨p.x.toArray⟩, .slice A p.t.length c]) := Lib.hid (Blk.new W _ _)
  have KT := Lib.hid (fun w h => great12_any A c p w h)
  have HGN := Lib.hid (fun h => @pdG_no p h)
  obtain ⟨q, hq⟩ : ∃ q, pdG p = q := ⟨_, rfl⟩
  rw [hq] at KT HGN
  obtain ⟨n, hn⟩ : ∃ n, p.t.length = n := ⟨_, rfl⟩
  have HN := Lib.hid hn
  cases q
  · have hg := HGN.out rfl
    have KO := Lib.hid (fun w h => of12_any A c p w h (by omega))
    have KP := Lib.hid (fun B d w h => cfput_any B d p w h (by omega))
    have KR := Lib.hid (fun w h => refput12_any A c p w h (by omega))
    obtain ⟨V, hV⟩ : ∃ V, pdP p = V := ⟨_, rfl⟩
    obtain ⟨E, hEr⟩ : ∃ E, pdE p = E := ⟨_, rfl⟩
    rw [hV, hEr] at KP KR
    simp only [PdV, hn] at KT KO KP KR HK0 HB0 HE0
    rw [hn]
    clear hE hV hEr hn hq hg HGN
    go_enter Try.func3, Try.ntmps3
    go_wp2_with fail
    refine (KT.out _ HE0.out).mono ?_
    rintro r w1 ⟨rfl, hb1⟩
    have HB1 : Hid (Below W.heap.size W w1) := Lib.hid (HB0.out.trans (hb1.mono HB0.out.size))
    have HK1 := Lib.hid (HK0.out.below hb1 HK0.out.lt)
    have HE1 := Lib.hid (HE0.out.next hb1)
    clear hb1 HK0 HE0 HB0
    have k0 := HK1.out.cell 0
    have k1 := HK1.out.cell 1
    have k2 := HK1.out.cell 2
    have k3 := HK1.out.cell 3
    have k4 := HK1.out.cell 4
    simp only [List.getElem?_toArray, List.getElem?_cons_succ, List.getElem?_cons_zero] at k0 k1 k2 k3 k4
    go_wp2_with fail
    refine (KO.out _ HE1.out).mono ?_
    rintro r w2 ⟨B, d, rfl, hF, hA, hb2⟩
    have HF2 := Lib.hid hF
    have HB2 : Hid (Below W.heap.size W w2) := Lib.hid (HB1.out.trans (hb2.mono HB1.out.size))
    have HK2 := Lib.hid (HK1.out.below hb2 HK1.out.lt)
    have HE2 := Lib.hid (HE1.out.next hb2)
    clear hF hA hb2 HK1 HE1 HB1 k0 k1 k2 k3 k4
    go_wp2_with fail
    refine (KP.out _ _ _ HF2.out).mono ?_
    rintro r w3 ⟨rfl, hb3⟩
    have HB3 : Hid (Below W.heap.size W w3) := Lib.hid (HB2.out.trans (hb3.mono HB2.out.size))
    have HK3 := Lib.hid (HK2.out.below hb3 HK2.out.lt)
    have HE3 := Lib.hid (HE2.out.next hb3)
    clear hb3 HK2 HE2 HB2
    have k0 := HK3.out.cell 0
    have k1 := HK3.out.cell 1
    have k2 := HK3.out.cell 2
    have k3 := HK3.out.cell 3
    have k4 := HK3.out.cell 4
    simp only [List.getElem?_toArray, List.getElem?_cons_succ, List.getElem?_cons_zero] at k0 k1 k2 k3 k4
    go_wp2_with fail
    refine (KR.out _ HE3.out).mono ?_
    rintro r w4 ⟨rfl, hb4⟩
    have HB4 : Hid (Below W.heap.size W w4) := Lib.hid (HB3.out.trans (hb4.mono HB3.out.size))
    clear hb4 k0 k1 k2 k3 k4 HK3 HE3 HB3
    go_wp2_with fail
    refine (wakes12 _).mono ?_
    rintro r w5 ⟨rfl, hb5⟩
    have HB5 : Hid (Below W.heap.size W w5) := Lib.hid (HB4.out.trans (hb5.mono HB4.out.size))
    clear hb5
    go_wp2
    go_ret
    exact ⟨rfl, HB5.out⟩
  · simp only [PdV, hn] at KT HK0 HB0 HE0
    rw [hn]
    clear hE hn hq HGN
    go_enter Try.func3, Try.ntmps3
    go_wp2_with fail
    refine (KT.out _ HE0.out).mono ?_
    rintro r w1 ⟨rfl, hb1⟩
    have HB1 : Hid (Below W.heap.size W w1) := Lib.hid (HB0.out.trans (hb1.mono HB0.out.size))
    have HK1 := Lib.hid (HK0.out.below hb1 HK0.out.lt)
    have HE1 := Lib.hid (HE0.out.next hb1)
    clear hb1 HK0 HE0 HB0
    go_wp2_with fail
    refine (wakes12 _).mono ?_
    rintro r w5 ⟨rfl, hb5⟩
    have HB5 : Hid (Below W.heap.size W w5) := Lib.hid (HB1.out.trans (hb5.mono HB1.out.size))
    clear hb5
    go_wp2
    go_ret
    exact ⟨rfl, HB5.out⟩
set_option maxRecDepth 100000 in
set_option maxHeartbeats 4000000 in
theorem walk {H : Type} {enc : TypeId × Value → H} (W : World) (base : Nat) {v0 : Value} {d0 : DataW H} {p0 : List MemPlace}
    (o0 : Value.okWide Try.prog W .any base 24 v0) (h0 : DataW.Trod enc Try.prog W 0 (fun _ => true) true 24 v0 d0 p0) :
    Calls Try.prog 3 #[v0] W fun e w' => e = .returned (.bool true) ∧ Below W.heap.size W w' := by
  obtain ⟨A, c, p, rfl, hE⟩ := open_pd o0 h0
  exact walkL W A c p hE

theorem own : ownKnob Try.prog.godebug = none := by kernel_rfl
theorem laidOut : laidOutB Try.prog = true := by kernel_rfl
set_option maxRecDepth 100000 in
theorem lifted (os : Os) (started : os.Started) (H : Type) (enc : TypeId × Value → H) :
    ReturnsInHanded {} Try.checked os 3 .any (Rows.cfmPutsSpec.pre6 enc Try.prog Try.f3 Rows.cfmPutsRow.domain false) (Rows.cfmPutsSpec.post enc Try.prog Try.f3 false true false false) := by
  refine returnsInHanded_of_change (C := Try.checked) own started (by kernel_rfl) Try.func3
    (ChangeSpec.witness6 (enc := enc) (C := Try.checked) false ⟨#[], #[.agg #[.int .u8 0, .int .u8 0, .int .u8 0, .string ⟨#[]⟩, .slice none 0 0]], []⟩ 8 (by kernel_rfl) (by kernel_rfl) (by kernel_rfl) (by kernel_rfl)) ?_
  intro W base args ds gs before hval0 hW hcnd _
  have hval : ∀ (j : Nat) t v, Try.f3.params[j]? = some t → args[j]? = some v → Value.okWide Try.prog W .any base t v := hval0
  have hW' := hW
  obtain ⟨p, q, hA0, hV, rfl, hfz, hnd⟩ := hW
  have hA : DataW.TrodAll enc Try.prog W 0 (fun _ => true) true Try.f3.params.toList args.toList ds p := hA0
  rw [Try.params3] at hA hval
  obtain ⟨v0, vs0, d0, ds0, p0, q0, hargs, rfl, rfl, h0, r0⟩ := trodAll_cons hA
  obtain ⟨rfl, rfl, rfl⟩ := trodAll_nil r0
  obtain rfl : args = #[v0] := by cases args; simp_all
  obtain ⟨rfl, rfl⟩ := trodVars_none hV
  have o0 := hval 0 24 v0 rfl rfl
  have lt0 : ∀ x ∈ p0, x.block < W.heap.size := by obtain ⟨m, hm⟩ := h0; exact DataW.trod_lt m _ _ _ hm
  clear hA0 hval0
  refine (walk W base o0 h0).mono fun e W' ⟨he, bel⟩ => ?_
  subst he
  exact ⟨_, rfl, _, _, _, [], _, [], hW', trodAll_mk1 (shut_bool Try.underlying4 _), (trodAll_cons_mk (Below.trod laidOut (by kernel_rfl) (of_decide_eq_true (by kernel_rfl)) h0 bel lt0) trodAll_mk0), rfl, bel.frame _, fun h => by cases h⟩

theorem over : Rows.cfmPutsRow.holds Try.pinned (OpenSpec.ofChange Rows.cfmPutsSpec) :=
  OpenClaim.holds_of_wide 3 Try.f3 rfl rfl rfl rfl rfl rfl rfl ⟨rfl, rfl, rfl, rfl, rfl⟩ rfl rfl rfl rfl rfl (by kernel_rfl) Try.func3 (by kernel_rfl)
    (of_decide_eq_true (by kernel_rfl)) (by unfold Func.isWrapper; first | (rw [if_pos (by decide +kernel)]; kernel_rfl) | (rw [if_neg (by decide +kernel)]; exact ⟨rfl, rfl⟩))
    (fun os started H enc _ => lifted os started H enc)

/-- THE STATEMENT -/
theorem proved : Rows.CfmPutsSaid := over
end Go.Proofs.Ytjilolehcboihaa.cfmPuts
