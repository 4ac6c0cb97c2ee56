/- BpduEach: each byte of a word that is another one makes it another word, or none: for every word, place and byte, without a condition of ours (the row lists two tables of the library, which the call does not read; the card ties them to the text). -/
import Derived.Test.YtbkfbaloolbkdaaDoorWakes
import Derived.Test.YtbkfbaloolbkdaaDoorRef
import Derived.Test.YtbkfbaloolbkdaaDoorCards
import Derived.Test.YtbkfbaloolbkdaaDoorTie
import Derived.LaidMore
import Derived.Lay
import Derived.SevenTiedAt
import Derived.Stop.Joined
import Derived.OpenShut
import Derived.ShutString
import Derived.ChangeOld
import Derived.Laws.IdiomStrings
import Derived.Laws.BitsAllLaws
import Derived.Deep.DeepCutAuto
namespace Go.Proofs.YtbkfbaloolbkdaaDoor.bpduEach
open Go.ChangeShapes Go.WideShapes Go.ChangeAt Go.RowKit
open Go.ChangeMaps (open_string shut_string)
set_option linter.unusedVariables false
set_option linter.unusedSimpArgs false
set_option maxRecDepth 100000

theorem conv_own (w : World) (l : List UInt8) : ∃ (w' : World) (c : Nat), (convert 9 43 (.string ⟨l.toArray⟩)).run Tryd.prog w = .ok (.slice (some ⟨w.heap.size, 0, none⟩) l.length c) w' ∧ Below w.heap.size w w' ∧ w.heap.size < w'.heap.size ∧
    (∀ j (hj : j < l.length), w'.cell? ⟨w.heap.size, j, none⟩ = some (.int .u8 (l[j].toNat : Int)) ∧ w'.frozen? ⟨w.heap.size, j, none⟩ = false) := by
  refine ⟨_, _, run_bytes_of_string w _ _ _ ⟨l.toArray⟩ Tryd.underlying9 Tryd.underlying43 Tryd.underlying5, (Below.refl w.heap.size w).drew.alloc (Nat.le_refl _) _, by simp, fun j hj => ?_⟩
  generalize grownCap w _ 0 _ = cap
  have hn : (w.drew.alloc (.cells (bytesRow ⟨l.toArray⟩ cap) 5 ((bytesRow ⟨l.toArray⟩ cap).size, (bytesRow ⟨l.toArray⟩ cap).size + 1))).heap[w.heap.size]? = some (.cells (bytesRow ⟨l.toArray⟩ cap) 5 ((bytesRow ⟨l.toArray⟩ cap).size, (bytesRow ⟨l.toArray⟩ cap).size + 1)) := heap_alloc_new w.drew _
  have hsz : j < (bytesRow ⟨l.toArray⟩ cap).size := by unfold bytesRow; simp; omega
  refine ⟨?_, ?_⟩
  · rw [cell_of_row _ _ _ _ _ _ hn, bytesRow_at ⟨l.toArray⟩ cap j hj]
    rfl
  · unfold World.frozen?
    rw [hn]
    simp
    omega
theorem xor_byte (v : UInt8) (b : Int) (h0 : 0 ≤ b) (h1 : b ≤ 255) (hb : b ≠ 0) : ∃ z : UInt8, bits BinOp.xor IntKind.u8 (v.toNat : Int) b = (z.toNat : Int) ∧ z ≠ v := by
  have hv := v.toNat_lt
  obtain ⟨n, rfl⟩ := Int.eq_ofNat_of_zero_le h0
  have hx : v.toNat ^^^ n < 2 ^ 8 := Nat.xor_lt_two_pow (by omega) (by omega)
  refine ⟨UInt8.ofNat (v.toNat ^^^ n), ?_, fun e => ?_⟩
  · rw [u8_xor_nat v.toNat n (by omega) (by omega), UInt8.toNat_ofNat', Nat.mod_eq_of_lt hx]
  · have e2 := congrArg UInt8.toNat e
    rw [UInt8.toNat_ofNat', Nat.mod_eq_of_lt hx] at e2
    have e3 : v.toNat ^^^ n = v.toNat := e2
    have e4 : v.toNat ^^^ (v.toNat ^^^ n) = v.toNat ^^^ v.toNat := by rw [e3]
    rw [← Nat.xor_assoc, Nat.xor_self, Nat.zero_xor] at e4
    omega
theorem set_take (V : List UInt8) (x : Bp) (hx : x.ok) (k : Nat) (z : UInt8) (hV : bbytes x = V) (hk : k < V.length) (hz : z ≠ V[k]) (h : btakeE (V.set k z) = 0) : btakeF (V.set k z) ≠ x := by
  intro e
  obtain ⟨h1, h2, h3, h4, h5⟩ := bput_take _ h
  rw [h2] at e
  have hl : V.length = 42 := by rw [← hV]; exact bbytes_len x
  rw [e, hV, List.take_of_length_le (by simp [hl])] at h4
  have h6 : V[k]? = (V.set k z)[k]? := by rw [← h4]
  rw [List.getElem?_set_self hk, List.getElem?_eq_getElem hk] at h6
  exact hz (Option.some.inj h6).symm
set_option maxHeartbeats 4000000 in
theorem walkE (W : World) (x : Bp) (hx : x.ok) (a b : Int) (ha : 0 ≤ a ∧ a ≤ 255) (hb : 0 ≤ b ∧ b ≤ 255) :
    Calls Tryd.prog 6 #[BV x, .int .u8 a, .int .u8 b] W fun e w' => e = .returned (.bool true) ∧ Below W.heap.size W w' := by
  have HX0 : Hid (BpA 33 (W.alloc (.cells #[.int .u64 x.v.r, .int .u32 x.v.c, .int .u64 x.v.b, .int .u8 x.v.p, .int .u8 x.h, .int .u64 x.ver, .int .u8 x.role, .bool x.pr, .bool x.ag, .bool x.tp, .int .u64 x.ec] 33)) W.heap.size x) := Lib.hid (BpA.new _ _ _)
  have HB0 : Hid (Below W.heap.size W (W.alloc (.cells #[.int .u64 x.v.r, .int .u32 x.v.c, .int .u64 x.v.b, .int .u8 x.v.p, .int .u8 x.h, .int .u64 x.ver, .int .u8 x.role, .bool x.pr, .bool x.ag, .bool x.tp, .int .u64 x.ec] 33))) := Lib.hid ((Below.refl _ _).alloc (Nat.le_refl _) _)
  have KP := Lib.hid (fun w => bput_impl w x hx)
  obtain ⟨q, hq⟩ : ∃ q, bmay x = q := ⟨_, rfl⟩
  obtain ⟨V, hV⟩ : ∃ V, bbytes x = V := ⟨_, rfl⟩
  have hv : bputV x = (if q then V else []) ∧ bputE x = (if q then 0 else 2) := by unfold bputV bputE; rw [hq, hV]; exact ⟨rfl, rfl⟩
  rw [hv.1, hv.2] at KP
  have HV := Lib.hid hV
  have hVl : V.length = 42 := by rw [← hV]; exact bbytes_len x
  have HOK := Lib.hid hx
  clear hq hV hv hx
  cases q
  · simp only [Bool.false_eq_true, if_false] at KP
    clear hVl
    go_enter Tryd.func6, Tryd.ntmps6
    go_wp2_with (refine load_bp 3 rfl (by kernel_rfl) W.heap.size x rfl HX0.out ?_)
    refine (KP.out _).mono ?_
    rintro r w1 ⟨rfl, hb1⟩
    have HB1 : Hid (Below W.heap.size W w1) := Lib.hid (HB0.out.trans (hb1.mono HB0.out.size))
    clear hb1
    go_wp2_with fail
    refine (wakes5 _).mono ?_
    rintro r w4 ⟨rfl, hb4⟩
    have HB4 : Hid (Below W.heap.size W w4) := Lib.hid (HB1.out.trans (hb4.mono HB1.out.size))
    clear hb4
    go_wp2
    go_ret
    exact ⟨rfl, HB4.out⟩
  simp only [if_true] at KP
  by_cases hb0 : b = 0
  · subst hb0
    go_enter Tryd.func6, Tryd.ntmps6
    go_wp2_with (refine load_bp 3 rfl (by kernel_rfl) W.heap.size x rfl HX0.out ?_)
    refine (KP.out _).mono ?_
    rintro r w1 ⟨rfl, hb1⟩
    have HB1 : Hid (Below W.heap.size W w1) := Lib.hid (HB0.out.trans (hb1.mono HB0.out.size))
    clear hb1
    go_wp2_with fail
    refine (wakes5 _).mono ?_
    rintro r w4 ⟨rfl, hb4⟩
    have HB4 : Hid (Below W.heap.size W w4) := Lib.hid (HB1.out.trans (hb4.mono HB1.out.size))
    clear hb4
    go_wp2
    go_ret
    exact ⟨rfl, HB4.out⟩
  obtain ⟨k, hk⟩ : ∃ k : Nat, a % 42 = (k : Int) := ⟨(a % 42).toNat, by omega⟩
  have hk42 : k < 42 := by omega
  have hkt : a.tmod 42 = (k : Int) := by rw [Int.tmod_eq_emod_of_nonneg ha.1]; exact hk
  have hkV : k < V.length := by omega
  obtain ⟨v, hvk⟩ : ∃ v, V[k] = v := ⟨_, rfl⟩
  obtain ⟨z, hxor, hzv⟩ := xor_byte v b hb.1 hb.2 hb0
  have hbb : (b == 0) = false := by simpa using hb0
  have HK : Hid (∀ h : btakeE (V.set k z) = 0, btakeF (V.set k z) ≠ x) := Lib.hid (fun h => set_take V x HOK.out k z HV.out hkV (by rw [hvk]; exact hzv) h)
  have HKV := Lib.hid hkV
  have HVK : Hid (∀ h : k < V.length, V[k]'h = v) := Lib.hid (fun _ => hvk)
  have HVL := Lib.hid hVl
  have HXOR := Lib.hid hxor
  have HKT := Lib.hid hkt
  have HKE := Lib.hid hk
  have HK42 := Lib.hid hk42
  clear hb0 hzv hkV hvk hxor hkt hk hk42 hb HOK HV
  go_enter Tryd.func6, Tryd.ntmps6
  go_wp2_with (refine load_bp 3 rfl (by kernel_rfl) W.heap.size x rfl HX0.out ?_)
  refine (KP.out _).mono ?_
  rintro r w1 ⟨rfl, hb1⟩
  have HX1 := Lib.hid (HX0.out.next hb1)
  have HB1 : Hid (Below W.heap.size W w1) := Lib.hid (HB0.out.trans (hb1.mono HB0.out.size))
  clear hb1 KP HX0 HB0
  go_upto_region 4 with (fail)
  obtain ⟨w4, c, hcv, hb4, hlt4, hcells⟩ := conv_own w1 V
  have HX4 := Lib.hid (HX1.out.next hb4)
  have HB4 : Hid (Below W.heap.size W w4) := Lib.hid (HB1.out.trans (hb4.mono HB1.out.size))
  obtain ⟨g, hg⟩ : ∃ g, w1.heap.size = g := ⟨_, rfl⟩
  rw [hg] at hcells hcv
  have HG : Hid (W.heap.size < g) := Lib.hid (by rw [← hg]; exact HX1.out.lt)
  have HLT : Hid (g < w4.heap.size) := Lib.hid (by rw [← hg]; exact hlt4)
  have HC := Lib.hid hcells
  rw [HVL.out] at hcv
  clear hb4 hlt4 hcells HX1 HB1 hVl
  go_upto_region 5 with (fail)
  clear hcv
  have hkt := HKT.out
  have hk := HKE.out
  have hk42 := HK42.out
  have ck : w4.cell? ⟨g, k, none⟩ = some (.int .u8 v.toNat) := by rw [(HC.out k HKV.out).1, HVK.out HKV.out]
  have fk : w4.frozen? ⟨g, k, none⟩ = false := (HC.out k HKV.out).2
  have hxor := HXOR.out
  go_upto_region 6 with (fail)
  obtain ⟨V2, hV2⟩ : ∃ V2, V.set k z = V2 := ⟨_, rfl⟩
  have hV2l : V2.length = 42 := by rw [← hV2, List.length_set]; exact HVL.out
  have hcv : (convert 43 9 (.slice (some ⟨g, 0, none⟩) 42 c)).run Tryd.prog (w4.setCell ⟨g, k, none⟩ (.int .u8 z.toNat)) = .ok (.string ⟨V2.toArray⟩) (w4.setCell ⟨g, k, none⟩ (.int .u8 z.toNat)) := by
    have := run_convert_bytes_back (P := Tryd.prog) (w4.setCell ⟨g, k, none⟩ (.int .u8 z.toNat)) _ _ _ ⟨g, 0, none⟩ c V2 Tryd.underlying43 Tryd.underlying5 Tryd.underlying9 (fun j hj => by
      have hadd : (⟨g, 0, none⟩ : Addr).add j = ⟨g, j, none⟩ := by unfold Addr.add; split <;> simp_all
      rw [hadd]
      subst hV2
      have hjV : j < V.length := by simpa using hj
      by_cases hjk : j = k
      · subst hjk
        rw [World.cell?_setCell_same _ _ _ ck, List.getElem_set_self]
      · rw [World.cell?_setCell_other _ _ _ _ (by intro h; simp only [Addr.mk.injEq] at h; omega), (HC.out j hjV).1, List.getElem_set_ne (by omega)])
    rwa [hV2l] at this
  rw [hV2] at HK
  have HX5 : Hid (BpA 33 (w4.setCell ⟨g, k, none⟩ (.int .u8 z.toNat)) W.heap.size x) := Lib.hid (Blk.far HX4.out (by have := HG.out; simp; omega) _)
  have HB5 : Hid (Below W.heap.size W (w4.setCell ⟨g, k, none⟩ (.int .u8 z.toNat))) := Lib.hid (HB4.out.setCell (p := ⟨g, k, none⟩) (by have := HG.out; simp; omega) _)
  have HVL2 : Hid (V2.length ≤ 8388000) := Lib.hid (by omega)
  clear hV2 hV2l hkt hk hk42 ck fk hxor HC HVK HVL HKV HK42 HKT HKE HXOR HX4 HB4
  generalize w4.setCell ⟨g, k, none⟩ (.int .u8 z.toNat) = w5 at *
  go_wp2_with fail
  refine (btake_impl w5 V2 HVL2.out).mono ?_
  by_cases hE : btakeE V2 = 0
  · have hne := HK.out hE
    obtain ⟨y, hy⟩ : ∃ y, btakeF V2 = y := ⟨_, rfl⟩
    rw [hy] at hne
    rw [hE, hy]
    have eF : ∀ W : World, (Op.equalIn 10000 33 (BV y) (BV x)).run Tryd.prog W = .ok false W := fun W => by rw [run_eqB]; simp [hne]
    clear hE hy hne HK hcv
    rintro r w6 ⟨rfl, hb6⟩
    have HX6 : Hid (BpA 33 (w6.alloc (.cells #[.int .u64 y.v.r, .int .u32 y.v.c, .int .u64 y.v.b, .int .u8 y.v.p, .int .u8 y.h, .int .u64 y.ver, .int .u8 y.role, .bool y.pr, .bool y.ag, .bool y.tp, .int .u64 y.ec] 33)) W.heap.size x) := Lib.hid ((HX5.out.next hb6).alloc _)
    have HY6 : Hid (BpA 33 (w6.alloc (.cells #[.int .u64 y.v.r, .int .u32 y.v.c, .int .u64 y.v.b, .int .u8 y.v.p, .int .u8 y.h, .int .u64 y.ver, .int .u8 y.role, .bool y.pr, .bool y.ag, .bool y.tp, .int .u64 y.ec] 33)) w6.heap.size y) := Lib.hid (BpA.new _ _ _)
    have HB6 : Hid (Below W.heap.size W (w6.alloc (.cells #[.int .u64 y.v.r, .int .u32 y.v.c, .int .u64 y.v.b, .int .u8 y.v.p, .int .u8 y.h, .int .u64 y.ver, .int .u8 y.role, .bool y.pr, .bool y.ag, .bool y.tp, .int .u64 y.ec] 33))) := Lib.hid ((HB5.out.trans (hb6.mono HB5.out.size)).alloc (Nat.le_trans HB5.out.size hb6.size) _)
    clear hb6 HX5 HB5
    go_wp2_with (first
      | (refine load_bp 10 rfl (by kernel_rfl) w6.heap.size y rfl HY6.out ?_)
      | (refine load_bp 3 rfl (by kernel_rfl) W.heap.size x rfl HX6.out ?_))
    refine (wakes5 _).mono ?_
    rintro r w7 ⟨rfl, hb7⟩
    have HB7 : Hid (Below W.heap.size W w7) := Lib.hid (HB6.out.trans (hb7.mono HB6.out.size))
    clear hb7
    go_wp2
    go_ret
    exact ⟨rfl, HB7.out⟩
  · obtain ⟨y, hy⟩ : ∃ y, btakeF V2 = y := ⟨_, rfl⟩
    obtain ⟨e, he⟩ : ∃ e, btakeE V2 = e := ⟨_, rfl⟩
    rw [he] at hE
    rw [he, hy]
    have hee : (e != 0) = true := by simpa using hE
    clear hE hy he HK hcv
    rintro r w6 ⟨rfl, hb6⟩
    have HB6 : Hid (Below W.heap.size W w6) := Lib.hid (HB5.out.trans (hb6.mono HB5.out.size))
    have HB7 : Hid (Below W.heap.size W (w6.alloc (.cells #[.int .u64 y.v.r, .int .u32 y.v.c, .int .u64 y.v.b, .int .u8 y.v.p, .int .u8 y.h, .int .u64 y.ver, .int .u8 y.role, .bool y.pr, .bool y.ag, .bool y.tp, .int .u64 y.ec] 33))) := Lib.hid (HB6.out.alloc HB6.out.size _)
    clear hb6 HX5 HB5
    go_wp2_with fail
    refine (wakes5 _).mono ?_
    rintro r w7 ⟨rfl, hb7⟩
    have HB8 : Hid (Below W.heap.size W w7) := Lib.hid (HB7.out.trans (hb7.mono HB7.out.size))
    clear hb7
    go_wp2
    go_ret
    exact ⟨rfl, HB8.out⟩
set_option maxRecDepth 100000 in
set_option maxHeartbeats 4000000 in
theorem walk {H : Type} {enc : TypeId × Value → H} (W : World) (base : Nat) {v0 v1 v2 : Value} {d0 d1 d2 : DataW H} {p0 p1 p2 : List MemPlace}
    (o0 : Value.okWide Tryd.prog W .any base 33 v0) (h0 : DataW.Trod enc Tryd.prog W 0 (fun _ => true) true 33 v0 d0 p0) (o1 : Value.okWide Tryd.prog W .any base 5 v1) (h1 : DataW.Trod enc Tryd.prog W 0 (fun _ => true) true 5 v1 d1 p1) (o2 : Value.okWide Tryd.prog W .any base 5 v2) (h2 : DataW.Trod enc Tryd.prog W 0 (fun _ => true) true 5 v2 d2 p2) :
    Calls Tryd.prog 6 #[v0, v1, v2] W fun e w' => e = .returned (.bool true) ∧ Below W.heap.size W w' := by
  obtain ⟨x, hx, rfl⟩ := open_bp o0 h0
  obtain ⟨a, rfl, ha⟩ := open_num Tryd.underlying5 o1 h1
  obtain ⟨b, rfl, hb⟩ := open_num Tryd.underlying5 o2 h2
  exact walkE W x hx a b (wf_u8 ha) (wf_u8 hb)

theorem own : ownKnob Tryd.prog.godebug = none := by kernel_rfl
theorem laidOut : laidOutB Tryd.prog = true := by kernel_rfl
set_option maxRecDepth 100000 in
theorem lifted (os : Os) (started : os.Started) (H : Type) (enc : TypeId × Value → H) :
    ReturnsInHanded {} Tryd.checked os 6 .any (fun w args => (Rows.bpduEachSpec.pre enc Tryd.prog Tryd.f6 Rows.bpduEachRow.domain false w args ∧ laidMetH Tryd.prog Rows.bpduEachRow.laid w) ∧ sizedMet enc Tryd.prog Tryd.f6 (OpenSpec.ofChange Rows.bpduEachSpec) false w args) (Rows.bpduEachSpec.post enc Tryd.prog Tryd.f6 false true false false) := by
  refine returnsInHanded_of_change_and (C := Tryd.checked) (X := (fun w _ => laidMetH Tryd.prog Rows.bpduEachRow.laid w)) (fun _ _ _ hh h => h.of_heap hh) own started (by kernel_rfl) Tryd.func6
    (ChangeSpec.witness_shaped (enc := enc) (C := Tryd.checked) (os := os) (X := (fun w _ => laidMetH Tryd.prog Rows.bpduEachRow.laid w)) false (World.laidAll Tryd.prog os Rows.bpduEachRow.laid) #[.agg #[.int .u64 0, .int .u32 0, .int .u64 0, .int .u8 0, .int .u8 0, .int .u64 0, .int .u8 0, .bool false, .bool false, .bool false, .int .u64 0], .int .u8 0, .int .u8 0] 8 (World.laidAll_os _ _ _)
      (World.shaped_of_ZipB (by kernel_rfl) (by kernel_rfl)) (by kernel_rfl) (by kernel_rfl) (by kernel_rfl)
      (by rw [MakeChecks.laidMetH_plain _ _ _ (by kernel_rfl)]; exact laidMet_laidAll _ (by kernel_rfl) (by kernel_rfl))) ?_
  intro W base args ds gs before hval0 hW hcnd _ _ _
  have hval : ∀ (j : Nat) t v, Tryd.f6.params[j]? = some t → args[j]? = some v → Value.okWide Tryd.prog W .any base t v := hval0
  have hW' := hW
  obtain ⟨p, q, hA0, hV, rfl, hfz, hnd⟩ := hW
  have hA : DataW.TrodAll enc Tryd.prog W 0 (fun _ => true) true Tryd.f6.params.toList args.toList ds p := hA0
  rw [Tryd.params6] at hA hval
  obtain ⟨v0, vs0, d0, ds0, p0, q0, hargs, rfl, rfl, h0, r0⟩ := trodAll_cons hA
  obtain ⟨v1, vs1, d1, ds1, p1, q1, rfl, rfl, rfl, h1, r1⟩ := trodAll_cons r0
  obtain ⟨v2, vs2, d2, ds2, p2, q2, rfl, rfl, rfl, h2, r2⟩ := trodAll_cons r1
  obtain ⟨rfl, rfl, rfl⟩ := trodAll_nil r2
  obtain rfl : args = #[v0, v1, v2] := by cases args; simp_all
  obtain ⟨rfl, rfl⟩ := trodVars_none hV
  have o0 := hval 0 33 v0 rfl rfl
  have lt0 : ∀ x ∈ p0, x.block < W.heap.size := by obtain ⟨m, hm⟩ := h0; exact DataW.trod_lt m _ _ _ hm
  have o1 := hval 1 5 v1 rfl rfl
  have lt1 : ∀ x ∈ p1, x.block < W.heap.size := by obtain ⟨m, hm⟩ := h1; exact DataW.trod_lt m _ _ _ hm
  have o2 := hval 2 5 v2 rfl rfl
  have lt2 : ∀ x ∈ p2, x.block < W.heap.size := by obtain ⟨m, hm⟩ := h2; exact DataW.trod_lt m _ _ _ hm
  clear hA0 hval0
  refine (walk W base o0 h0 o1 h1 o2 h2).mono fun e W' ⟨he, bel⟩ => ?_
  subst he
  exact ⟨_, rfl, _, _, _, [], _, [], hW', trodAll_mk1 (shut_bool Tryd.underlying4 _), (trodAll_cons_mk (Below.trod laidOut (by kernel_rfl) (of_decide_eq_true (by kernel_rfl)) h0 bel lt0) (trodAll_cons_mk (Below.trod laidOut (by kernel_rfl) (of_decide_eq_true (by kernel_rfl)) h1 bel lt1) (trodAll_cons_mk (Below.trod laidOut (by kernel_rfl) (of_decide_eq_true (by kernel_rfl)) h2 bel lt2) trodAll_mk0))), rfl, bel.frame _, fun h => by cases h⟩

theorem over : Rows.bpduEachRow.holds Tryd.pinned (OpenSpec.ofChange Rows.bpduEachSpec) :=
  OpenClaim.holds_of_wide 6 Tryd.f6 rfl rfl rfl rfl rfl rfl rfl ⟨rfl, rfl, rfl, rfl, rfl⟩ rfl rfl rfl rfl rfl (by kernel_rfl) Tryd.func6 (by kernel_rfl)
    (of_decide_eq_true (by kernel_rfl)) (by unfold Func.isWrapper; first | (rw [if_pos (by decide +kernel)]; kernel_rfl) | (rw [if_neg (by decide +kernel)]; exact ⟨rfl, rfl⟩))
    (fun os started H enc _ => lifted os started H enc)

/-- THE STATEMENT: the row, tied to the program's text -/
theorem proved : Rows.BpduEachCardSaid :=
  Claim7.holds_tied_plain_at .later [] Rows.bpduEachCard.laidKinds true Rows.bpduEachCard.stood.harness false over (fun _ h => by cases h) (by kernel_rfl) (fun _ h => by cases h) bpduEach_row_tie rfl ⟨rfl, rfl⟩ (by kernel_rfl) rfl
    (fun f fn hf hfn => by
      obtain rfl : f = 6 := Option.some.inj ((show Tryd.prog.funcNamed "viaduct/viaductlaw05.BpduEach" = some 6 by kernel_rfl).symm.trans hf) |>.symm
      obtain rfl : fn = Tryd.f6 := (Option.some.inj (Tryd.func6.symm.trans hfn)).symm
      exact ⟨by kernel_rfl, fun j t ht => by
        rw [Tryd.params6] at ht
        have hm : t ∈ [33, 5, 5] := by simpa using Array.mem_of_getElem? ht
        have hall : ([33, 5, 5].all fun u => !Tryd.prog.wantsStandIn u) = true := by kernel_rfl
        exact (show Tryd.prog.wantsStandIn t = false by simpa using List.all_eq_true.1 hall t hm)⟩)
    (by kernel_rfl)
end Go.Proofs.YtbkfbaloolbkdaaDoor.bpduEach
