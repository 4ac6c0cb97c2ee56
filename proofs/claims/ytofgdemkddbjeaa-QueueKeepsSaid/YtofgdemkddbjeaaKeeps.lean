/- QueueKeeps: things come out as they went in, each once. -/
import Derived.Test.YtofgdemkddbjeaaActs
import Derived.Test.YtofgdemkddbjeaaQueImpl
import Derived.Deep.DeepCutAuto
import Derived.Deep.CutBlock
import Derived.OpenShut
import Derived.ShutString
import Derived.ChangeOld
namespace Go.Proofs.Ytofgdemkddbjeaa.queueKeeps
open Go.ChangeShapes Go.WideShapes Go.ChangeAt Go.RowKit
open Go.ChangeMaps (open_string shut_string)
set_option linter.unusedVariables false
set_option linter.unusedSimpArgs false
set_option maxRecDepth 100000


theorem infoI : (Try.prog.info? 3).map (fun i => (i.zero, i.size, i.bytes)) = some (some (.int .i64 0), 1, 8) := by kernel_rfl
/-- while the loop runs: pl was pushed with OK, at of these came out, or were cleared -/
structure Mem (W w1 w : World) (p c r : Nat) (v : Value) (pl : List Int) (k : Nat) : Prop where
  q : Que w p c 57 r (vi (pl.drop k))
  o : w.ownsRow w1.heap.size 3 1 v pl.length (vi pl)
  b1 : Below W.heap.size W w1
  b : Below W.heap.size W w
  s : w1.heap.size ≤ w.heap.size
  pb : W.heap.size ≤ p ∧ p < w1.heap.size
  cb : W.heap.size ≤ c ∧ c < w1.heap.size
  le : k ≤ pl.length
  room : pl.length - k ≤ r
theorem Mem.step {W w1 w w' : World} {p c r : Nat} {v : Value} {pl : List Int} {k k' : Nat} (h : Mem W w1 w p c r v pl k) (hq : Que w' p c 57 r (vi (pl.drop k'))) (hg : Chg (sole c) w w') (h0 : k ≤ k') (h1 : k' ≤ pl.length) :
    Mem W w1 w' p c r v pl k' :=
  ⟨hq, own_chan h.o h.cb.2 hg, h.b1, h.b.trans (hg.below h.b.size (fun k hk e => by have := h.cb.1; unfold sole at e; omega)), Nat.le_trans h.s hg.size, h.pb, h.cb, h1, by have := h.room; omega⟩
theorem Mem.grown {W w1 w w2 w6 : World} {p c r : Nat} {v v6 : Value} {pl : List Int} {k : Nat} {x : Int} {o : Obj} (h : Mem W w1 w p c r v pl k) (hq : Que w2 p c 57 r (vi ((pl ++ [x]).drop k)))
    (hb : Below W.heap.size W w2) (hs : w1.heap.size ≤ w2.heap.size) (ho : (w2.alloc o).ownsRow w1.heap.size 3 1 v pl.length (vi pl)) (h6 : w6.ownsRow w1.heap.size 3 1 v6 (pl.length + 1) (vi (pl ++ [x]))) (hg : (w2.alloc o).grownBy w6 v.ownBlock) (hk : k ≤ pl.length) (hr : pl.length - k < r) :
    Mem W w1 w6 p c r v6 (pl ++ [x]) k :=
  ⟨que_grown (que_alloc hq o) ho h.pb.2 h.cb.2 hg, by simpa using h6, h.b1, (hb.alloc hb.size o).grown hg (Nat.le_trans hb.size (by simp)) (fun j ej => Nat.le_trans h.b1.size (ho.lt j ej).1), Nat.le_trans (Nat.le_trans hs (by simp)) hg.size, h.pb, h.cb, by simp; omega, by simp; omega⟩
set_option maxRecDepth 100000 in
set_option maxHeartbeats 4000000 in
theorem keeps_law (K : QueI) (KC : ClearI) (KS : QueS) (W : World) (r : Int) (hr0 : 0 ≤ r) (hr1 : r ≤ 255) (A : Option Addr) (ca : Nat) (l : List Do) (hl : l.length ≤ maxLen) (hE : Els 2 encD W A l) :
    Calls Try.prog 5 #[.int .u8 r, .slice A l.length ca] W fun e w' => e = .returned (.bool true) ∧ Below W.heap.size W w' := by
  have HK := Lib.hid K
  have HKC := Lib.hid KC
  have HKS := Lib.hid KS
  have HE := Lib.hid hE
  obtain ⟨n, hn⟩ : ∃ n, l.length = n := ⟨_, rfl⟩
  have HN := Lib.hid hn
  rw [hn] at hl ⊢
  unfold maxLen at hl
  clear K KC KS hE hn
  by_cases h300 : 300 < n
  · have d : decide ((300 : Int) < (n : Int)) = true := by simp; omega
    go_enter Try.func5, Try.ntmps5
    go_wp2_with fail
    refine (wakes_any HKS.out _).mono ?_
    rintro e w1 ⟨rfl, hb⟩
    go_wp2
    go_ret
    exact ⟨rfl, hb⟩
  have d : decide ((300 : Int) < (n : Int)) = false := by simp; omega
  have h300' : n ≤ 300 := by omega
  clear h300 hl
  by_cases hz : r = 0
  · subst hz
    go_enter Try.func5, Try.ntmps5
    go_wp2_with fail
    refine (wakes_any HKS.out _).mono ?_
    rintro e w1 ⟨rfl, hb⟩
    go_wp2
    go_ret
    exact ⟨rfl, hb⟩
  obtain ⟨m, rfl⟩ : ∃ m : Nat, r = (m : Int) := ⟨r.toNat, by omega⟩
  have dz : ((m : Int) == 0) = false := by simpa using hz
  have hm0 : 0 < m := by omega
  have hm1 : m ≤ 255 := by omega
  clear hz hr0 hr1
  go_enter Try.func5, Try.ntmps5
  go_wp2_with fail
  refine (HK.out.newOk _ m hm0 (by omega)).mono ?_
  rintro e w1 ⟨p, c, rfl, hq, hp, hc, hb⟩
  have HM : Hid (Mem W w1 w1 p c m (.slice none 0 0) [] 0) := Lib.hid ⟨hq, World.ownsRow_nil _ _ _ _, hb, hb, Nat.le_refl _, ⟨hp, hq.blk.lt⟩, ⟨hc, hq.ch.lt⟩, Nat.le_refl _, Nat.zero_le _⟩
  clear hq hp hc hb
  go_wp2_with fail
  go_loopw [7, 8, 9] (fun v a i wr => ∃ (k j : Nat) (pl : List Int), j ≤ n ∧ i = .int .i64 j ∧ a = .int .i64 k ∧ Hid (pl.length ≤ j ∧ k ≤ pl.length) ∧ Hid (Mem W w1 wr p c m v pl k)) (fun _ _ i _ => n - (intOf i).toNat)
  case atStart => exact ⟨0, 0, [], Nat.zero_le _, rfl, rfl, Lib.hid ⟨Nat.le_refl _, Nat.le_refl _⟩, HM⟩
  case round =>
    obtain ⟨k, j, pl, hj, rfl, rfl, HL, HM⟩ := hrel
    by_cases hlt : j < n
    · obtain ⟨x, hx⟩ : ∃ x, l[j]? = some x := ⟨_, List.getElem?_eq_getElem (by rw [HN.out]; exact hlt)⟩
      obtain ⟨b, off, rfl, hbl, c0, _⟩ := els_do (HE.out.next HM.out.b) hx
      obtain ⟨d, y⟩ := x
      simp only at c0
      clear hx hbl
      obtain ⟨Ap, cp, rfl, hep⟩ := own_ones (vi_len pl) HM.out.o
      have HEP := Lib.hid hep
      have hkp : k ≤ pl.length := HL.out.2
      have hp3 : pl.length ≤ 300 := by have := HL.out.1; omega
      clear hep
      go_upto_block 2 with fail
      clear c0
      go_cut [7, 8] (fun v a wx => ∃ (k' : Nat) (pl' : List Int), a = .int .i64 k' ∧ pl'.length ≤ j + 1 ∧ k' ≤ pl'.length ∧ Mem W w1 wx p c m v pl' k')
      case first =>
        by_cases d0 : d = 0
        · subst d0
          by_cases hkl : k < pl.length
          · obtain ⟨s, hs⟩ : ∃ s, pl[k]? = some s := ⟨_, List.getElem?_eq_getElem hkl⟩
            have hD := vi_drop hs
            have hgs := vi_get hs
            clear hs
            go_wp2_with fail
            refine (HK.out.popSome _ p c m (vi (pl.drop (k + 1))) (.int .i64 s) (by rw [← hD]; exact HM.out.q)).mono ?_
            rintro e w2 ⟨rfl, hq, hg⟩
            obtain ⟨b1, o1, rfl, hb1, hc1⟩ := (HEP.out.chan one_pos HM.out.q.ch hg).at (by rw [vi_len]; omega)
            have c1 : w2.cell? ⟨b1, o1 + k, none⟩ = some (.int .i64 s) := hc1 k _ hgs
            have HM2 := Lib.hid (HM.out.step hq hg (Nat.le_succ_of_le (Nat.le_refl k)) hkl)
            have dk : decide ((k : Int) < (pl.length : Int)) = true := by simpa using hkl
            clear hc1 hb1 hgs hq hg hD HM HEP
            go_wp2
            go_meet
            exact ⟨k + 1, pl, by go_num, by have := HL.out.1; omega, hkl, HM2.out⟩
          · obtain rfl : k = pl.length := by omega
            go_wp2_with fail
            refine (HK.out.popNone _ p c m (by have := HM.out.q; rw [List.drop_of_length_le (Nat.le_refl _)] at this; exact this)).mono ?_
            rintro e w2 ⟨rfl, hq, hg⟩
            have HM2 := Lib.hid (HM.out.step (k' := pl.length) (by rw [List.drop_of_length_le (Nat.le_refl _)]; exact hq) hg (Nat.le_refl _) (Nat.le_refl _))
            have dk : decide ((pl.length : Int) < (pl.length : Int)) = false := by simp
            clear hq hg HM HEP
            go_wp2
            go_meet
            exact ⟨pl.length, pl, rfl, by have := HL.out.1; omega, Nat.le_refl _, HM2.out⟩
        have e0 : (d == 0) = false := by simpa using d0
        by_cases d1 : d = 1
        · subst d1
          obtain ⟨q, hq⟩ : ∃ q, pl.length - k = q := ⟨_, rfl⟩
          have dq : ((q : Int) != (pl.length : Int) - k) = false := by simp; omega
          have hvl : (vi (pl.drop k)).length = q := by rw [vi_len, List.length_drop]; exact hq
          go_wp2_with fail
          refine (HKC.out.clearAny _ p c m (vi (pl.drop k)) HM.out.q (by rw [hvl, ← hq]; exact HM.out.room) (by omega)).mono ?_
          rintro e w2 ⟨rfl, hq2, hg⟩
          rw [hvl]
          have HM2 := Lib.hid (HM.out.step (k' := pl.length) (by rw [List.drop_of_length_le (Nat.le_refl _)]; exact hq2) hg hkp (Nat.le_refl _))
          clear hq2 hg HM HEP hvl hq
          go_wp2
          go_meet
          exact ⟨pl.length, pl, rfl, by have := HL.out.1; omega, Nat.le_refl _, HM2.out⟩
        have e1 : (d == 1) = false := by simpa using d1
        have hvl : (vi (pl.drop k)).length = pl.length - k := by rw [vi_len, List.length_drop]
        by_cases hroom : pl.length - k < m
        · have dr : decide ((pl.length : Int) - k < (m : Int)) = true := by simp; omega
          go_wp2_with fail
          refine (HK.out.pushRoom _ p c m (vi (pl.drop k)) (.int .i64 j) ⟨_, rfl⟩ HM.out.q (by rw [hvl]; exact hroom)).mono ?_
          rintro e w2 ⟨rfl, hq2, hg⟩
          have HO2 := Lib.hid (own_chan HM.out.o HM.out.cb.2 hg)
          have HQ2 : Hid (Que w2 p c 57 m (vi ((pl ++ [(j : Int)]).drop k))) := Lib.hid (by rw [List.drop_append_of_le_length hkp, vi_put]; exact hq2)
          have HB2 : Hid (Below W.heap.size W w2) := Lib.hid (HM.out.b.trans (hg.below HM.out.b.size (fun k hk e => by have := HM.out.cb.1; unfold sole at e; omega)))
          have HS2 : Hid (w1.heap.size ≤ w2.heap.size) := Lib.hid (Nat.le_trans HM.out.s hg.size)
          have HCN : Hid (∀ j' u, [Value.int .i64 j][j']? = some u → (w2.alloc (.cells #[.int .i64 j] 3)).cell? ((⟨w2.heap.size, 0, none⟩ : Addr).add j') = some u) := Lib.hid (newcells w2 [.int .i64 j] 3)
          obtain ⟨i0, hi0, hz0, hz1, hz2⟩ := info_parts infoI
          have HI : Hid (Try.prog.info? 3 = some i0 ∧ i0.zero = some (.int .i64 0) ∧ i0.size = 1 ∧ i0.bytes = 8) := Lib.hid ⟨hi0, hz0, hz1, hz2⟩
          clear hq2 hg hi0 hz0 hz1 hz2 HEP
          go_wp2_with (at_builtin; refine wpl_append_own rfl (.tmp 59) (.tmp 61) 29 rfl w1.heap.size 3 i0 (.int .i64 0) 1 8 Try.underlying29 HI.out.1 HI.out.2.1 HI.out.2.2.1 HI.out.2.2.2 rfl (by decide) (.slice Ap pl.length cp) pl.length (vi pl) (by simp [Act.eval, Act.put]) (HO2.out.alloc _) ⟨w2.heap.size, 0, none⟩ 1 1 [.int .i64 j] (by simp [Act.eval, Act.put]) rfl HCN.out (by intro u hu; simp only [List.mem_cons, List.mem_nil_iff, or_false] at hu; subst hu; rfl) (by simp only [maxLen]; omega) (by omega) (by have := HS2.out; simp; omega) ?_; intro v6 w6 ho6 hg6; have HO6 : Hid (w6.ownsRow w1.heap.size 3 1 v6 (pl.length + 1) (vi (pl ++ [(j : Int)]))) := Lib.hid (by rw [vi_put]; exact ho6); have HG6 := Lib.hid hg6; have HOA : Hid ((w2.alloc (.cells #[.int .i64 j] 3)).ownsRow w1.heap.size 3 1 (.slice Ap pl.length cp) pl.length (vi pl)) := Lib.hid (HO2.out.alloc _); clear ho6 hg6)
          go_meet
          exact ⟨k, pl ++ [(j : Int)], rfl, by simp; exact HL.out.1, by simp; omega, HM.out.grown HQ2.out HB2.out HS2.out HOA.out HO6.out HG6.out hkp hroom⟩
        · have dr : decide ((pl.length : Int) - k < (m : Int)) = false := by simp; omega
          go_wp2_with fail
          refine (HK.out.pushFull _ p c m (vi (pl.drop k)) (.int .i64 j) ⟨_, rfl⟩ HM.out.q (by rw [hvl]; omega)).mono ?_
          rintro e w2 ⟨rfl, hq2, hg⟩
          have HM2 := Lib.hid (HM.out.step hq2 hg (Nat.le_refl _) hkp)
          clear hq2 hg HM HEP
          go_wp2
          go_meet
          exact ⟨k, pl, rfl, by have := HL.out.1; omega, hkp, HM2.out⟩
      case rest =>
        obtain ⟨k2, pl2, rfl, hl2, hk2, hm2⟩ := hcut
        have HM2 := Lib.hid hm2
        obtain ⟨q, hq⟩ : ∃ q, pl2.length - k2 = q := ⟨_, rfl⟩
        have hvl : (vi (pl2.drop k2)).length = q := by rw [vi_len, List.length_drop]; exact hq
        have HVL := Lib.hid hvl
        have hqm : q ≤ m := by rw [← hq]; exact HM2.out.room
        have dq : ((q : Int) != (pl2.length : Int) - k2) = false := by simp; omega
        have dm : ((q : Int) + ((m - q : Nat) : Int) != (m : Int)) = false := by simp; omega
        have hmq : m - q ≤ 255 := by omega
        obtain ⟨Ap2, cp2, rfl, _⟩ := own_ones (vi_len pl2) HM2.out.o
        clear hm2 hvl HM HEP hkp hp3 hq
        go_wp2_with fail
        refine (drawn_same HM2.out.q (HK.out.lenAny _ p c m _ HM2.out.q (by rw [HVL.out]; exact hqm) (by omega))).mono ?_
        rintro e w3 ⟨rfl, hq3, hg⟩
        rw [HVL.out]
        have HM3 := Lib.hid (HM2.out.step hq3 hg (Nat.le_refl _) hk2)
        clear hq3 hg HM2
        go_wp2_with fail
        refine (drawn_same HM3.out.q (HK.out.lenAny _ p c m _ HM3.out.q (by rw [HVL.out]; exact hqm) (by omega))).mono ?_
        rintro e w4 ⟨rfl, hq3, hg⟩
        rw [HVL.out]
        have HM4 := Lib.hid (HM3.out.step hq3 hg (Nat.le_refl _) hk2)
        clear hq3 hg HM3
        go_wp2_with fail
        refine (drawn_same HM4.out.q (HK.out.roomAny _ p c m _ HM4.out.q (by rw [HVL.out]; exact hqm) (by omega))).mono ?_
        rintro e w5 ⟨rfl, hq3, hg⟩
        rw [HVL.out]
        have HM5 := Lib.hid (HM4.out.step hq3 hg (Nat.le_refl _) hk2)
        clear hq3 hg HM4
        go_wp2
        go_roundw
        case rel => exact ⟨k2, j + 1, pl2, by omega, by go_num, rfl, Lib.hid ⟨hl2, hk2⟩, HM5⟩
        case measure => simp [intOf]; omega
    · obtain rfl : j = n := by omega
      go_wp2_with fail
      refine (wakes_any HKS.out _).mono ?_
      rintro e w7 ⟨rfl, hb⟩
      go_wp2
      go_ret
      exact ⟨rfl, HM.out.b.trans (hb.mono HM.out.b.size)⟩

set_option maxRecDepth 100000 in
set_option maxHeartbeats 4000000 in
theorem walk {H : Type} {enc : TypeId × Value → H} (W : World) (base : Nat) {v0 v1 : Value} {d0 d1 : DataW H} {p0 p1 : List MemPlace}
    (o0 : Value.okWide Try.prog W .any base 5 v0) (h0 : DataW.Trod enc Try.prog W 0 (fun _ => true) true 5 v0 d0 p0) (o1 : Value.okWide Try.prog W .any base 22 v1) (h1 : DataW.Trod enc Try.prog W 0 (fun _ => true) true 22 v1 d1 p1) :
    Calls Try.prog 5 #[v0, v1] W fun e w' => e = .returned (.bool true) ∧ Below W.heap.size W w' := by
  obtain ⟨r, rfl, hr⟩ := open_num Try.underlying5 o0 h0
  obtain ⟨A, c, l, rfl, hl, _, _, hE⟩ := open_els 2 encD Do.ok Try.underlying22 (e := 33) (by kernel_rfl) (by omega)
    (fun cs fuel x hl h => do_trod Try.underlying33 ⟨rfl, rfl⟩ ⟨rfl, rfl⟩ (hl.trans (by kernel_rfl)) h) o1 h1
  have hr' : 0 ≤ r ∧ r ≤ 255 := by
    simp [Lit.wf, IntKind.min, IntKind.max, IntKind.signed, IntKind.bits] at hr
    omega
  exact keeps_law queI clearI queS W r hr'.1 hr'.2 A c l hl hE

theorem own : ownKnob Try.prog.godebug = none := by kernel_rfl
theorem laidOut : laidOutB Try.prog = true := by kernel_rfl
set_option maxRecDepth 100000 in
theorem lifted (os : Os) (started : os.Started) (H : Type) (enc : TypeId × Value → H) :
    ReturnsInHanded {} Try.checked os 5 .any (Rows.queueKeepsSpec.pre6 enc Try.prog Try.f5 Rows.queueKeepsRow.domain false) (Rows.queueKeepsSpec.post enc Try.prog Try.f5 false true false false) := by
  refine returnsInHanded_of_change (C := Try.checked) own started (by kernel_rfl) Try.func5
    (ChangeSpec.witness6 (enc := enc) (C := Try.checked) false ⟨#[], #[.int .u8 0, .slice none 0 0], []⟩ 8 (by kernel_rfl) (by kernel_rfl) (by kernel_rfl) (by kernel_rfl)) ?_
  intro W base args ds gs before hval0 hW hcnd _
  have hval : ∀ (j : Nat) t v, Try.f5.params[j]? = some t → args[j]? = some v → Value.okWide Try.prog W .any base t v := hval0
  have hW' := hW
  obtain ⟨p, q, hA0, hV, rfl, hfz, hnd⟩ := hW
  have hA : DataW.TrodAll enc Try.prog W 0 (fun _ => true) true Try.f5.params.toList args.toList ds p := hA0
  rw [Try.params5] at hA hval
  obtain ⟨v0, vs0, d0, ds0, p0, q0, hargs, rfl, rfl, h0, r0⟩ := trodAll_cons hA
  obtain ⟨v1, vs1, d1, ds1, p1, q1, rfl, rfl, rfl, h1, r1⟩ := trodAll_cons r0
  obtain ⟨rfl, rfl, rfl⟩ := trodAll_nil r1
  obtain rfl : args = #[v0, v1] := by cases args; simp_all
  obtain ⟨rfl, rfl⟩ := trodVars_none hV
  have o0 := hval 0 5 v0 rfl rfl
  have lt0 : ∀ x ∈ p0, x.block < W.heap.size := by obtain ⟨m, hm⟩ := h0; exact DataW.trod_lt m _ _ _ hm
  have o1 := hval 1 22 v1 rfl rfl
  have lt1 : ∀ x ∈ p1, x.block < W.heap.size := by obtain ⟨m, hm⟩ := h1; exact DataW.trod_lt m _ _ _ hm
  clear hA0 hval0
  refine (walk W base o0 h0 o1 h1).mono fun e W' ⟨he, bel⟩ => ?_
  subst he
  exact ⟨_, rfl, _, _, _, [], _, [], hW', trodAll_mk1 (shut_bool Try.underlying4 _), (trodAll_cons_mk (Below.trod laidOut (by kernel_rfl) (of_decide_eq_true (by kernel_rfl)) h0 bel lt0) (trodAll_cons_mk (Below.trod laidOut (by kernel_rfl) (of_decide_eq_true (by kernel_rfl)) h1 bel lt1) trodAll_mk0)), rfl, bel.frame _, fun h => by cases h⟩

theorem over : Rows.queueKeepsRow.holds Try.pinned (OpenSpec.ofChange Rows.queueKeepsSpec) :=
  OpenClaim.holds_of_wide 5 Try.f5 rfl rfl rfl rfl rfl rfl rfl ⟨rfl, rfl, rfl, rfl, rfl⟩ rfl rfl rfl rfl rfl (by kernel_rfl) Try.func5 (by kernel_rfl)
    (of_decide_eq_true (by kernel_rfl)) (by unfold Func.isWrapper; first | (rw [if_pos (by decide +kernel)]; kernel_rfl) | (rw [if_neg (by decide +kernel)]; exact ⟨rfl, rfl⟩))
    (fun os started H enc _ => lifted os started H enc)

/-- THE STATEMENT -/
theorem proved : Rows.QueueKeepsSaid := over
end Go.Proofs.Ytofgdemkddbjeaa.queueKeeps
