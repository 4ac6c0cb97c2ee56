/- WireOne: whatever bytes are read as numbers of any widths are put as themselves: for every text and every row of widths, without a condition. -/
import Derived.Test.YtjcgnclhickfgaaParts
import Derived.Test.YtjcgnclhickfgaaOpen
import Derived.Test.YtjcgnclhickfgaaWakes
import Derived.OpenShut
import Derived.ShutString
import Derived.ChangeOld
import Derived.Deep.RegionLaw
import Derived.Deep.DeepCutAuto
import Derived.Deep.CutBlock
import Derived.Deep.RegionWith
import Derived.Deep.QuietTactic
import Derived.BigQuiet
import Derived.Outline
namespace Go.Proofs.Ytjcgnclhickfgaa.wireOne
open Go.ChangeShapes Go.WideShapes Go.ChangeAt Go.RowKit
open Go.ChangeMaps (open_string shut_string)
set_option linter.unusedVariables false
set_option linter.unusedSimpArgs false

theorem Byt.chg {w w' : World} {A : Option Addr} {l lr : List UInt8} {g : Nat} {er : Int} (h : Byt w A l) (hr : Rdr w g lr er) (hc : Chg (only g) w w') : Byt w' A l := by
  intro hl
  obtain ⟨ad, hA, hcell⟩ := h hl
  refine ⟨ad, hA, fun j u hu => ?_⟩
  have h1 := hcell j u hu
  have hne : ¬ only g (ad.add j).block := by
    intro e
    unfold only at e
    have hsp := World.cell?_spot h1
    have hp : ad.add j = ⟨g, (ad.add j).off, none⟩ := by
      rw [← e, ← hsp]
    rw [hp, Blk.cell hr] at h1
    obtain ⟨x, _, rfl⟩ := List.mem_map.1 (List.mem_of_getElem? hu)
    match (ad.add j).off, h1 with
    | 0, h1 => simp [bval] at h1
    | 1, h1 => simp [bval] at h1
    | n + 2, h1 => simp at h1
  rw [hc.cell (World.block_lt_of_cell? w _ h1) hne]
  exact h1
theorem StrC.chg {w w' : World} {v : Value} {l lr : List UInt8} {g : Nat} {er : Int} (h : StrC w v l) (hr : Rdr w g lr er) (hc : Chg (only g) w w') : StrC w' v l := by
  obtain ⟨A, c, e, hz, hb, hcap⟩ := h
  exact ⟨A, c, e, hz, Byt.chg hb hr hc, hcap⟩
theorem below_drewN {B : Nat} {a w : World} (h : Below B a w) (n : Nat) : Below B a (w.drewN n) := ⟨h.os, h.tape, h.output, h.size, h.block⟩
/-- what is left behind m bytes -/
theorem tk_some (s : List UInt8) (m n : Nat) (h : n ≤ (s.drop m).length) : tkV n (s.drop m) 0 = (s.drop m).take n ∧ tkL n (s.drop m) 0 = s.drop (m + n) ∧ tkE n (s.drop m) 0 = 0 := by
  refine ⟨by simp only [tkV]; rw [if_pos ⟨trivial, h⟩], by simp only [tkL]; rw [if_pos ⟨trivial, h⟩, List.drop_drop], by simp only [tkE]; rw [if_neg (by omega)]⟩
theorem tk_none (s : List UInt8) (m n : Nat) (h : ¬ n ≤ (s.drop m).length) : tkE n (s.drop m) 0 = 3 := by
  simp only [tkE]; rw [if_pos ⟨trivial, by omega⟩]
theorem dig_read (s : List UInt8) (m n : Nat) (h : n ≤ (s.drop m).length) : dig n (num ((s.drop m).take n)) = (s.drop m).take n := by
  have hl : ((s.drop m).take n).length = n := by simp; simp at h; omega
  have := dig_num ((s.drop m).take n)
  rw [hl] at this
  exact this
theorem take_add (s : List UInt8) (m n : Nat) : s.take m ++ (s.drop m).take n = s.take (m + n) := by
  rw [List.take_add]

set_option maxRecDepth 100000 in
set_option maxHeartbeats 4000000 in
theorem walk {H : Type} {enc : TypeId × Value → H} (W : World) (base : Nat) {v0 v1 : Value} {d0 d1 : DataW H} {p0 p1 : List MemPlace}
    (o0 : Value.okWide Try.prog W .any base 9 v0) (h0 : DataW.Trod enc Try.prog W 0 (fun _ => true) true 9 v0 d0 p0) (o1 : Value.okWide Try.prog W .any base 22 v1) (h1 : DataW.Trod enc Try.prog W 0 (fun _ => true) true 22 v1 d1 p1) :
    Calls Try.prog 7 #[v0, v1] W fun e w' => e = .returned (.bool true) ∧ Below W.heap.size W w' := by
  obtain ⟨sb, rfl, rfl, rfl, hs⟩ := open_string Try.underlying9 o0 h0
  obtain ⟨A, c, q, rfl, hz, hq, _⟩ := open_bytes o1 h1
  clear o0 o1 h0 h1
  obtain ⟨s, rfl⟩ : ∃ l : List UInt8, sb = ⟨l.toArray⟩ := ⟨sb.data.toList, by simp⟩
  by_cases hlen : 1000 < s.length
  · have h3 : decide ((1000 : Int) < (s.length : Int)) = true := by simp; omega
    go_enter Try.func7, Try.ntmps7
    go_wp2_with fail
    refine wakes_any.mono ?_
    rintro e w' ⟨rfl, hb⟩
    go_wp2
    go_ret
    exact ⟨rfl, hb⟩
  by_cases hlen2 : 300 < q.length
  · go_enter Try.func7, Try.ntmps7
    go_wp2_with fail
    refine wakes_any.mono ?_
    rintro e w' ⟨rfl, hb⟩
    go_wp2
    go_ret
    exact ⟨rfl, hb⟩
  have HQ := Lib.hid hq
  clear hq
  obtain ⟨w, rfl⟩ : ∃ w, w = W := ⟨_, rfl⟩
  go_enter Try.func7, Try.ntmps7
  go_wp2_with fail
  refine (of_any s).mono ?_
  rintro e w1 ⟨rfl, h1, hb1⟩
  have HR1 := Lib.hid h1
  have HB1 := Lib.hid hb1
  have hsz1 : w.heap.size < w1.heap.size := Blk.lt h1
  clear h1 hb1
  go_upto_block 0 with fail
  go_cut [6] (fun v wx => ∃ (m : Nat) (l : List UInt8) (er : Int), m ≤ s.length ∧ StrC wx v (s.take m) ∧ Rdr wx w.heap.size l er ∧ (er = 0 → l = s.drop m) ∧ Below w.heap.size w wx)
  case first =>
    go_wp2_with fail
    go_loopw [6, 7] (fun v i wr => ∃ (k m : Nat), k ≤ q.length ∧ m ≤ s.length ∧ i = .int .i64 k ∧ StrC wr v (s.take m) ∧ Rdr wr w.heap.size (s.drop m) 0 ∧ Below w.heap.size w wr) (fun _ i _ => q.length - (intOf i).toNat)
    case atStart => exact ⟨0, 0, Nat.zero_le _, Nat.zero_le _, rfl, ⟨none, 0, rfl, fun _ => rfl, Byt.nil_ _ _, Nat.le_refl _⟩, HR1.out, HB1.out⟩
    clear HR1 HB1
    case round =>
      obtain ⟨k, m, hk, hm, rfl, hv, hr, hb⟩ := hrel
      have HV := Lib.hid hv
      have HR := Lib.hid hr
      have HB := Lib.hid hb
      clear hv hr
      by_cases hlt : k < q.length
      · obtain ⟨ad, rfl, hc⟩ := HQ.out (by omega)
        have hck := hc k (bval q[k]) (by simp [bvals, hlt])
        have hkb := World.block_lt_of_cell? w _ hck
        have hck2 := (hb.cell hkb).trans hck
        obtain ⟨db, hdb⟩ : ∃ d : Int, d = (q[k].toNat : Int) := ⟨_, rfl⟩
        have hck3 : wr.cell? (ad.add k) = some (.int .u8 db) := by rw [hdb]; exact hck2
        have hd0 : 0 ≤ db := by omega
        have HCK := Lib.hid (show w.cell? (ad.add k) = some (.int .u8 db) by rw [hdb]; exact hck)
        clear hc hck hck2 hdb hb
        go_wp2_with fail
        refine (read_any db HR.out hd0).mono ?_
        rintro e w2 ⟨rfl, hr2, hc2⟩
        have hb2 := HB.out.trans (hc2.below HB.out.size (fun k hk e => by unfold only at e; omega))
        have hv2 : StrC w2 _ (s.take m) := StrC.chg HV.out HR.out hc2
        by_cases hfit : wd db ≤ (s.drop m).length
        · obtain ⟨t1, t2, t3⟩ := tk_some s m (wd db) hfit
          rw [t2, t3] at hr2
          rw [t1]
          clear t1 t2 t3
          have hdg := dig_read s m (wd db) hfit
          have HR2 := Lib.hid hr2
          have HB2 := Lib.hid hb2
          have HV2 := Lib.hid hv2
          have HDG := Lib.hid hdg
          have hck4 := (hb2.cell hkb).trans HCK.out
          clear hr2 hb2 hv2 hdg hck3 hc2
          have hnl : num ((s.drop m).take (wd db)) < 18446744073709551616 := by
            have h1 := num_lt ((s.drop m).take (wd db))
            have h2 : ((s.drop m).take (wd db)).length ≤ 8 := Nat.le_trans (List.length_take_le _ _) (wd_le db)
            exact Nat.lt_of_lt_of_le h1 (Nat.le_trans (Nat.pow_le_pow_right (by omega) h2) (by decide))
          go_wp2_with fail
          refine (err_any HR2.out).mono ?_
          rintro e w3 ⟨rfl, rfl⟩
          go_wp2_with fail
          refine (put_any db _ HV2.out.str (by simp; omega) hd0 (by omega) (by omega)).mono ?_
          rw [Int.toNat_natCast, HDG.out, take_add]
          rintro e w4 ⟨v4, rfl, hv4, hb4⟩
          have hr4 := below_rdr HR2.out hb4
          have hb4' := HB2.out.trans (hb4.mono HB2.out.size)
          have HV4 := Lib.hid hv4
          have HR4 := Lib.hid hr4
          have HB4 := Lib.hid hb4'
          clear hv4 hr4 hb4 hb4' hck4
          go_wp2_with fail
          go_roundw
          case rel => exact ⟨k + 1, m + wd db, by omega, by simp at hfit; omega, by go_num, HV4.out, HR4.out, HB4.out⟩
          case measure => simp [intOf]; omega
        · have t3 := tk_none s m (wd db) hfit
          rw [t3] at hr2
          have HR2 := Lib.hid hr2
          have HB2 := Lib.hid hb2
          have HV2 := Lib.hid hv2
          clear hr2 hb2 hv2 hck3 hc2 t3
          go_wp2_with fail
          refine (err_any HR2.out).mono ?_
          rintro e w3 ⟨rfl, rfl⟩
          go_wp2_with fail
          go_meet
          exact ⟨m, _, 3, hm, HV2.out, HR2.out, fun e => absurd e (by omega), HB2.out⟩
      · go_wp2_with fail
        go_meet
        exact ⟨m, _, 0, hm, HV.out, HR.out, fun _ => rfl, hb⟩
  obtain ⟨m, l, er, hm, hv, hr, hle, hb⟩ := hcut
  clear HR1 HB1
  obtain ⟨A2, c2, rfl, hz2, hy2, hcap⟩ := hv
  have hml : (s.take m).length = m := by simp; omega
  have hst : Str wc (.slice A2 (s.take m).length c2) (s.take m) := ⟨_, _, rfl, hz2, hy2⟩
  rw [hml] at hst
  have cv : ∀ n, (convert 22 9 (.slice A2 m c2)).run Try.prog (wc.drewN n) = .ok (.string ⟨(s.take m).toArray⟩) (wc.drewN n) := fun n => hst.convs _ (below_drewN (Below.refl _ _) n)
  have hxt := extract_take s m
  have g1 : decide ((s.length : Int) < (m : Int)) = false := by simp; omega
  have HR := Lib.hid hr
  have HB := Lib.hid hb
  have HLE := Lib.hid hle
  rw [hml]
  clear hst hr hb hle hy2 hz2 hcap hml
  go_wp2_with fail
  go_quiet (fail)
  go_simp
  go_wp2_with fail
  clear cv hxt
  refine (err_any (w := wc.drewN _) HR.out).mono ?_
  rintro e w3 ⟨rfl, rfl⟩
  by_cases he : er = 0
  · subst he
    have hl := HLE.out rfl
    have hll : l.length = s.length - m := by rw [hl]; simp
    have hq1 : (((lft l 0 : Nat) : Int) == (s.length : Int) - (m : Int)) = true := by
      rw [beq_iff_eq]; simp only [lft, if_true]; omega
    clear hl hll
    go_wp2_with fail
    refine (left_any (w := wc.drewN _) HR.out).mono ?_
    rintro e w4 ⟨rfl, rfl⟩
    go_wp2_with fail
    refine wakes_any.mono ?_
    rintro e w' ⟨rfl, hbw⟩
    go_wp2
    go_ret
    exact ⟨rfl, (below_drewN HB.out _).trans (hbw.mono HB.out.size)⟩
  · have hq1 : (er != 0) = true := by simpa using he
    go_wp2_with fail
    refine wakes_any.mono ?_
    rintro e w' ⟨rfl, hbw⟩
    go_wp2
    go_ret
    exact ⟨rfl, (below_drewN HB.out _).trans (hbw.mono HB.out.size)⟩

theorem own : ownKnob Try.prog.godebug = none := by kernel_rfl
theorem laidOut : laidOutB Try.prog = true := by kernel_rfl
set_option maxRecDepth 100000 in
theorem lifted (os : Os) (started : os.Started) (H : Type) (enc : TypeId × Value → H) :
    ReturnsInHanded {} Try.checked os 7 .any (Rows.wireOneSpec.pre6 enc Try.prog Try.f7 Rows.wireOneRow.domain false) (Rows.wireOneSpec.post enc Try.prog Try.f7 false true false false) := by
  refine returnsInHanded_of_change (C := Try.checked) own started (by kernel_rfl) Try.func7
    (ChangeSpec.witness6 (enc := enc) (C := Try.checked) false ⟨#[], #[.string ByteArray.empty, .slice none 0 0], []⟩ 8 (by kernel_rfl) (by kernel_rfl) (by kernel_rfl) (by kernel_rfl)) ?_
  intro W base args ds gs before hval0 hW hcnd _
  have hval : ∀ (j : Nat) t v, Try.f7.params[j]? = some t → args[j]? = some v → Value.okWide Try.prog W .any base t v := hval0
  have hW' := hW
  obtain ⟨p, q, hA0, hV, rfl, hfz, hnd⟩ := hW
  have hA : DataW.TrodAll enc Try.prog W 0 (fun _ => true) true Try.f7.params.toList args.toList ds p := hA0
  rw [Try.params7] at hA hval
  obtain ⟨v0, vs0, d0, ds0, p0, q0, hargs, rfl, rfl, h0, r0⟩ := trodAll_cons hA
  obtain ⟨v1, vs1, d1, ds1, p1, q1, rfl, rfl, rfl, h1, r1⟩ := trodAll_cons r0
  obtain ⟨rfl, rfl, rfl⟩ := trodAll_nil r1
  obtain rfl : args = #[v0, v1] := by cases args; simp_all
  obtain ⟨rfl, rfl⟩ := trodVars_none hV
  have o0 := hval 0 9 v0 rfl rfl
  have lt0 : ∀ x ∈ p0, x.block < W.heap.size := by obtain ⟨m, hm⟩ := h0; exact DataW.trod_lt m _ _ _ hm
  have o1 := hval 1 22 v1 rfl rfl
  have lt1 : ∀ x ∈ p1, x.block < W.heap.size := by obtain ⟨m, hm⟩ := h1; exact DataW.trod_lt m _ _ _ hm
  clear hA0 hval0
  refine (walk W base o0 h0 o1 h1).mono fun e W' ⟨he, bel⟩ => ?_
  subst he
  exact ⟨_, rfl, _, _, _, [], _, [], hW', trodAll_mk1 (shut_bool Try.underlying4 _), (trodAll_cons_mk (Below.trod laidOut (by kernel_rfl) (of_decide_eq_true (by kernel_rfl)) h0 bel lt0) (trodAll_cons_mk (Below.trod laidOut (by kernel_rfl) (of_decide_eq_true (by kernel_rfl)) h1 bel lt1) trodAll_mk0)), rfl, bel.frame _, fun h => by cases h⟩

theorem over : Rows.wireOneRow.holds Try.pinned (OpenSpec.ofChange Rows.wireOneSpec) :=
  OpenClaim.holds_of_wide 7 Try.f7 rfl rfl rfl rfl rfl rfl rfl ⟨rfl, rfl, rfl, rfl, rfl⟩ rfl rfl rfl rfl rfl (by kernel_rfl) Try.func7 (by kernel_rfl)
    (of_decide_eq_true (by kernel_rfl)) (by unfold Func.isWrapper; first | (rw [if_pos (by decide +kernel)]; kernel_rfl) | (rw [if_neg (by decide +kernel)]; exact ⟨rfl, rfl⟩))
    (fun os started H enc _ => lifted os started H enc)

/-- THE STATEMENT -/
theorem proved : Rows.WireOneSaid := over
end Go.Proofs.Ytjcgnclhickfgaa.wireOne
