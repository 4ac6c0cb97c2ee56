/- WireBack: what was put, one number behind the other, is read as itself, and nothing is left; a byte less is ErrShort: for every row of numbers, without a condition. -/
import Derived.Test.YtjcgnclhickfgaaParts
import Derived.Test.YtjcgnclhickfgaaOpen
import Derived.Test.YtjcgnclhickfgaaWakes
import Derived.OpenShut
import Derived.ShutString
import Derived.ChangeOld
import Derived.Deep.RegionLaw
import Derived.Deep.DeepCutAuto
import Derived.Deep.CutBlock
import Derived.Deep.RegionWith
import Derived.Deep.QuietTactic
import Derived.BigQuiet
namespace Go.Proofs.Ytjcgnclhickfgaa.wireBack
open Go.ChangeShapes Go.WideShapes Go.ChangeAt Go.RowKit
open Go.ChangeMaps (open_string shut_string)
set_option linter.unusedVariables false
set_option linter.unusedSimpArgs false

/-- the bytes of the parts -/
def encP : List (Int × Int) → List UInt8
  | [] => []
  | p :: r => dig (wd p.1) p.2.toNat ++ encP r
theorem enc_snoc (l : List (Int × Int)) (p : Int × Int) : encP (l ++ [p]) = encP l ++ dig (wd p.1) p.2.toNat := by
  induction l with
  | nil => simp [encP]
  | cons x l ih => simp [encP, ih]
theorem enc_len (l : List (Int × Int)) : (encP l).length ≤ 8 * l.length := by
  induction l with
  | nil => simp [encP]
  | cons x l ih => have := wd_le x.1; simp [encP, dig_len]; omega
theorem enc_pos (l : List (Int × Int)) (h : 0 < l.length) : 0 < (encP l).length := by
  cases l with
  | nil => simp at h
  | cons x l => have := wd_pos x.1; simp [encP, dig_len]; omega
theorem enc_drop (l : List (Int × Int)) (k : Nat) (h : k < l.length) : encP (l.drop k) = dig (wd l[k].1) l[k].2.toNat ++ encP (l.drop (k + 1)) := by
  rw [List.drop_eq_getElem_cons h]; rfl
theorem enc_take (l : List (Int × Int)) (k : Nat) (h : k < l.length) : encP (l.take (k + 1)) = encP (l.take k) ++ dig (wd l[k].1) l[k].2.toNat := by
  rw [List.take_succ_eq_append_getElem h, enc_snoc]

/-- what the reader that lacks a byte has left, and its error, behind k parts -/
def shL (q : List (Int × Int)) (k : Nat) : List UInt8 := (encP (q.drop k)).dropLast

theorem bits_mask (x : Int) (d : Int) (h0 : 0 ≤ x) (h1 : x ≤ 18446744073709551615) : bits BinOp.and .u64 x (mx d) = ((x.toNat % 256 ^ wd d : Nat) : Int) := by
  obtain ⟨n, rfl⟩ := Int.eq_ofNat_of_zero_le h0
  have key : ∀ m : Nat, m ≤ 64 → bits BinOp.and .u64 (n : Int) ((2 ^ m - 1 : Nat) : Int) = ((n % 2 ^ m : Nat) : Int) := by
    intro m hm
    have hle : 2 ^ m ≤ 2 ^ 64 := Nat.pow_le_pow_right (by omega) hm
    rw [u64_and_nat n (2 ^ m - 1) (by omega) (by have : 0 < 2 ^ m := Nat.two_pow_pos m; omega), Nat.and_two_pow_sub_one_eq_mod]
  rw [Int.toNat_natCast]
  unfold mx wd
  split
  · exact key 8 (by omega)
  · split
    · exact key 16 (by omega)
    · split
      · exact key 32 (by omega)
      · exact key 64 (by omega)

/-- one part read by the whole reader -/
theorem rd_whole (q : List (Int × Int)) (k : Nat) (h : k < q.length) : tkV (wd q[k].1) (encP (q.drop k)) 0 = dig (wd q[k].1) q[k].2.toNat ∧ tkL (wd q[k].1) (encP (q.drop k)) 0 = encP (q.drop (k + 1)) ∧ tkE (wd q[k].1) (encP (q.drop k)) 0 = 0 := by
  rw [enc_drop q k h]
  have hl := dig_len (wd q[k].1) q[k].2.toNat
  generalize dig (wd q[k].1) q[k].2.toNat = m at *
  generalize encP (q.drop (k + 1)) = r at *
  unfold tkV tkL tkE
  have h1 : wd q[k].1 ≤ (m ++ r).length := by simp; omega
  simp only [h1, and_self, if_true, true_and]
  rw [← hl]
  simp
/-- and by the one that lacks a byte, while it has it -/
theorem rd_short (q : List (Int × Int)) (k : Nat) (h : k + 1 < q.length) : tkV (wd q[k].1) (shL q k) 0 = dig (wd q[k].1) q[k].2.toNat ∧ tkL (wd q[k].1) (shL q k) 0 = shL q (k + 1) ∧ tkE (wd q[k].1) (shL q k) 0 = 0 := by
  unfold shL
  rw [enc_drop q k (by omega)]
  have hl := dig_len (wd q[k].1) q[k].2.toNat
  have hp := enc_pos (q.drop (k + 1)) (by simp; omega)
  generalize dig (wd q[k].1) q[k].2.toNat = m at *
  generalize encP (q.drop (k + 1)) = r at *
  have hne : r ≠ [] := by intro e; subst e; simp at hp
  rw [List.dropLast_append_of_ne_nil hne]
  generalize r.dropLast = s at *
  unfold tkV tkL tkE
  have h1 : wd q[k].1 ≤ (m ++ s).length := by simp; omega
  simp only [h1, and_self, if_true, true_and]
  rw [← hl]
  simp
/-- and where it lacks it -/
theorem rd_last (q : List (Int × Int)) (k : Nat) (h : k + 1 = q.length) : tkE (wd q[k].1) (shL q k) 0 = 3 := by
  unfold shL
  rw [enc_drop q k (by omega)]
  have hl := dig_len (wd q[k].1) q[k].2.toNat
  have hp := wd_pos q[k].1
  have h0 : q.drop (k + 1) = [] := List.drop_eq_nil_of_le (by omega)
  rw [h0]
  simp only [encP, List.append_nil]
  unfold tkE
  rw [if_pos ⟨rfl, by simp; omega⟩]

/-- both readers behind k parts -/
structure Pair (b1 b2 : Nat) (w : World) (q : List (Int × Int)) (k : Nat) : Prop where
  ne : b1 ≠ b2
  whole : Rdr w b1 (encP (q.drop k)) 0
  short : ∃ l er, Rdr w b2 l er ∧ (k < q.length → l = shL q k ∧ er = 0) ∧ (k = q.length → er = 3)
theorem Pair.drewN {b1 b2 : Nat} {w : World} {q : List (Int × Int)} {k : Nat} (h : Pair b1 b2 w q k) (n : Nat) : Pair b1 b2 (w.drewN n) q k := ⟨h.ne, h.whole, h.short⟩
theorem below_drewN {B : Nat} {a w : World} (h : Below B a w) (n : Nat) : Below B a (w.drewN n) := ⟨h.os, h.tape, h.output, h.size, h.block⟩
theorem qleft {f : FuncId} {args : Array Value} {w : World} {n : Nat} {v : Value} (h : Calls Try.prog f args (w.drewN n) fun e w' => e = .returned v ∧ w.drewN n = w') :
    Calls Try.prog f args (w.drewN n) fun e w'' => e = .returned v ∧ ∃ m, w'' = w.drewN m := h.mono fun _ _ ⟨he, hm⟩ => ⟨he, n, hm.symm⟩

set_option maxRecDepth 100000 in
set_option maxHeartbeats 4000000 in
theorem walk {H : Type} {enc : TypeId × Value → H} (W : World) (base : Nat) {v0 : Value} {d0 : DataW H} {p0 : List MemPlace}
    (o0 : Value.okWide Try.prog W .any base 56 v0) (h0 : DataW.Trod enc Try.prog W 0 (fun _ => true) true 56 v0 d0 p0) :
    Calls Try.prog 6 #[v0] W fun e w' => e = .returned (.bool true) ∧ Below W.heap.size W w' := by
  obtain ⟨A, c, q, rfl, hq, _⟩ := open_parts o0 h0
  clear o0 h0
  by_cases h00 : q.length = 0
  · have h3 : ((q.length : Int) == 0) = true := by rw [beq_iff_eq]; omega
    go_enter Try.func6, Try.ntmps6
    go_wp2_with fail
    refine wakes_any.mono ?_
    rintro e w' ⟨rfl, hb⟩
    go_wp2
    go_ret
    exact ⟨rfl, hb⟩
  have z3 : ((q.length : Int) == 0) = false := beq_eq_false_iff_ne.2 (by omega)
  by_cases hlen2 : 100 < q.length
  · go_enter Try.func6, Try.ntmps6
    go_wp2_with fail
    refine wakes_any.mono ?_
    rintro e w' ⟨rfl, hb⟩
    go_wp2
    go_ret
    exact ⟨rfl, hb⟩
  obtain ⟨b, off, rfl, hbA, hel⟩ := hq (by omega)
  have HE := Lib.hid hel
  clear hq hel
  obtain ⟨w, rfl⟩ : ∃ w, w = W := ⟨_, rfl⟩
  go_enter Try.func6, Try.ntmps6
  go_wp2_with fail
  go_loopw [3, 4] (fun v i wr => ∃ k : Nat, k ≤ q.length ∧ i = .int .i64 k ∧ StrC wr v (encP (q.take k)) ∧ Below w.heap.size w wr) (fun _ i _ => q.length - (intOf i).toNat)
  case atStart => exact ⟨0, Nat.zero_le _, rfl, ⟨none, 0, rfl, fun _ => rfl, Byt.nil_ _ _, Nat.le_refl _⟩, Below.refl _ _⟩
  case round =>
    obtain ⟨k, hk, rfl, hv, hb⟩ := hrel
    have hel2 : (encP (q.take k)).length ≤ 8 * k := Nat.le_trans (enc_len _) (by simp; omega)
    by_cases hlt : k < q.length
    · obtain ⟨hd, hn, wd', wn⟩ := HE.out k hlt
      have hd' := (hb.cell (p := ⟨b, off + k * 2, none⟩) hbA).trans hd
      have hn' := (hb.cell (p := ⟨b, off + k * 2 + 1, none⟩) hbA).trans hn
      have het := enc_take q k hlt
      clear hd hn
      have hbnd : 0 ≤ q[k].1 ∧ 0 ≤ q[k].2 ∧ q[k].2 ≤ 18446744073709551615 := by
        simp [Lit.wf, IntKind.min, IntKind.max, IntKind.signed, IntKind.bits] at wd' wn
        omega
      clear wd' wn
      generalize q[k].1 = d at *
      generalize q[k].2 = x at *
      obtain ⟨x0, x1, x2⟩ := hbnd
      have HV := Lib.hid hv
      have HB := Lib.hid hb
      have HT := Lib.hid het
      clear hv hb het
      go_wp2_with fail
      refine (put_any d x HV.out.str (by omega) x0 x1 x2).mono ?_
      rintro e w2 ⟨v2, rfl, hs2, hb2⟩
      rw [← HT.out] at hs2
      have hb2' := HB.out.trans (hb2.mono HB.out.size)
      have HS2 := Lib.hid hs2
      have HB2 := Lib.hid hb2'
      clear hs2 hb2 hb2' hd' hn'
      go_wp2_with fail
      go_roundw
      case rel => exact ⟨k + 1, by omega, by go_num, HS2.out, HB2.out⟩
      case measure => simp [intOf]; omega
    · obtain rfl : k = q.length := by omega
      rw [List.take_length] at hv hel2
      have hpos := enc_pos q (by omega)
      obtain ⟨A2, c2, rfl, hz2, hy2, hcap⟩ := hv
      obtain ⟨ad2, rfl, hc2⟩ := hy2 hpos
      obtain ⟨E, hE⟩ : ∃ E, E = encP q := ⟨_, rfl⟩
      rw [← hE] at hc2 hel2 hpos hcap ⊢
      have hst1 : Str wr (.slice (some ad2) E.length c2) E := ⟨_, _, rfl, hz2, fun _ => ⟨ad2, rfl, hc2⟩⟩
      have hst2 : Str wr (.slice (some ad2) (E.length - 1) c2) E.dropLast := ⟨_, _, by rw [List.length_dropLast], hz2, fun _ => ⟨ad2, rfl, fun j u hu => hc2 j u (by
        simp only [bvals, List.getElem?_map, Option.map_eq_some_iff] at hu ⊢
        obtain ⟨a, ha, rfl⟩ := hu
        refine ⟨a, ?_, rfl⟩
        rw [List.getElem?_dropLast] at ha
        split at ha
        · exact ha
        · cases ha)⟩⟩
      have z8 : ((E.length : Int) == 0) = false := beq_eq_false_iff_ne.2 (by omega)
      have hd0 : Below wr.heap.size wr wr.drew := (Below.refl _ _).drew
      have cv1 := hst1.convs
      have cv2 := hst2.convs
      have HB := Lib.hid hb
      clear hb hst1 hst2 hc2 hz2
      have HEE := Lib.hid hE
      clear hE
      go_upto_region 10 with fail
      go_cut [5, 6] (fun s5 s6 wx => ∃ g1 g2, s5 = .pointer (some ⟨g1, 0, none⟩) ∧ s6 = .pointer (some ⟨g2, 0, none⟩) ∧ w.heap.size ≤ g1 ∧ w.heap.size ≤ g2 ∧ g1 ≠ g2 ∧ Rdr wx g1 E 0 ∧ Rdr wx g2 E.dropLast 0 ∧ Below w.heap.size w wx)
      case first =>
        have e40 : IntKind.i64.wrap ((E.length : Int) - 1) = (E.length : Int) - 1 := IntWalk.i64_in _ (by omega)
        have e41 : ((E.length : Int) - 1).toNat = E.length - 1 := by omega
        go_region_with (first
          | (go_at_call_of 14 (Value.string ⟨E.toArray⟩); refine (of_any E).mono ?_; rintro e w1 ⟨rfl, hr1, hb1⟩; have hd1 := hd0.trans hb1)
          | (go_at_call_of 14 (Value.string ⟨E.dropLast.toArray⟩); refine (of_any E.dropLast).mono ?_; rintro e w2 ⟨rfl, hr2, hb2⟩))
        all_goals
          go_wp2_with fail
          go_meet
          have hs1 : wr.heap.size < w1.heap.size := Blk.lt hr1
          have hbw : Below w.heap.size w w1 := HB.out.trans (hd1.mono HB.out.size)
          exact ⟨_, _, rfl, rfl, HB.out.size, hbw.size, by omega, below_rdr hr1 hb2, hr2, hbw.trans (hb2.mono hbw.size)⟩
      obtain ⟨g1, g2, rfl, rfl, hg1, hg2, hne, hr1, hr2, hbc⟩ := hcut
      have hp0 : Pair g1 g2 wc q 0 := ⟨hne, by rw [List.drop_zero, ← HEE.out]; exact hr1, _, _, hr2, fun _ => ⟨by unfold shL; rw [List.drop_zero, ← HEE.out], rfl⟩, fun e => absurd e (by omega)⟩
      have HP0 := Lib.hid hp0
      have HBC := Lib.hid hbc
      clear hr1 hr2 hp0 hbc cv1 cv2 hd0 HB hy2
      go_wp2_with fail
      go_loopw [7] (fun i wr => ∃ k : Nat, k ≤ q.length ∧ i = .int .i64 k ∧ Pair g1 g2 wr q k ∧ Below w.heap.size w wr) (fun i _ => q.length - (intOf i).toNat)
      case atStart => exact ⟨0, Nat.zero_le _, rfl, HP0.out, HBC.out⟩
      clear HP0 HBC
      case round =>
        rename_i wq _ _
        obtain ⟨k, hk, rfl, hp, hb⟩ := hrel
        have HP := Lib.hid hp
        clear hp
        by_cases hlt : k < q.length
        · obtain ⟨hd, hn, wd', wn⟩ := HE.out k hlt
          have HD := Lib.hid hd
          have HN := Lib.hid hn
          have hd' := (hb.cell (p := ⟨b, off + k * 2, none⟩) hbA).trans hd
          have hn' := (hb.cell (p := ⟨b, off + k * 2 + 1, none⟩) hbA).trans hn
          have hbnd : 0 ≤ q[k].1 ∧ 0 ≤ q[k].2 ∧ q[k].2 ≤ 18446744073709551615 := by
            simp [Lit.wf, IntKind.min, IntKind.max, IntKind.signed, IntKind.bits] at wd' wn
            omega
          clear wd' wn hd hn
          have HW := Lib.hid (rd_whole q k hlt)
          obtain ⟨ls, ers, hsh, hs1, hs2⟩ := HP.out.short
          obtain ⟨rfl, rfl⟩ := hs1 hlt
          have HSh := Lib.hid hsh
          clear hsh hs1 hs2
          by_cases hk1 : k + 1 < q.length
          · have HS := Lib.hid (rd_short q k hk1)
            generalize q[k].1 = d at *
            generalize q[k].2 = x at *
            obtain ⟨x0, x1, x2⟩ := hbnd
            have EB := Lib.hid (bits_mask x d x1 x2)
            have e16 : (k : Int) < (q.length : Int) - 1 := by omega
            have E16 := Lib.hid e16
            clear e16
            go_wp2_with fail
            refine (read_any d HP.out.whole x0).mono ?_
            rw [HW.out.1, HW.out.2.1, HW.out.2.2, num_dig]
            rintro e w2 ⟨rfl, hr2, hc2⟩
            have hsh := Blk.chg HSh.out hc2 (fun e => HP.out.ne e.symm)
            have hbl := hb.trans (hc2.below hb.size (fun k hk e => by unfold only at e; omega))
            have hd2 := (hbl.cell (p := ⟨b, off + k * 2, none⟩) hbA).trans HD.out
            have hn2 := (hbl.cell (p := ⟨b, off + k * 2 + 1, none⟩) hbA).trans HN.out
            have HR2 := Lib.hid hr2
            have HSh2 := Lib.hid hsh
            have HBL := Lib.hid hbl
            clear hr2 hsh hbl hc2
            go_wp2_with fail
            refine (read_any d HSh2.out x0).mono ?_
            rw [HS.out.1, HS.out.2.1, HS.out.2.2, num_dig]
            rintro e w3 ⟨rfl, hr3, hc3⟩
            clear hd2 hn2
            have hwh := Blk.chg HR2.out hc3 (fun e => HP.out.ne e)
            have hbl := HBL.out.trans (hc3.below HBL.out.size (fun k hk e => by unfold only at e; omega))
            have hd3 := (hbl.cell (p := ⟨b, off + k * 2, none⟩) hbA).trans HD.out
            have hn3 := (hbl.cell (p := ⟨b, off + k * 2 + 1, none⟩) hbA).trans HN.out
            have HP3 : Hid (Pair g1 g2 w3 q (k + 1)) := Lib.hid ⟨HP.out.ne, hwh, _, _, hr3, fun _ => ⟨rfl, rfl⟩, fun e => absurd e (by omega)⟩
            have HBL3 := Lib.hid hbl
            have e16 := E16.out
            have eb := EB.out
            clear hr3 hwh hbl hc3
            go_wp2_with fail
            go_quiet ((go_at_call 31; exact qleft (most_any d x0)))
            clear e16 eb hd3 hn3
            go_wp2_with fail
            go_roundw
            case rel => exact ⟨k + 1, by omega, by go_num, HP3.out.drewN _, below_drewN HBL3.out _⟩
            case measure => simp [intOf]; omega
          · have HS := Lib.hid (rd_last q k (by omega))
            generalize q[k].1 = d at *
            generalize q[k].2 = x at *
            obtain ⟨x0, x1, x2⟩ := hbnd
            have EB := Lib.hid (bits_mask x d x1 x2)
            have e16 : decide ((k : Int) < (q.length : Int) - 1) = false := by simp; omega
            have E16 := Lib.hid e16
            clear e16
            go_wp2_with fail
            refine (read_any d HP.out.whole x0).mono ?_
            rw [HW.out.1, HW.out.2.1, HW.out.2.2, num_dig]
            rintro e w2 ⟨rfl, hr2, hc2⟩
            have hsh := Blk.chg HSh.out hc2 (fun e => HP.out.ne e.symm)
            have hbl := hb.trans (hc2.below hb.size (fun k hk e => by unfold only at e; omega))
            have hd2 := (hbl.cell (p := ⟨b, off + k * 2, none⟩) hbA).trans HD.out
            have hn2 := (hbl.cell (p := ⟨b, off + k * 2 + 1, none⟩) hbA).trans HN.out
            have HR2 := Lib.hid hr2
            have HSh2 := Lib.hid hsh
            have HBL := Lib.hid hbl
            clear hr2 hsh hbl hc2
            go_wp2_with fail
            refine (read_any d HSh2.out x0).mono ?_
            rw [HS.out]
            rintro e w3 ⟨rfl, hr3, hc3⟩
            clear hd2 hn2
            have hwh := Blk.chg HR2.out hc3 (fun e => HP.out.ne e)
            have hbl := HBL.out.trans (hc3.below HBL.out.size (fun k hk e => by unfold only at e; omega))
            have hd3 := (hbl.cell (p := ⟨b, off + k * 2, none⟩) hbA).trans HD.out
            have hn3 := (hbl.cell (p := ⟨b, off + k * 2 + 1, none⟩) hbA).trans HN.out
            have HP3 : Hid (Pair g1 g2 w3 q (k + 1)) := Lib.hid ⟨HP.out.ne, hwh, _, _, hr3, fun e => absurd e (by omega), fun _ => rfl⟩
            have HBL3 := Lib.hid hbl
            have e16 := E16.out
            have eb := EB.out
            clear hr3 hwh hbl hc3
            go_wp2_with fail
            go_quiet ((go_at_call 31; exact qleft (most_any d x0)))
            clear e16 eb hd3 hn3
            go_wp2_with fail
            go_roundw
            case rel => exact ⟨k + 1, by omega, by go_num, HP3.out.drewN _, below_drewN HBL3.out _⟩
            case measure => simp [intOf]; omega
        · obtain rfl : k = q.length := by omega
          have hwl := HP.out.whole
          obtain ⟨ls, ers, hsh, hs1, hs2⟩ := HP.out.short
          obtain rfl := hs2 rfl
          rw [List.drop_length] at hwl
          have HSh := Lib.hid hsh
          clear hs1 hs2 hsh
          go_wp2_with fail
          refine (end_any hwl).mono ?_
          rw [show ndE (encP []) 0 = 0 from rfl]
          rintro e w2 ⟨rfl, hr2, hc2⟩
          have hsh2 := Blk.chg HSh.out hc2 (fun e => HP.out.ne e.symm)
          have hbl := hb.trans (hc2.below hb.size (fun k hk e => by unfold only at e; omega))
          go_wp2_with fail
          refine (err_any hsh2).mono ?_
          rintro e w3 ⟨rfl, rfl⟩
          go_wp2_with fail
          refine wakes_any.mono ?_
          rintro e w' ⟨rfl, hbw⟩
          go_wp2
          go_ret
          exact ⟨rfl, hbl.trans (hbw.mono hbl.size)⟩

theorem own : ownKnob Try.prog.godebug = none := by kernel_rfl
theorem laidOut : laidOutB Try.prog = true := by kernel_rfl
set_option maxRecDepth 100000 in
theorem lifted (os : Os) (started : os.Started) (H : Type) (enc : TypeId × Value → H) :
    ReturnsInHanded {} Try.checked os 6 .any (Rows.wireBackSpec.pre6 enc Try.prog Try.f6 Rows.wireBackRow.domain false) (Rows.wireBackSpec.post enc Try.prog Try.f6 false true false false) := by
  refine returnsInHanded_of_change (C := Try.checked) own started (by kernel_rfl) Try.func6
    (ChangeSpec.witness6 (enc := enc) (C := Try.checked) false ⟨#[], #[.slice none 0 0], []⟩ 8 (by kernel_rfl) (by kernel_rfl) (by kernel_rfl) (by kernel_rfl)) ?_
  intro W base args ds gs before hval0 hW hcnd _
  have hval : ∀ (j : Nat) t v, Try.f6.params[j]? = some t → args[j]? = some v → Value.okWide Try.prog W .any base t v := hval0
  have hW' := hW
  obtain ⟨p, q, hA0, hV, rfl, hfz, hnd⟩ := hW
  have hA : DataW.TrodAll enc Try.prog W 0 (fun _ => true) true Try.f6.params.toList args.toList ds p := hA0
  rw [Try.params6] at hA hval
  obtain ⟨v0, vs0, d0, ds0, p0, q0, hargs, rfl, rfl, h0, r0⟩ := trodAll_cons hA
  obtain ⟨rfl, rfl, rfl⟩ := trodAll_nil r0
  obtain rfl : args = #[v0] := by cases args; simp_all
  obtain ⟨rfl, rfl⟩ := trodVars_none hV
  have o0 := hval 0 56 v0 rfl rfl
  have lt0 : ∀ x ∈ p0, x.block < W.heap.size := by obtain ⟨m, hm⟩ := h0; exact DataW.trod_lt m _ _ _ hm
  clear hA0 hval0
  refine (walk W base o0 h0).mono fun e W' ⟨he, bel⟩ => ?_
  subst he
  exact ⟨_, rfl, _, _, _, [], _, [], hW', trodAll_mk1 (shut_bool Try.underlying4 _), (trodAll_cons_mk (Below.trod laidOut (by kernel_rfl) (of_decide_eq_true (by kernel_rfl)) h0 bel lt0) trodAll_mk0), rfl, bel.frame _, fun h => by cases h⟩

theorem over : Rows.wireBackRow.holds Try.pinned (OpenSpec.ofChange Rows.wireBackSpec) :=
  OpenClaim.holds_of_wide 6 Try.f6 rfl rfl rfl rfl rfl rfl rfl ⟨rfl, rfl, rfl, rfl, rfl⟩ rfl rfl rfl rfl rfl (by kernel_rfl) Try.func6 (by kernel_rfl)
    (of_decide_eq_true (by kernel_rfl)) (by unfold Func.isWrapper; first | (rw [if_pos (by decide +kernel)]; kernel_rfl) | (rw [if_neg (by decide +kernel)]; exact ⟨rfl, rfl⟩))
    (fun os started H enc _ => lifted os started H enc)

/-- THE STATEMENT -/
theorem proved : Rows.WireBackSaid := over
end Go.Proofs.Ytjcgnclhickfgaa.wireBack
