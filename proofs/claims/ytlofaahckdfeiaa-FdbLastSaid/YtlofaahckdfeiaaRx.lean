/- Layer 8: the document's Look. -/
import Derived.Test.YtlofaahckdfeiaaRw
namespace Go.Proofs.Ytlofaahckdfeiaa
open Go.RowKit
set_option linter.unusedVariables false
set_option linter.unusedSimpArgs false
set_option maxRecDepth 100000

theorem lget_no {L : List En} {k : Pl} {j : Nat} {x : En} (hx : L[j]? = some x) (h : lget (L.take j) k = none) (hn : x.k ≠ k) : lget (L.take (j + 1)) k = none := by
  rw [List.take_add_one, hx]
  unfold lget at h ⊢
  rw [List.find?_append, h]
  have : ¬ k = x.k := fun e => hn e.symm
  simp [this]
theorem lget_yes {L : List En} {k : Pl} {j : Nat} {x : En} (hx : L[j]? = some x) (h : lget (L.take j) k = none) (hn : x.k = k) : lget L k = some x := by
  obtain ⟨hj, e⟩ := List.getElem?_eq_some_iff.1 hx
  have e2 : L = L.take j ++ x :: L.drop (j + 1) := by
    rw [← e, ← List.drop_eq_getElem_cons hj, List.take_append_drop]
  unfold lget at h ⊢
  rw [e2, List.find?_append, h]
  simp [hn]
theorem sget_at {S : List (Pl × UInt8)} {k : Pl} {i : Nat} {x : Pl × UInt8} (hx : S[i]? = some x) (hk : x.1 = k) (h : shas (S.take i) k = false) : sget S k = some x.2 ∧ shas S k = true := by
  obtain ⟨hj, e⟩ := List.getElem?_eq_some_iff.1 hx
  have e2 : S = S.take i ++ x :: S.drop (i + 1) := by
    rw [← e, ← List.drop_eq_getElem_cons hj, List.take_append_drop]
  have h1 : sget S k = some x.2 := by
    have h0 := sget_none h
    unfold sget at h0 ⊢
    have h3 : (S.take i).find? (fun x => decide (x.1 = k)) = none := by simpa using h0
    rw [e2, List.find?_append, h3]
    simp [hk]
  exact ⟨h1, by rw [shas_get, h1]; rfl⟩
set_option maxHeartbeats 4000000 in
theorem look_ref {w : World} {Y : Nat → Prop} {A B : Option Addr} {c d : Nat} {L : List En} {S : List (Pl × UInt8)} (h : RvE Y w A c L B d S) (hp : ∀ e ∈ L, e.p.toNat < 8) (v : UInt16) (m : Mc) :
    Calls Try.prog 19 #[.agg #[.slice A L.length c, .slice B S.length d], .int .u16 v.toNat, mV m] w fun e w' => e = .returned (.tuple #[.int .u8 (lookP L S ⟨v, m⟩).toNat, .bool (lookB L S ⟨v, m⟩)]) ∧ Gro w w' := by
  obtain ⟨kk, hkk⟩ : ∃ kk : Pl, kk = ⟨v, m⟩ := ⟨_, rfl⟩
  have HKK := Lib.hid hkk
  rw [← hkk]
  clear hkk
  obtain ⟨w1, hw1⟩ : ∃ w1, (w.alloc (.cells #[.slice A L.length c, .slice B S.length d] 32)).alloc (.cells #[.int .u8 m.a.toNat, .int .u8 m.b.toNat, .int .u8 m.c.toNat, .int .u8 m.d.toNat, .int .u8 m.e.toNat, .int .u8 m.f.toNat] 25) = w1 := ⟨_, rfl⟩
  obtain ⟨g, hg⟩ : ∃ g, w.heap.size = g := ⟨_, rfl⟩
  have HG := Lib.hid (show Gro w w1 by rw [← hw1]; exact ((Gro.refl w).alloc _).alloc _)
  have HB := Lib.hid (show Blk w1 g 32 #[.slice A L.length c, .slice B S.length d] by rw [← hw1, ← hg]; exact (Blk.new w _ _).alloc _)
  have HM := Lib.hid (show Blk w1 (g + 1) 25 #[.int .u8 m.a.toNat, .int .u8 m.b.toNat, .int .u8 m.c.toNat, .int .u8 m.d.toNat, .int .u8 m.e.toNat, .int .u8 m.f.toNat] by rw [← hw1, ← hg]; have := Blk.new (w.alloc (.cells #[.slice A L.length c, .slice B S.length d] 32)) 25 #[.int .u8 m.a.toNat, .int .u8 m.b.toNat, .int .u8 m.c.toNat, .int .u8 m.d.toNat, .int .u8 m.e.toNat, .int .u8 m.f.toNat]; simpa using this)
  have HR := Lib.hid (h.gro HG.out)
  obtain ⟨n, hn⟩ : ∃ n, L.length = n := ⟨_, rfl⟩
  have HN := Lib.hid hn
  have HP := Lib.hid hp
  have hn32 : n ≤ 32 := by rw [← hn]; exact h.l32
  clear h hn hp
  have c0 := HB.out.cell 0
  have c1 := HB.out.cell 1
  simp only [List.getElem?_toArray, List.getElem?_cons_succ, List.getElem?_cons_zero] at c0 c1
  obtain ⟨m0, m1, m2, m3, m4, m5⟩ := mcells HM.out
  go_enter Try.func19, Try.ntmps19
  go_upto_region 1 with fail
  clear hw1 hg
  go_wp2_with fail
  refine (static_any HR.out v m).mono ?_
  rintro e w2 ⟨z, rfl, hz, hgr⟩
  rw [← HKK.out] at hz
  have HG2 := Lib.hid (HG.out.trans hgr)
  have HR2 := Lib.hid (HR.out.gro hgr)
  have HB2 := Lib.hid (hgr.blk HB.out)
  have HM2 := Lib.hid (hgr.blk HM.out)
  clear hgr c0 c1 m0 m1 m2 m3 m4 m5 HG HR HB HM
  rcases hz with ⟨hh, rfl⟩ | ⟨i, x, rfl, hx, hxk, hbf⟩
  · have HS := Lib.hid (And.intro (sget_none hh) hh)
    clear hh
    go_wp2_with fail
    go_loopw [9] (fun i wr => ∃ k : Nat, k ≤ n ∧ i = .int .i64 k ∧ Hid (lget (L.take k) kk = none) ∧ Hid (Gro w2 wr)) (fun i _ => n - (intOf i).toNat)
    case atStart => exact ⟨0, Nat.zero_le _, rfl, Lib.hid rfl, Lib.hid (Gro.refl _)⟩
    case round =>
      obtain ⟨k, hk, rfl, HK, HGr⟩ := hrel
      have c0 := (HGr.out.blk HB2.out).cell 0
      simp only [List.getElem?_toArray, List.getElem?_cons_succ, List.getElem?_cons_zero] at c0
      rw [HN.out] at c0
      by_cases hlt : k < n
      · obtain ⟨x, hx⟩ : ∃ x, L[k]? = some x := ⟨_, List.getElem?_eq_getElem (by rw [HN.out]; exact hlt)⟩
        obtain ⟨b, off, rfl, hb, e0, e1, e2, e3, e4, e5, e6, e7, _⟩ := en_at (HR2.out.elL.next HGr.out.below) hx
        have HX := Lib.hid hx
        have hkn : (k : Int) < n := by omega
        obtain ⟨m0, m1, m2, m3, m4, m5⟩ := mcells (HGr.out.blk HM2.out)
        have hp8 := HP.out x (List.mem_of_getElem? hx)
        obtain ⟨p, hpp⟩ : ∃ p, x.p.toNat = p := ⟨_, rfl⟩
        have HPP := Lib.hid hpp
        rw [hpp] at e7 hp8
        clear hx hpp
        by_cases he : x.k.v = v
        · by_cases hm : x.k.m = m
          · have HF := Lib.hid (lget_yes HX.out HK.out (by rw [HKK.out, ← he, ← hm]))
            have HV : Hid (lookP L S kk = pow8 x.p ∧ lookB L S kk = true) := Lib.hid ⟨by unfold lookP; rw [HS.out.1, HF.out], by unfold lookB; rw [HF.out]; simp⟩
            subst he hm
            have q := fun w => run_eqM x.k.m x.k.m w
            go_wp2_with fail
            go_quiet (fail)
            obtain ⟨w3, hw3⟩ : ∃ w3, wr.drewN nq = w3 := ⟨_, rfl⟩
            have HG3 : Hid (Gro wr w3) := Lib.hid (by rw [← hw3]; exact (Gro.refl _).drewN _)
            have e7' := (HG3.out.cell hb).trans e7
            have c0' := (HG3.out.cell (p := ⟨g, 0, none⟩) (HGr.out.blk HB2.out).lt).trans c0
            rw [hw3]
            clear hw3 q e0 e1 e2 e3 e4 e5 e6 e7 c0 m0 m1 m2 m3 m4 m5
            go_wp2_with fail
            go_loopw [10, 11] (fun N i ws => ∃ q : Nat, q ≤ p ∧ i = .int .u8 q ∧ N = .int .u8 (2 ^ q : Nat) ∧ w3 = ws) (fun _ i _ => p - (intOf i).toNat)
            case atStart => exact ⟨0, Nat.zero_le _, rfl, rfl, rfl⟩
            case round =>
              obtain ⟨q, hq, rfl, rfl, rfl⟩ := hrel
              obtain ⟨N, hN⟩ : ∃ N, 2 ^ q = N := ⟨_, rfl⟩
              have HD : Hid (2 ^ (q + 1) = N * 2) := Lib.hid (by rw [Nat.pow_succ, hN])
              by_cases hqp : q < p
              · have hN8 : N < 128 := by
                  rw [← hN]
                  exact Nat.lt_of_le_of_lt (Nat.pow_le_pow_right (by decide) (show q ≤ 6 by omega)) (by decide)
                rw [hN]
                clear hN
                go_wp2
                go_roundw
                case rel => exact ⟨q + 1, by omega, by go_num, by rw [HD.out]; go_num, by first | rfl | trivial⟩
                case measure => simp [intOf]; omega
              · obtain rfl : q = p := by omega
                have HPW : Hid (((pow8 x.p).toNat : Int) = (N : Int)) := Lib.hid (by rw [pow8_nat (by rw [HPP.out]; exact hp8), HPP.out, hN])
                rw [hN]
                clear hN
                go_wp2
                refine bodyPost_ret (v := .tuple #[.int .u8 N, .bool true]) (by simp [results, Try.results19, go_sem]) rfl ⟨by rw [HV.out.1, HV.out.2, HPW.out], (HG2.out.trans HGr.out).trans HG3.out⟩
          · have HF := Lib.hid (lget_no HX.out HK.out (fun e => hm (by rw [e, HKK.out])))
            subst he
            have q := fun w => run_eqM x.k.m m w
            have hd : decide (x.k.m = m) = false := by simpa using hm
            simp only [hd] at q
            go_wp2_with fail
            go_quiet (fail)
            go_wp2
            go_roundw
            case rel => exact ⟨k + 1, by omega, by go_num, HF, Lib.hid (HGr.out.drewN _)⟩
            case measure => simp [intOf]; omega
        · have HF := Lib.hid (lget_no HX.out HK.out (fun e => he (by rw [e, HKK.out])))
          have he2 : ((x.k.v.toNat : Int) == (v.toNat : Int)) = false := by rw [u16_eqI]; simpa using he
          have he3 : ¬ ((x.k.v.toNat : Int) = (v.toNat : Int)) := by simpa using he2
          go_wp2_with fail
          go_quiet (fail)
          go_wp2
          go_roundw
          case rel => exact ⟨k + 1, by omega, by go_num, HF, Lib.hid (HGr.out.drewN _)⟩
          case measure => simp [intOf]; omega
      · obtain rfl : k = n := by omega
        have HF : Hid (lget L kk = none) := Lib.hid (by have := HK.out; rw [List.take_of_length_le (by rw [HN.out]; exact Nat.le_refl _)] at this; exact this)
        have HV : Hid (lookP L S kk = 0 ∧ lookB L S kk = false) := Lib.hid ⟨by unfold lookP; rw [HS.out.1, HF.out], by unfold lookB; rw [HF.out, HS.out.2]; rfl⟩
        go_wp2
        refine bodyPost_ret (v := .tuple #[.int .u8 0, .bool false]) (by simp [results, Try.results19, go_sem]) rfl ⟨by rw [HV.out.1, HV.out.2]; rfl, HG2.out.trans HGr.out⟩
  · have HSG := Lib.hid (sget_at hx hxk hbf)
    have HV : Hid (lookP L S kk = x.2 ∧ lookB L S kk = true) := Lib.hid ⟨by unfold lookP; rw [HSG.out.1], by unfold lookB; rw [HSG.out.2]; rfl⟩
    obtain ⟨b, off, rfl, hb, _, _, _, _, _, _, _, e7⟩ := es_at HR2.out.elS hx
    have c1 := HB2.out.cell 1
    simp only [List.getElem?_toArray, List.getElem?_cons_succ, List.getElem?_cons_zero] at c1
    obtain ⟨k, hk⟩ : ∃ k, S.length = k := ⟨_, rfl⟩
    have hik : i < k := by rw [← hk]; exact (List.getElem?_eq_some_iff.1 hx).1
    rw [hk] at c1
    have hiki : (i : Int) < k := by omega
    clear hx hxk hbf hk
    go_wp2
    refine bodyPost_ret (v := .tuple #[.int .u8 x.2.toNat, .bool true]) (by simp [results, Try.results19, go_sem]) rfl ⟨by rw [HV.out.1, HV.out.2], HG2.out⟩
end Go.Proofs.Ytlofaahckdfeiaa
