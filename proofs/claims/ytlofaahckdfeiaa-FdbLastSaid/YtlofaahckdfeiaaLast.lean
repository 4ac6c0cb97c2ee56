/- FdbLast: a place leads to the port at which it was learnt last. -/
import Derived.Test.YtlofaahckdfeiaaKit9
import Derived.OpenShut
import Derived.ShutString
import Derived.ChangeOld
namespace Go.Proofs.Ytlofaahckdfeiaa.fdbLast
open Go.ChangeShapes Go.WideShapes Go.ChangeAt Go.RowKit
open Go.ChangeMaps (open_string shut_string)
set_option linter.unusedVariables false
set_option linter.unusedSimpArgs false
set_option maxRecDepth 100000


theorem open_cap {H : Type} {enc : TypeId × Value → H} {P : Program} {W : World} {t e : TypeId} {A : Option Addr} {n c : Nat} {d : DataW H} {p : List MemPlace} (ht : P.underlying t = some (.slice e)) (h : DataW.Trod enc P W 0 (fun _ => true) true t (.slice A n c) d p) : n ≤ c := by
  obtain ⟨fuel, hf⟩ := h
  rcases Go.Deep.open_slice ht hf with ⟨hcs, _⟩ | ⟨a, l, cc, m, nn, D, Pl, hcs, _, hl, _⟩
  · simp [Value.cells] at hcs
    omega
  · simp [Value.cells] at hcs
    obtain ⟨_, rfl, rfl⟩ := hcs
    exact hl

set_option maxRecDepth 100000 in
set_option maxHeartbeats 16000000 in
theorem last_law (W : World) (A : Option Addr) (c : Nat) (l : List Ac) (hE : Els 10 encA W A l) (hcap : l.length ≤ c) (hna : 0 < l.length → ∀ a, A = some a → a.block < W.heap.size) : Calls Try.prog 5 #[.slice A l.length c] W fun e w' => e = .returned (.bool true) ∧ Below W.heap.size W w' := by
  obtain ⟨n, hn⟩ : ∃ n, l.length = n := ⟨_, rfl⟩
  have HN := Lib.hid hn
  have HE := Lib.hid (And.intro hE hna)
  rw [hn] at hcap ⊢
  clear hn hE hna
  go_enter Try.func5, Try.ntmps5
  go_upto_region 1 with fail
  by_cases hl : 150 < n
  · have hl' : (150 : Int) < (n : Int) := by omega
    go_wp2_with fail
    refine (wakes_any _).mono ?_
    rintro e w2 ⟨rfl, hb⟩
    have HB2 := Lib.hid hb
    clear hb
    go_wp2
    go_ret
    exact ⟨rfl, HB2.out⟩
  have hl' : ¬ (150 : Int) < (n : Int) := by omega
  go_wp2_with fail
  refine (new_db _).mono ?_
  rintro e w1 ⟨t, X, rfl, hD, hup, hG⟩
  obtain ⟨b, hb⟩ : ∃ b, w1.heap.size = b := ⟨_, rfl⟩
  obtain ⟨w2, hw2⟩ : ∃ w2, w1.alloc (.map #[] 0) = w2 := ⟨_, rfl⟩
  have hG2 : Gro w1 w2 := by rw [← hw2]; exact (Gro.refl _).alloc _
  have HS0 : Hid (FlS W t X A l b (runA (l.take 0)) (runA (l.take 0)).2 w2) := Lib.hid ⟨hD.gro hG2, (HE.out.1.gro hG).gro hG2, by rw [← hw2, ← hb]; exact SmapQ.made w1, fun e => by have := hD.lt b e; omega, (hG.trans hG2).below, hup, by rw [← hb]; exact hG.size, HE.out.2⟩
  have hmm := @run_makeMap Try.prog
  clear hD hup hG hG2
  go_upto_region 5 with fail
  clear hb hw2 hmm
  go_wp2_with fail
  go_loopw [5] (fun i wr => ∃ (j : Nat) (X : Nat → Prop), j ≤ n ∧ i = .int .i64 j ∧ Hid (FlS W t X A l b (runA (l.take j)) (runA (l.take j)).2 wr)) (fun i _ => n - (intOf i).toNat)
  case atStart => exact ⟨0, X, Nat.zero_le _, rfl, HS0⟩
  case round =>
    clear HS0 HE
    obtain ⟨j, X, hj, rfl, HK⟩ := hrel
    by_cases hlt : j < n
    · obtain ⟨a, ha⟩ : ∃ a, l[j]? = some a := ⟨_, List.getElem?_eq_getElem (by rw [HN.out]; exact hlt)⟩
      obtain ⟨ba, off, rfl, hcl⟩ := els_act HK.out.el ha
      have HLD := Lib.hid hcl
      have HZ0 := Lib.hid (run_take ha)
      have hji : (j : Int) < n := by omega
      have HST := Lib.hid (statics_run (l.take j))
      obtain ⟨z, hz⟩ : ∃ z, runA (l.take j) = z := ⟨_, rfl⟩
      rw [hz] at HK HZ0 HST
      have HOLD := Lib.hid HK.out.db.old
      obtain ⟨ga, hga⟩ : ∃ g, wr.heap.size = g := ⟨_, rfl⟩
      obtain ⟨w2, hw2⟩ : ∃ w2, wr.alloc (.cells ([.int .u8 a.d.toNat, .int .u16 a.k.v.toNat, .int .u8 a.k.m.a.toNat, .int .u8 a.k.m.b.toNat, .int .u8 a.k.m.c.toNat, .int .u8 a.k.m.d.toNat, .int .u8 a.k.m.e.toNat, .int .u8 a.k.m.f.toNat, .int .u8 a.p.toNat, .int .u8 a.s.toNat] : List Value).toArray 34) = w2 := ⟨_, rfl⟩
      obtain ⟨gb, hgb⟩ : ∃ g, w2.heap.size = g := ⟨_, rfl⟩
      obtain ⟨w3, hw3⟩ : ∃ w3, w2.alloc (.cells #[.int .u16 a.k.v.toNat, .int .u8 a.k.m.a.toNat, .int .u8 a.k.m.b.toNat, .int .u8 a.k.m.c.toNat, .int .u8 a.k.m.d.toNat, .int .u8 a.k.m.e.toNat, .int .u8 a.k.m.f.toNat] 57) = w3 := ⟨_, rfl⟩
      have hg2 : Gro wr w2 := by rw [← hw2]; exact (Gro.refl _).alloc _
      have hg3 : Gro w2 w3 := by rw [← hw3]; exact (Gro.refl _).alloc _
      have hB2 : Blk w2 ga 34 ([.int .u8 a.d.toNat, .int .u16 a.k.v.toNat, .int .u8 a.k.m.a.toNat, .int .u8 a.k.m.b.toNat, .int .u8 a.k.m.c.toNat, .int .u8 a.k.m.d.toNat, .int .u8 a.k.m.e.toNat, .int .u8 a.k.m.f.toNat, .int .u8 a.p.toNat, .int .u8 a.s.toNat] : List Value).toArray := by rw [← hw2, ← hga]; exact Blk.new wr _ _
      have HA : Hid (FlA W t X (some ⟨ba, off, none⟩) l b ga gb a z z.2 w3) := Lib.hid ⟨HK.out.calm (hg2.trans hg3).below, hg3.blk hB2, by rw [← hw3, ← hgb]; exact Blk.new w2 _ _, fun e => by have := HK.out.db.lt ga e; omega, fun e => by have := HK.out.db.lt gb e; have := hg2.size; omega, by have := HK.out.mp.lt; omega, by have := HK.out.mp.lt; have := hg2.size; omega⟩
      have HB2 := Lib.hid hB2
      clear ha hcl hg2 hg3 hB2 hz
      go_upto_region 9 with (refine wpList_load_at 34 28 rfl (by kernel_rfl) ba (off + j * 10) [.int .u8 a.d.toNat, .int .u16 a.k.v.toNat, .int .u8 a.k.m.a.toNat, .int .u8 a.k.m.b.toNat, .int .u8 a.k.m.c.toNat, .int .u8 a.k.m.d.toNat, .int .u8 a.k.m.e.toNat, .int .u8 a.k.m.f.toNat, .int .u8 a.p.toNat, .int .u8 a.s.toNat] rfl HLD.out isAggA sizeA ?_)
      clear hw2 hga HLD HK
      obtain ⟨a0, a1, a2, a3, a4, a5, a6, a7, a8, a9⟩ := accells HB2.out
      go_upto_region 10 with fail
      clear hw3 hgb a0 a1 a2 a3 a4 a5 a6 a7 a8 a9 HB2
      obtain ⟨y, hy⟩ : ∃ y, a.d.toNat = y := ⟨_, rfl⟩
      have HY := Lib.hid hy
      clear hy
      have HZ := HZ0
      clear HZ0
      obtain ⟨a0, a1, a2, a3, a4, a5, a6, a7, a8, a9⟩ := HA.out.acells
      rw [HY.out] at a0
      by_cases h0 : y = 0
      · have HSt := Lib.hid (stp0 (z := z) (d_is HY.out (by rw [h0]; rfl)))
        subst h0
        go_wp2_with fail
        refine (tick_db HA.out.st.db).mono ?_
        rintro e w4 ⟨rfl, hd⟩
        obtain ⟨X4, hs4⟩ := HA.out.to (z' := stp z a) (by rw [HSt.out]; exact hd)
        have HA4 := Lib.hid hs4
        clear hd hs4 HA
        have HA := HA4
        clear HA4
        have HA4 := Lib.hid (show FlA W t X4 (some ⟨ba, off, none⟩) l b ga gb a (stp z a) (stp z a).2 w4 by have h := HA.out; rw [show z.2 = (stp z a).2 by rw [HSt.out]] at h; exact h)
        clear HA
        have HA := HA4
        clear HA4
        go_upto_region 22 with fail
        clear a0 a1 a2 a3 a4 a5 a6 a7 a8 a9
        obtain ⟨Z2, hZ2⟩ : ∃ Z2, Z2 = stp z a := ⟨_, rfl⟩
        rw [← hZ2] at HA HZ
        clear hZ2
        obtain ⟨a0, a1, a2, a3, a4, a5, a6, a7, a8, a9⟩ := HA.out.acells
        have HLO := Lib.hid (last_ok (l.take (j + 1)) a.k)
        rw [HZ.out] at HLO
        go_wp2_with fail
        refine (look_db HA.out.st.db a.k.v a.k.m).mono ?_
        rintro e w5 ⟨rfl, hg⟩
        have HA5 := Lib.hid (HA.out.calm hg.below)
        clear hg HA a0 a1 a2 a3 a4 a5 a6 a7 a8 a9
        obtain ⟨P, hP⟩ : ∃ P, lookP Z2.1 Z2.2 a.k = P := ⟨_, rfl⟩
        obtain ⟨B, hB⟩ : ∃ B, lookB Z2.1 Z2.2 a.k = B := ⟨_, rfl⟩
        have hP' : lookP Z2.1 Z2.2 ⟨a.k.v, a.k.m⟩ = P := hP
        have hB' : lookB Z2.1 Z2.2 ⟨a.k.v, a.k.m⟩ = B := hB
        rw [hP', hB']
        rw [hP, hB] at HLO
        have HPB := Lib.hid (And.intro hP hB)
        clear hP hB hP' hB'
        have HLK := Lib.hid (SVQ.run (mb := some b) HA5.out.st.mp a.k true)
        obtain ⟨p0, p1, p2, p3, p4, p5, p6⟩ := kcellsQ HA5.out.ka
        cases hsh : shas Z2.2 a.k with
        | true =>
          obtain ⟨x, hx⟩ : ∃ x, sget Z2.2 a.k = some x := by rw [shas_get] at hsh; exact Option.isSome_iff_exists.1 hsh
          have hlk := HLK.out
          rw [hsh, hx] at hlk
          simp only [if_true, Option.getD_some] at hlk
          have HE : Hid (P = x ∧ B = true) := Lib.hid ⟨by rw [← HPB.out.1]; unfold lookP; rw [hx], by rw [← HPB.out.2]; unfold lookB; rw [hsh]; rfl⟩
          rw [HE.out.1, HE.out.2]
          clear hsh hx
          go_wp2_with fail
          go_roundw
          case rel => exact ⟨j + 1, X4, by omega, by go_num, Lib.hid (by rw [HZ.out]; exact HA5.out.st)⟩
          case measure => simp [intOf]; omega
        | false =>
          have hlk := HLK.out
          rw [hsh, sget_none hsh] at hlk
          simp only [if_true, Option.getD_none] at hlk
          have HLF := Lib.hid (HLO.out hsh)
          have hlen : (l.take (j + 1)).length = j + 1 := by rw [List.length_take, HN.out]; omega
          rw [hlen] at HLF
          obtain ⟨R, hR⟩ : ∃ R, lscan (l.take (j + 1)) a.k (j + 1) 0 0 = R := ⟨_, rfl⟩
          rw [hR] at HLF
          have hLR : ∀ w_ : World, Hid (FlA W t X4 (some ⟨ba, off, none⟩) l b ga gb a Z2 Z2.2 w_) → Calls Try.prog 23 #[.slice (some ⟨ba, off, none⟩) (j + 1) c, kV a.k] w_ fun e w' => e = .returned (.tuple #[.int .u8 R.1.toNat, .bool R.2]) ∧ Below w_.heap.size w_ w' := fun w_ hw => by
            have := learnt_any w_ (some ⟨ba, off, none⟩) c (l.take (j + 1)) (els_take hw.out.st.el _) (by rw [hlen]; omega) (by rw [hlen]; omega) (fun _ a' e' => by cases e'; exact Nat.lt_of_lt_of_le (hw.out.st.na (by rw [HN.out]; omega) _ rfl) hw.out.st.bl.size) a.k
            rw [hlen, hR] at this
            exact this
          have HLR := Lib.hid hLR
          have HAX : ∀ (w_ w' : World), Hid (FlA W t X4 (some ⟨ba, off, none⟩) l b ga gb a Z2 Z2.2 w_) → Below w_.heap.size w_ w' → FlA W t X4 (some ⟨ba, off, none⟩) l b ga gb a Z2 Z2.2 w' := fun _ _ h hb => h.out.calm hb
          have HAS : ∀ w_ : World, Hid (FlA W t X4 (some ⟨ba, off, none⟩) l b ga gb a Z2 Z2.2 w_) → Hid (FlS W t X4 (some ⟨ba, off, none⟩) l b (runA (l.take (j + 1))) (runA (l.take (j + 1))).2 w_) := fun w_ h => Lib.hid (by rw [HZ.out]; exact h.out.st)
          clear hR hLR hsh
          obtain ⟨rp, rb⟩ := R
          have hiw : IntKind.i64.wrap ((j : Int) + 1) = (j : Int) + 1 := IntWalk.i64_in _ (by omega)
          have hI1 : (0 : Int) ≤ (j : Int) + 1 := by omega
          have hI3 : (j : Int) + 1 ≤ (c : Int) := by omega
          have hqc : j + 1 ≤ c := by omega
          go_upto_region 27 with fail
          clear hlk p0 p1 p2 p3 p4 p5 p6
          have HAd := Lib.hid (HA5.out.calm (w' := w5.drew) ((Below.refl _ _).drew))
          obtain ⟨p0, p1, p2, p3, p4, p5, p6⟩ := kcellsQ HAd.out.ka
          go_wp2_with fail
          go_region_held3 (fun w_ => w_.cell? ⟨gb, 0, none⟩ = some (.int .u16 a.k.v.toNat) ∧ w_.cell? ⟨gb, 1, none⟩ = some (.int .u8 a.k.m.a.toNat) ∧ w_.cell? ⟨gb, 2, none⟩ = some (.int .u8 a.k.m.b.toNat) ∧ w_.cell? ⟨gb, 3, none⟩ = some (.int .u8 a.k.m.c.toNat) ∧ w_.cell? ⟨gb, 4, none⟩ = some (.int .u8 a.k.m.d.toNat) ∧ w_.cell? ⟨gb, 5, none⟩ = some (.int .u8 a.k.m.e.toNat) ∧ w_.cell? ⟨gb, 6, none⟩ = some (.int .u8 a.k.m.f.toNat) ∧ Hid (FlA W t X4 (some ⟨ba, off, none⟩) l b ga gb a Z2 Z2.2 w_)) (go_keep)
            (first
              | (go_at_call 23; refine (HLR.out _ (by assumption)).mono ?_; rintro r_ w_ ⟨rfl, hb_⟩; have k9 : Hid (FlA W t X4 (some ⟨ba, off, none⟩) l b ga gb a Z2 Z2.2 w_) := Lib.hid (HAX _ _ (by assumption) hb_); obtain ⟨k0, k1, k2, k3, k4, k5, k6⟩ := kcellsQ k9.out.ka; clear hb_)
              | fail "no")
          all_goals (
            cases rb with
            | true =>
              obtain ⟨hB1, hP1, _⟩ := HLF.out
              obtain ⟨hP2, hp8⟩ := hP1 hB1
              have hpw : ((pow8 rp).toNat : Int) = ((2 ^ rp.toNat : Nat) : Int) := by rw [pow8_nat hp8]
              have hmin : min rp.toNat 8 = rp.toNat := Nat.min_eq_left (by omega)
              have hlt : (2 : Nat) ^ rp.toNat < 256 := Nat.lt_of_lt_of_le (Nat.pow_lt_pow_right (by decide) hp8) (by decide)
              have s1 : (((pow8 rp).toNat : Int) != (2 : Int) ^ min rp.toNat 8 % 256) = false := by
                have e3 : (2 : Int) ^ rp.toNat = ((2 ^ rp.toNat : Nat) : Int) := by push_cast; rfl
                rw [hmin, hpw, e3, bne_eq_false_iff_eq]
                omega
              have hB1 : B = true := hB1
              rw [hB1, hP2]
              clear hB1 hP1 hP2 hpw hmin hlt hp8 HLF
              go_wp2_with fail
              go_roundw
              case rel => exact ⟨j + 1, X4, by omega, by go_num, HAS _ (by assumption)⟩
              case measure => simp [intOf]; omega
            | false =>
              obtain ⟨hB1, _, hP1⟩ := HLF.out
              have hP2 := hP1 hB1
              have hB1 : B = false := hB1
              rw [hB1, hP2]
              clear hB1 hP1 hP2 HLF
              go_wp2_with fail
              go_roundw
              case rel => exact ⟨j + 1, X4, by omega, by go_num, HAS _ (by assumption)⟩
              case measure => simp [intOf]; omega)
      by_cases h1 : y = 1
      · have HSt := Lib.hid (stp1 (z := z) (d_is HY.out (by rw [h1]; rfl)))
        subst h1
        go_wp2_with fail
        refine (flush_db HA.out.st.db a.s).mono ?_
        rintro e w4 ⟨rfl, hd⟩
        obtain ⟨X4, hs4⟩ := HA.out.to (z' := stp z a) (by rw [HSt.out]; exact hd)
        have HA4 := Lib.hid hs4
        clear hd hs4 HA
        have HA := HA4
        clear HA4
        have HA4 := Lib.hid (show FlA W t X4 (some ⟨ba, off, none⟩) l b ga gb a (stp z a) (stp z a).2 w4 by have h := HA.out; rw [show z.2 = (stp z a).2 by rw [HSt.out]] at h; exact h)
        clear HA
        have HA := HA4
        clear HA4
        go_upto_region 22 with fail
        clear a0 a1 a2 a3 a4 a5 a6 a7 a8 a9
        obtain ⟨Z2, hZ2⟩ : ∃ Z2, Z2 = stp z a := ⟨_, rfl⟩
        rw [← hZ2] at HA HZ
        clear hZ2
        obtain ⟨a0, a1, a2, a3, a4, a5, a6, a7, a8, a9⟩ := HA.out.acells
        have HLO := Lib.hid (last_ok (l.take (j + 1)) a.k)
        rw [HZ.out] at HLO
        go_wp2_with fail
        refine (look_db HA.out.st.db a.k.v a.k.m).mono ?_
        rintro e w5 ⟨rfl, hg⟩
        have HA5 := Lib.hid (HA.out.calm hg.below)
        clear hg HA a0 a1 a2 a3 a4 a5 a6 a7 a8 a9
        obtain ⟨P, hP⟩ : ∃ P, lookP Z2.1 Z2.2 a.k = P := ⟨_, rfl⟩
        obtain ⟨B, hB⟩ : ∃ B, lookB Z2.1 Z2.2 a.k = B := ⟨_, rfl⟩
        have hP' : lookP Z2.1 Z2.2 ⟨a.k.v, a.k.m⟩ = P := hP
        have hB' : lookB Z2.1 Z2.2 ⟨a.k.v, a.k.m⟩ = B := hB
        rw [hP', hB']
        rw [hP, hB] at HLO
        have HPB := Lib.hid (And.intro hP hB)
        clear hP hB hP' hB'
        have HLK := Lib.hid (SVQ.run (mb := some b) HA5.out.st.mp a.k true)
        obtain ⟨p0, p1, p2, p3, p4, p5, p6⟩ := kcellsQ HA5.out.ka
        cases hsh : shas Z2.2 a.k with
        | true =>
          obtain ⟨x, hx⟩ : ∃ x, sget Z2.2 a.k = some x := by rw [shas_get] at hsh; exact Option.isSome_iff_exists.1 hsh
          have hlk := HLK.out
          rw [hsh, hx] at hlk
          simp only [if_true, Option.getD_some] at hlk
          have HE : Hid (P = x ∧ B = true) := Lib.hid ⟨by rw [← HPB.out.1]; unfold lookP; rw [hx], by rw [← HPB.out.2]; unfold lookB; rw [hsh]; rfl⟩
          rw [HE.out.1, HE.out.2]
          clear hsh hx
          go_wp2_with fail
          go_roundw
          case rel => exact ⟨j + 1, X4, by omega, by go_num, Lib.hid (by rw [HZ.out]; exact HA5.out.st)⟩
          case measure => simp [intOf]; omega
        | false =>
          have hlk := HLK.out
          rw [hsh, sget_none hsh] at hlk
          simp only [if_true, Option.getD_none] at hlk
          have HLF := Lib.hid (HLO.out hsh)
          have hlen : (l.take (j + 1)).length = j + 1 := by rw [List.length_take, HN.out]; omega
          rw [hlen] at HLF
          obtain ⟨R, hR⟩ : ∃ R, lscan (l.take (j + 1)) a.k (j + 1) 0 0 = R := ⟨_, rfl⟩
          rw [hR] at HLF
          have hLR : ∀ w_ : World, Hid (FlA W t X4 (some ⟨ba, off, none⟩) l b ga gb a Z2 Z2.2 w_) → Calls Try.prog 23 #[.slice (some ⟨ba, off, none⟩) (j + 1) c, kV a.k] w_ fun e w' => e = .returned (.tuple #[.int .u8 R.1.toNat, .bool R.2]) ∧ Below w_.heap.size w_ w' := fun w_ hw => by
            have := learnt_any w_ (some ⟨ba, off, none⟩) c (l.take (j + 1)) (els_take hw.out.st.el _) (by rw [hlen]; omega) (by rw [hlen]; omega) (fun _ a' e' => by cases e'; exact Nat.lt_of_lt_of_le (hw.out.st.na (by rw [HN.out]; omega) _ rfl) hw.out.st.bl.size) a.k
            rw [hlen, hR] at this
            exact this
          have HLR := Lib.hid hLR
          have HAX : ∀ (w_ w' : World), Hid (FlA W t X4 (some ⟨ba, off, none⟩) l b ga gb a Z2 Z2.2 w_) → Below w_.heap.size w_ w' → FlA W t X4 (some ⟨ba, off, none⟩) l b ga gb a Z2 Z2.2 w' := fun _ _ h hb => h.out.calm hb
          have HAS : ∀ w_ : World, Hid (FlA W t X4 (some ⟨ba, off, none⟩) l b ga gb a Z2 Z2.2 w_) → Hid (FlS W t X4 (some ⟨ba, off, none⟩) l b (runA (l.take (j + 1))) (runA (l.take (j + 1))).2 w_) := fun w_ h => Lib.hid (by rw [HZ.out]; exact h.out.st)
          clear hR hLR hsh
          obtain ⟨rp, rb⟩ := R
          have hiw : IntKind.i64.wrap ((j : Int) + 1) = (j : Int) + 1 := IntWalk.i64_in _ (by omega)
          have hI1 : (0 : Int) ≤ (j : Int) + 1 := by omega
          have hI3 : (j : Int) + 1 ≤ (c : Int) := by omega
          have hqc : j + 1 ≤ c := by omega
          go_upto_region 27 with fail
          clear hlk p0 p1 p2 p3 p4 p5 p6
          have HAd := Lib.hid (HA5.out.calm (w' := w5.drew) ((Below.refl _ _).drew))
          obtain ⟨p0, p1, p2, p3, p4, p5, p6⟩ := kcellsQ HAd.out.ka
          go_wp2_with fail
          go_region_held3 (fun w_ => w_.cell? ⟨gb, 0, none⟩ = some (.int .u16 a.k.v.toNat) ∧ w_.cell? ⟨gb, 1, none⟩ = some (.int .u8 a.k.m.a.toNat) ∧ w_.cell? ⟨gb, 2, none⟩ = some (.int .u8 a.k.m.b.toNat) ∧ w_.cell? ⟨gb, 3, none⟩ = some (.int .u8 a.k.m.c.toNat) ∧ w_.cell? ⟨gb, 4, none⟩ = some (.int .u8 a.k.m.d.toNat) ∧ w_.cell? ⟨gb, 5, none⟩ = some (.int .u8 a.k.m.e.toNat) ∧ w_.cell? ⟨gb, 6, none⟩ = some (.int .u8 a.k.m.f.toNat) ∧ Hid (FlA W t X4 (some ⟨ba, off, none⟩) l b ga gb a Z2 Z2.2 w_)) (go_keep)
            (first
              | (go_at_call 23; refine (HLR.out _ (by assumption)).mono ?_; rintro r_ w_ ⟨rfl, hb_⟩; have k9 : Hid (FlA W t X4 (some ⟨ba, off, none⟩) l b ga gb a Z2 Z2.2 w_) := Lib.hid (HAX _ _ (by assumption) hb_); obtain ⟨k0, k1, k2, k3, k4, k5, k6⟩ := kcellsQ k9.out.ka; clear hb_)
              | fail "no")
          all_goals (
            cases rb with
            | true =>
              obtain ⟨hB1, hP1, _⟩ := HLF.out
              obtain ⟨hP2, hp8⟩ := hP1 hB1
              have hpw : ((pow8 rp).toNat : Int) = ((2 ^ rp.toNat : Nat) : Int) := by rw [pow8_nat hp8]
              have hmin : min rp.toNat 8 = rp.toNat := Nat.min_eq_left (by omega)
              have hlt : (2 : Nat) ^ rp.toNat < 256 := Nat.lt_of_lt_of_le (Nat.pow_lt_pow_right (by decide) hp8) (by decide)
              have s1 : (((pow8 rp).toNat : Int) != (2 : Int) ^ min rp.toNat 8 % 256) = false := by
                have e3 : (2 : Int) ^ rp.toNat = ((2 ^ rp.toNat : Nat) : Int) := by push_cast; rfl
                rw [hmin, hpw, e3, bne_eq_false_iff_eq]
                omega
              have hB1 : B = true := hB1
              rw [hB1, hP2]
              clear hB1 hP1 hP2 hpw hmin hlt hp8 HLF
              go_wp2_with fail
              go_roundw
              case rel => exact ⟨j + 1, X4, by omega, by go_num, HAS _ (by assumption)⟩
              case measure => simp [intOf]; omega
            | false =>
              obtain ⟨hB1, _, hP1⟩ := HLF.out
              have hP2 := hP1 hB1
              have hB1 : B = false := hB1
              rw [hB1, hP2]
              clear hB1 hP1 hP2 HLF
              go_wp2_with fail
              go_roundw
              case rel => exact ⟨j + 1, X4, by omega, by go_num, HAS _ (by assumption)⟩
              case measure => simp [intOf]; omega)
      by_cases h2 : y = 2
      · have HSt := Lib.hid (stp2 (z := z) (d_is HY.out (by rw [h2]; rfl)))
        subst h2
        go_wp2_with fail
        refine (set_db HA.out.st.db a.k.v a.k.m a.s).mono ?_
        rintro e w4 ⟨rfl, hd⟩
        obtain ⟨X4, hs4⟩ := HA.out.to (z' := stp z a) (by rw [HSt.out]; exact hd)
        have HA4 := Lib.hid hs4
        clear hd hs4 HA
        have HA := HA4
        clear HA4
        clear a0 a1 a2 a3 a4 a5 a6 a7 a8 a9
        obtain ⟨a0, a1, a2, a3, a4, a5, a6, a7, a8, a9⟩ := HA.out.acells
        obtain ⟨p0, p1, p2, p3, p4, p5, p6⟩ := kcellsQ HA.out.ka
        obtain ⟨ee, hee⟩ : ∃ ee, sete z.2 ⟨a.k.v, a.k.m⟩ = ee := ⟨_, rfl⟩
        rw [hee]
        have hee' : sete z.2 a.k = ee := hee
        clear hee
        by_cases h00 : ee = 0
        · have hS2 : (stp z a).2 = sput z.2 a.k a.s := by
            rw [HSt.out]
            show setS z.2 a.k a.s = _
            unfold setS
            rw [if_pos (hee'.trans h00)]
          have HS2 := Lib.hid hS2
          obtain ⟨w8, hput, hm8, ht8⟩ := SmapQ.put HA.out.st.mp (by have := HST.out.2; unfold maxLen; omega) a.k a.s
          have HA8 : Hid (FlA W t X4 (some ⟨ba, off, none⟩) l b ga gb a (stp z a) (stp z a).2 w8) := Lib.hid (by rw [HS2.out]; exact HA.out.turn hm8 ht8)
          subst h00
          clear hS2 hm8 ht8 hee' HS2
          go_upto_region 22 with fail
          clear hput HA p0 p1 p2 p3 p4 p5 p6
          have HA := HA8
          clear HA8
          clear a0 a1 a2 a3 a4 a5 a6 a7 a8 a9
          obtain ⟨Z2, hZ2⟩ : ∃ Z2, Z2 = stp z a := ⟨_, rfl⟩
          rw [← hZ2] at HA HZ
          clear hZ2
          obtain ⟨a0, a1, a2, a3, a4, a5, a6, a7, a8, a9⟩ := HA.out.acells
          have HLO := Lib.hid (last_ok (l.take (j + 1)) a.k)
          rw [HZ.out] at HLO
          go_wp2_with fail
          refine (look_db HA.out.st.db a.k.v a.k.m).mono ?_
          rintro e w5 ⟨rfl, hg⟩
          have HA5 := Lib.hid (HA.out.calm hg.below)
          clear hg HA a0 a1 a2 a3 a4 a5 a6 a7 a8 a9
          obtain ⟨P, hP⟩ : ∃ P, lookP Z2.1 Z2.2 a.k = P := ⟨_, rfl⟩
          obtain ⟨B, hB⟩ : ∃ B, lookB Z2.1 Z2.2 a.k = B := ⟨_, rfl⟩
          have hP' : lookP Z2.1 Z2.2 ⟨a.k.v, a.k.m⟩ = P := hP
          have hB' : lookB Z2.1 Z2.2 ⟨a.k.v, a.k.m⟩ = B := hB
          rw [hP', hB']
          rw [hP, hB] at HLO
          have HPB := Lib.hid (And.intro hP hB)
          clear hP hB hP' hB'
          have HLK := Lib.hid (SVQ.run (mb := some b) HA5.out.st.mp a.k true)
          obtain ⟨p0, p1, p2, p3, p4, p5, p6⟩ := kcellsQ HA5.out.ka
          cases hsh : shas Z2.2 a.k with
          | true =>
            obtain ⟨x, hx⟩ : ∃ x, sget Z2.2 a.k = some x := by rw [shas_get] at hsh; exact Option.isSome_iff_exists.1 hsh
            have hlk := HLK.out
            rw [hsh, hx] at hlk
            simp only [if_true, Option.getD_some] at hlk
            have HE : Hid (P = x ∧ B = true) := Lib.hid ⟨by rw [← HPB.out.1]; unfold lookP; rw [hx], by rw [← HPB.out.2]; unfold lookB; rw [hsh]; rfl⟩
            rw [HE.out.1, HE.out.2]
            clear hsh hx
            go_wp2_with fail
            go_roundw
            case rel => exact ⟨j + 1, X4, by omega, by go_num, Lib.hid (by rw [HZ.out]; exact HA5.out.st)⟩
            case measure => simp [intOf]; omega
          | false =>
            have hlk := HLK.out
            rw [hsh, sget_none hsh] at hlk
            simp only [if_true, Option.getD_none] at hlk
            have HLF := Lib.hid (HLO.out hsh)
            have hlen : (l.take (j + 1)).length = j + 1 := by rw [List.length_take, HN.out]; omega
            rw [hlen] at HLF
            obtain ⟨R, hR⟩ : ∃ R, lscan (l.take (j + 1)) a.k (j + 1) 0 0 = R := ⟨_, rfl⟩
            rw [hR] at HLF
            have hLR : ∀ w_ : World, Hid (FlA W t X4 (some ⟨ba, off, none⟩) l b ga gb a Z2 Z2.2 w_) → Calls Try.prog 23 #[.slice (some ⟨ba, off, none⟩) (j + 1) c, kV a.k] w_ fun e w' => e = .returned (.tuple #[.int .u8 R.1.toNat, .bool R.2]) ∧ Below w_.heap.size w_ w' := fun w_ hw => by
              have := learnt_any w_ (some ⟨ba, off, none⟩) c (l.take (j + 1)) (els_take hw.out.st.el _) (by rw [hlen]; omega) (by rw [hlen]; omega) (fun _ a' e' => by cases e'; exact Nat.lt_of_lt_of_le (hw.out.st.na (by rw [HN.out]; omega) _ rfl) hw.out.st.bl.size) a.k
              rw [hlen, hR] at this
              exact this
            have HLR := Lib.hid hLR
            have HAX : ∀ (w_ w' : World), Hid (FlA W t X4 (some ⟨ba, off, none⟩) l b ga gb a Z2 Z2.2 w_) → Below w_.heap.size w_ w' → FlA W t X4 (some ⟨ba, off, none⟩) l b ga gb a Z2 Z2.2 w' := fun _ _ h hb => h.out.calm hb
            have HAS : ∀ w_ : World, Hid (FlA W t X4 (some ⟨ba, off, none⟩) l b ga gb a Z2 Z2.2 w_) → Hid (FlS W t X4 (some ⟨ba, off, none⟩) l b (runA (l.take (j + 1))) (runA (l.take (j + 1))).2 w_) := fun w_ h => Lib.hid (by rw [HZ.out]; exact h.out.st)
            clear hR hLR hsh
            obtain ⟨rp, rb⟩ := R
            have hiw : IntKind.i64.wrap ((j : Int) + 1) = (j : Int) + 1 := IntWalk.i64_in _ (by omega)
            have hI1 : (0 : Int) ≤ (j : Int) + 1 := by omega
            have hI3 : (j : Int) + 1 ≤ (c : Int) := by omega
            have hqc : j + 1 ≤ c := by omega
            go_upto_region 27 with fail
            clear hlk p0 p1 p2 p3 p4 p5 p6
            have HAd := Lib.hid (HA5.out.calm (w' := w5.drew) ((Below.refl _ _).drew))
            obtain ⟨p0, p1, p2, p3, p4, p5, p6⟩ := kcellsQ HAd.out.ka
            go_wp2_with fail
            go_region_held3 (fun w_ => w_.cell? ⟨gb, 0, none⟩ = some (.int .u16 a.k.v.toNat) ∧ w_.cell? ⟨gb, 1, none⟩ = some (.int .u8 a.k.m.a.toNat) ∧ w_.cell? ⟨gb, 2, none⟩ = some (.int .u8 a.k.m.b.toNat) ∧ w_.cell? ⟨gb, 3, none⟩ = some (.int .u8 a.k.m.c.toNat) ∧ w_.cell? ⟨gb, 4, none⟩ = some (.int .u8 a.k.m.d.toNat) ∧ w_.cell? ⟨gb, 5, none⟩ = some (.int .u8 a.k.m.e.toNat) ∧ w_.cell? ⟨gb, 6, none⟩ = some (.int .u8 a.k.m.f.toNat) ∧ Hid (FlA W t X4 (some ⟨ba, off, none⟩) l b ga gb a Z2 Z2.2 w_)) (go_keep)
              (first
                | (go_at_call 23; refine (HLR.out _ (by assumption)).mono ?_; rintro r_ w_ ⟨rfl, hb_⟩; have k9 : Hid (FlA W t X4 (some ⟨ba, off, none⟩) l b ga gb a Z2 Z2.2 w_) := Lib.hid (HAX _ _ (by assumption) hb_); obtain ⟨k0, k1, k2, k3, k4, k5, k6⟩ := kcellsQ k9.out.ka; clear hb_)
                | fail "no")
            all_goals (
              cases rb with
              | true =>
                obtain ⟨hB1, hP1, _⟩ := HLF.out
                obtain ⟨hP2, hp8⟩ := hP1 hB1
                have hpw : ((pow8 rp).toNat : Int) = ((2 ^ rp.toNat : Nat) : Int) := by rw [pow8_nat hp8]
                have hmin : min rp.toNat 8 = rp.toNat := Nat.min_eq_left (by omega)
                have hlt : (2 : Nat) ^ rp.toNat < 256 := Nat.lt_of_lt_of_le (Nat.pow_lt_pow_right (by decide) hp8) (by decide)
                have s1 : (((pow8 rp).toNat : Int) != (2 : Int) ^ min rp.toNat 8 % 256) = false := by
                  have e3 : (2 : Int) ^ rp.toNat = ((2 ^ rp.toNat : Nat) : Int) := by push_cast; rfl
                  rw [hmin, hpw, e3, bne_eq_false_iff_eq]
                  omega
                have hB1 : B = true := hB1
                rw [hB1, hP2]
                clear hB1 hP1 hP2 hpw hmin hlt hp8 HLF
                go_wp2_with fail
                go_roundw
                case rel => exact ⟨j + 1, X4, by omega, by go_num, HAS _ (by assumption)⟩
                case measure => simp [intOf]; omega
              | false =>
                obtain ⟨hB1, _, hP1⟩ := HLF.out
                have hP2 := hP1 hB1
                have hB1 : B = false := hB1
                rw [hB1, hP2]
                clear hB1 hP1 hP2 HLF
                go_wp2_with fail
                go_roundw
                case rel => exact ⟨j + 1, X4, by omega, by go_num, HAS _ (by assumption)⟩
                case measure => simp [intOf]; omega)
        · have hS2 : (stp z a).2 = z.2 := by
            rw [HSt.out]
            show setS z.2 a.k a.s = _
            unfold setS
            rw [if_neg (fun e => h00 (hee'.symm.trans e))]
          have HA8 : Hid (FlA W t X4 (some ⟨ba, off, none⟩) l b ga gb a (stp z a) (stp z a).2 w4) := Lib.hid (by rw [hS2]; exact HA.out)
          have hq0 : ((ee : Int) == 0) = false := beq_eq_false_iff_ne.2 (by omega)
          clear hS2 hee' h00 HA
          have HA := HA8
          clear HA8
          go_upto_region 22 with fail
          clear hq0 p0 p1 p2 p3 p4 p5 p6
          clear a0 a1 a2 a3 a4 a5 a6 a7 a8 a9
          obtain ⟨Z2, hZ2⟩ : ∃ Z2, Z2 = stp z a := ⟨_, rfl⟩
          rw [← hZ2] at HA HZ
          clear hZ2
          obtain ⟨a0, a1, a2, a3, a4, a5, a6, a7, a8, a9⟩ := HA.out.acells
          have HLO := Lib.hid (last_ok (l.take (j + 1)) a.k)
          rw [HZ.out] at HLO
          go_wp2_with fail
          refine (look_db HA.out.st.db a.k.v a.k.m).mono ?_
          rintro e w5 ⟨rfl, hg⟩
          have HA5 := Lib.hid (HA.out.calm hg.below)
          clear hg HA a0 a1 a2 a3 a4 a5 a6 a7 a8 a9
          obtain ⟨P, hP⟩ : ∃ P, lookP Z2.1 Z2.2 a.k = P := ⟨_, rfl⟩
          obtain ⟨B, hB⟩ : ∃ B, lookB Z2.1 Z2.2 a.k = B := ⟨_, rfl⟩
          have hP' : lookP Z2.1 Z2.2 ⟨a.k.v, a.k.m⟩ = P := hP
          have hB' : lookB Z2.1 Z2.2 ⟨a.k.v, a.k.m⟩ = B := hB
          rw [hP', hB']
          rw [hP, hB] at HLO
          have HPB := Lib.hid (And.intro hP hB)
          clear hP hB hP' hB'
          have HLK := Lib.hid (SVQ.run (mb := some b) HA5.out.st.mp a.k true)
          obtain ⟨p0, p1, p2, p3, p4, p5, p6⟩ := kcellsQ HA5.out.ka
          cases hsh : shas Z2.2 a.k with
          | true =>
            obtain ⟨x, hx⟩ : ∃ x, sget Z2.2 a.k = some x := by rw [shas_get] at hsh; exact Option.isSome_iff_exists.1 hsh
            have hlk := HLK.out
            rw [hsh, hx] at hlk
            simp only [if_true, Option.getD_some] at hlk
            have HE : Hid (P = x ∧ B = true) := Lib.hid ⟨by rw [← HPB.out.1]; unfold lookP; rw [hx], by rw [← HPB.out.2]; unfold lookB; rw [hsh]; rfl⟩
            rw [HE.out.1, HE.out.2]
            clear hsh hx
            go_wp2_with fail
            go_roundw
            case rel => exact ⟨j + 1, X4, by omega, by go_num, Lib.hid (by rw [HZ.out]; exact HA5.out.st)⟩
            case measure => simp [intOf]; omega
          | false =>
            have hlk := HLK.out
            rw [hsh, sget_none hsh] at hlk
            simp only [if_true, Option.getD_none] at hlk
            have HLF := Lib.hid (HLO.out hsh)
            have hlen : (l.take (j + 1)).length = j + 1 := by rw [List.length_take, HN.out]; omega
            rw [hlen] at HLF
            obtain ⟨R, hR⟩ : ∃ R, lscan (l.take (j + 1)) a.k (j + 1) 0 0 = R := ⟨_, rfl⟩
            rw [hR] at HLF
            have hLR : ∀ w_ : World, Hid (FlA W t X4 (some ⟨ba, off, none⟩) l b ga gb a Z2 Z2.2 w_) → Calls Try.prog 23 #[.slice (some ⟨ba, off, none⟩) (j + 1) c, kV a.k] w_ fun e w' => e = .returned (.tuple #[.int .u8 R.1.toNat, .bool R.2]) ∧ Below w_.heap.size w_ w' := fun w_ hw => by
              have := learnt_any w_ (some ⟨ba, off, none⟩) c (l.take (j + 1)) (els_take hw.out.st.el _) (by rw [hlen]; omega) (by rw [hlen]; omega) (fun _ a' e' => by cases e'; exact Nat.lt_of_lt_of_le (hw.out.st.na (by rw [HN.out]; omega) _ rfl) hw.out.st.bl.size) a.k
              rw [hlen, hR] at this
              exact this
            have HLR := Lib.hid hLR
            have HAX : ∀ (w_ w' : World), Hid (FlA W t X4 (some ⟨ba, off, none⟩) l b ga gb a Z2 Z2.2 w_) → Below w_.heap.size w_ w' → FlA W t X4 (some ⟨ba, off, none⟩) l b ga gb a Z2 Z2.2 w' := fun _ _ h hb => h.out.calm hb
            have HAS : ∀ w_ : World, Hid (FlA W t X4 (some ⟨ba, off, none⟩) l b ga gb a Z2 Z2.2 w_) → Hid (FlS W t X4 (some ⟨ba, off, none⟩) l b (runA (l.take (j + 1))) (runA (l.take (j + 1))).2 w_) := fun w_ h => Lib.hid (by rw [HZ.out]; exact h.out.st)
            clear hR hLR hsh
            obtain ⟨rp, rb⟩ := R
            have hiw : IntKind.i64.wrap ((j : Int) + 1) = (j : Int) + 1 := IntWalk.i64_in _ (by omega)
            have hI1 : (0 : Int) ≤ (j : Int) + 1 := by omega
            have hI3 : (j : Int) + 1 ≤ (c : Int) := by omega
            have hqc : j + 1 ≤ c := by omega
            go_upto_region 27 with fail
            clear hlk p0 p1 p2 p3 p4 p5 p6
            have HAd := Lib.hid (HA5.out.calm (w' := w5.drew) ((Below.refl _ _).drew))
            obtain ⟨p0, p1, p2, p3, p4, p5, p6⟩ := kcellsQ HAd.out.ka
            go_wp2_with fail
            go_region_held3 (fun w_ => w_.cell? ⟨gb, 0, none⟩ = some (.int .u16 a.k.v.toNat) ∧ w_.cell? ⟨gb, 1, none⟩ = some (.int .u8 a.k.m.a.toNat) ∧ w_.cell? ⟨gb, 2, none⟩ = some (.int .u8 a.k.m.b.toNat) ∧ w_.cell? ⟨gb, 3, none⟩ = some (.int .u8 a.k.m.c.toNat) ∧ w_.cell? ⟨gb, 4, none⟩ = some (.int .u8 a.k.m.d.toNat) ∧ w_.cell? ⟨gb, 5, none⟩ = some (.int .u8 a.k.m.e.toNat) ∧ w_.cell? ⟨gb, 6, none⟩ = some (.int .u8 a.k.m.f.toNat) ∧ Hid (FlA W t X4 (some ⟨ba, off, none⟩) l b ga gb a Z2 Z2.2 w_)) (go_keep)
              (first
                | (go_at_call 23; refine (HLR.out _ (by assumption)).mono ?_; rintro r_ w_ ⟨rfl, hb_⟩; have k9 : Hid (FlA W t X4 (some ⟨ba, off, none⟩) l b ga gb a Z2 Z2.2 w_) := Lib.hid (HAX _ _ (by assumption) hb_); obtain ⟨k0, k1, k2, k3, k4, k5, k6⟩ := kcellsQ k9.out.ka; clear hb_)
                | fail "no")
            all_goals (
              cases rb with
              | true =>
                obtain ⟨hB1, hP1, _⟩ := HLF.out
                obtain ⟨hP2, hp8⟩ := hP1 hB1
                have hpw : ((pow8 rp).toNat : Int) = ((2 ^ rp.toNat : Nat) : Int) := by rw [pow8_nat hp8]
                have hmin : min rp.toNat 8 = rp.toNat := Nat.min_eq_left (by omega)
                have hlt : (2 : Nat) ^ rp.toNat < 256 := Nat.lt_of_lt_of_le (Nat.pow_lt_pow_right (by decide) hp8) (by decide)
                have s1 : (((pow8 rp).toNat : Int) != (2 : Int) ^ min rp.toNat 8 % 256) = false := by
                  have e3 : (2 : Int) ^ rp.toNat = ((2 ^ rp.toNat : Nat) : Int) := by push_cast; rfl
                  rw [hmin, hpw, e3, bne_eq_false_iff_eq]
                  omega
                have hB1 : B = true := hB1
                rw [hB1, hP2]
                clear hB1 hP1 hP2 hpw hmin hlt hp8 HLF
                go_wp2_with fail
                go_roundw
                case rel => exact ⟨j + 1, X4, by omega, by go_num, HAS _ (by assumption)⟩
                case measure => simp [intOf]; omega
              | false =>
                obtain ⟨hB1, _, hP1⟩ := HLF.out
                have hP2 := hP1 hB1
                have hB1 : B = false := hB1
                rw [hB1, hP2]
                clear hB1 hP1 hP2 HLF
                go_wp2_with fail
                go_roundw
                case rel => exact ⟨j + 1, X4, by omega, by go_num, HAS _ (by assumption)⟩
                case measure => simp [intOf]; omega)
      by_cases h3 : y = 3
      · have HSt := Lib.hid (stp3 (z := z) (d_is HY.out (by rw [h3]; rfl)))
        subst h3
        go_wp2_with fail
        refine (drop_db HA.out.st.db a.k.v a.k.m).mono ?_
        rintro e w4 ⟨rfl, hd⟩
        obtain ⟨X4, hs4⟩ := HA.out.to (z' := stp z a) (by rw [HSt.out]; exact hd)
        have HA4 := Lib.hid hs4
        clear hd hs4 HA
        have HA := HA4
        clear HA4
        clear a0 a1 a2 a3 a4 a5 a6 a7 a8 a9
        obtain ⟨a0, a1, a2, a3, a4, a5, a6, a7, a8, a9⟩ := HA.out.acells
        obtain ⟨p0, p1, p2, p3, p4, p5, p6⟩ := kcellsQ HA.out.ka
        obtain ⟨ee, hee⟩ : ∃ ee, drope z.2 ⟨a.k.v, a.k.m⟩ = ee := ⟨_, rfl⟩
        rw [hee]
        have hee' : drope z.2 a.k = ee := hee
        clear hee
        by_cases h00 : ee = 0
        · have hS2 : (stp z a).2 = sdel z.2 a.k := by
            rw [HSt.out]
            show dropS z.2 a.k = _
            unfold dropS
            rw [if_pos (hee'.trans h00)]
          have HS2 := Lib.hid hS2
          obtain ⟨w8, hput, hm8, ht8⟩ := SmapQ.del HA.out.st.mp HST.out.1 a.k 0
          have HA8 : Hid (FlA W t X4 (some ⟨ba, off, none⟩) l b ga gb a (stp z a) (stp z a).2 w8) := Lib.hid (by rw [HS2.out]; exact HA.out.turn hm8 ht8)
          subst h00
          clear hS2 hm8 ht8 hee' HS2
          go_upto_region 22 with fail
          clear hput HA p0 p1 p2 p3 p4 p5 p6
          have HA := HA8
          clear HA8
          clear a0 a1 a2 a3 a4 a5 a6 a7 a8 a9
          obtain ⟨Z2, hZ2⟩ : ∃ Z2, Z2 = stp z a := ⟨_, rfl⟩
          rw [← hZ2] at HA HZ
          clear hZ2
          obtain ⟨a0, a1, a2, a3, a4, a5, a6, a7, a8, a9⟩ := HA.out.acells
          have HLO := Lib.hid (last_ok (l.take (j + 1)) a.k)
          rw [HZ.out] at HLO
          go_wp2_with fail
          refine (look_db HA.out.st.db a.k.v a.k.m).mono ?_
          rintro e w5 ⟨rfl, hg⟩
          have HA5 := Lib.hid (HA.out.calm hg.below)
          clear hg HA a0 a1 a2 a3 a4 a5 a6 a7 a8 a9
          obtain ⟨P, hP⟩ : ∃ P, lookP Z2.1 Z2.2 a.k = P := ⟨_, rfl⟩
          obtain ⟨B, hB⟩ : ∃ B, lookB Z2.1 Z2.2 a.k = B := ⟨_, rfl⟩
          have hP' : lookP Z2.1 Z2.2 ⟨a.k.v, a.k.m⟩ = P := hP
          have hB' : lookB Z2.1 Z2.2 ⟨a.k.v, a.k.m⟩ = B := hB
          rw [hP', hB']
          rw [hP, hB] at HLO
          have HPB := Lib.hid (And.intro hP hB)
          clear hP hB hP' hB'
          have HLK := Lib.hid (SVQ.run (mb := some b) HA5.out.st.mp a.k true)
          obtain ⟨p0, p1, p2, p3, p4, p5, p6⟩ := kcellsQ HA5.out.ka
          cases hsh : shas Z2.2 a.k with
          | true =>
            obtain ⟨x, hx⟩ : ∃ x, sget Z2.2 a.k = some x := by rw [shas_get] at hsh; exact Option.isSome_iff_exists.1 hsh
            have hlk := HLK.out
            rw [hsh, hx] at hlk
            simp only [if_true, Option.getD_some] at hlk
            have HE : Hid (P = x ∧ B = true) := Lib.hid ⟨by rw [← HPB.out.1]; unfold lookP; rw [hx], by rw [← HPB.out.2]; unfold lookB; rw [hsh]; rfl⟩
            rw [HE.out.1, HE.out.2]
            clear hsh hx
            go_wp2_with fail
            go_roundw
            case rel => exact ⟨j + 1, X4, by omega, by go_num, Lib.hid (by rw [HZ.out]; exact HA5.out.st)⟩
            case measure => simp [intOf]; omega
          | false =>
            have hlk := HLK.out
            rw [hsh, sget_none hsh] at hlk
            simp only [if_true, Option.getD_none] at hlk
            have HLF := Lib.hid (HLO.out hsh)
            have hlen : (l.take (j + 1)).length = j + 1 := by rw [List.length_take, HN.out]; omega
            rw [hlen] at HLF
            obtain ⟨R, hR⟩ : ∃ R, lscan (l.take (j + 1)) a.k (j + 1) 0 0 = R := ⟨_, rfl⟩
            rw [hR] at HLF
            have hLR : ∀ w_ : World, Hid (FlA W t X4 (some ⟨ba, off, none⟩) l b ga gb a Z2 Z2.2 w_) → Calls Try.prog 23 #[.slice (some ⟨ba, off, none⟩) (j + 1) c, kV a.k] w_ fun e w' => e = .returned (.tuple #[.int .u8 R.1.toNat, .bool R.2]) ∧ Below w_.heap.size w_ w' := fun w_ hw => by
              have := learnt_any w_ (some ⟨ba, off, none⟩) c (l.take (j + 1)) (els_take hw.out.st.el _) (by rw [hlen]; omega) (by rw [hlen]; omega) (fun _ a' e' => by cases e'; exact Nat.lt_of_lt_of_le (hw.out.st.na (by rw [HN.out]; omega) _ rfl) hw.out.st.bl.size) a.k
              rw [hlen, hR] at this
              exact this
            have HLR := Lib.hid hLR
            have HAX : ∀ (w_ w' : World), Hid (FlA W t X4 (some ⟨ba, off, none⟩) l b ga gb a Z2 Z2.2 w_) → Below w_.heap.size w_ w' → FlA W t X4 (some ⟨ba, off, none⟩) l b ga gb a Z2 Z2.2 w' := fun _ _ h hb => h.out.calm hb
            have HAS : ∀ w_ : World, Hid (FlA W t X4 (some ⟨ba, off, none⟩) l b ga gb a Z2 Z2.2 w_) → Hid (FlS W t X4 (some ⟨ba, off, none⟩) l b (runA (l.take (j + 1))) (runA (l.take (j + 1))).2 w_) := fun w_ h => Lib.hid (by rw [HZ.out]; exact h.out.st)
            clear hR hLR hsh
            obtain ⟨rp, rb⟩ := R
            have hiw : IntKind.i64.wrap ((j : Int) + 1) = (j : Int) + 1 := IntWalk.i64_in _ (by omega)
            have hI1 : (0 : Int) ≤ (j : Int) + 1 := by omega
            have hI3 : (j : Int) + 1 ≤ (c : Int) := by omega
            have hqc : j + 1 ≤ c := by omega
            go_upto_region 27 with fail
            clear hlk p0 p1 p2 p3 p4 p5 p6
            have HAd := Lib.hid (HA5.out.calm (w' := w5.drew) ((Below.refl _ _).drew))
            obtain ⟨p0, p1, p2, p3, p4, p5, p6⟩ := kcellsQ HAd.out.ka
            go_wp2_with fail
            go_region_held3 (fun w_ => w_.cell? ⟨gb, 0, none⟩ = some (.int .u16 a.k.v.toNat) ∧ w_.cell? ⟨gb, 1, none⟩ = some (.int .u8 a.k.m.a.toNat) ∧ w_.cell? ⟨gb, 2, none⟩ = some (.int .u8 a.k.m.b.toNat) ∧ w_.cell? ⟨gb, 3, none⟩ = some (.int .u8 a.k.m.c.toNat) ∧ w_.cell? ⟨gb, 4, none⟩ = some (.int .u8 a.k.m.d.toNat) ∧ w_.cell? ⟨gb, 5, none⟩ = some (.int .u8 a.k.m.e.toNat) ∧ w_.cell? ⟨gb, 6, none⟩ = some (.int .u8 a.k.m.f.toNat) ∧ Hid (FlA W t X4 (some ⟨ba, off, none⟩) l b ga gb a Z2 Z2.2 w_)) (go_keep)
              (first
                | (go_at_call 23; refine (HLR.out _ (by assumption)).mono ?_; rintro r_ w_ ⟨rfl, hb_⟩; have k9 : Hid (FlA W t X4 (some ⟨ba, off, none⟩) l b ga gb a Z2 Z2.2 w_) := Lib.hid (HAX _ _ (by assumption) hb_); obtain ⟨k0, k1, k2, k3, k4, k5, k6⟩ := kcellsQ k9.out.ka; clear hb_)
                | fail "no")
            all_goals (
              cases rb with
              | true =>
                obtain ⟨hB1, hP1, _⟩ := HLF.out
                obtain ⟨hP2, hp8⟩ := hP1 hB1
                have hpw : ((pow8 rp).toNat : Int) = ((2 ^ rp.toNat : Nat) : Int) := by rw [pow8_nat hp8]
                have hmin : min rp.toNat 8 = rp.toNat := Nat.min_eq_left (by omega)
                have hlt : (2 : Nat) ^ rp.toNat < 256 := Nat.lt_of_lt_of_le (Nat.pow_lt_pow_right (by decide) hp8) (by decide)
                have s1 : (((pow8 rp).toNat : Int) != (2 : Int) ^ min rp.toNat 8 % 256) = false := by
                  have e3 : (2 : Int) ^ rp.toNat = ((2 ^ rp.toNat : Nat) : Int) := by push_cast; rfl
                  rw [hmin, hpw, e3, bne_eq_false_iff_eq]
                  omega
                have hB1 : B = true := hB1
                rw [hB1, hP2]
                clear hB1 hP1 hP2 hpw hmin hlt hp8 HLF
                go_wp2_with fail
                go_roundw
                case rel => exact ⟨j + 1, X4, by omega, by go_num, HAS _ (by assumption)⟩
                case measure => simp [intOf]; omega
              | false =>
                obtain ⟨hB1, _, hP1⟩ := HLF.out
                have hP2 := hP1 hB1
                have hB1 : B = false := hB1
                rw [hB1, hP2]
                clear hB1 hP1 hP2 HLF
                go_wp2_with fail
                go_roundw
                case rel => exact ⟨j + 1, X4, by omega, by go_num, HAS _ (by assumption)⟩
                case measure => simp [intOf]; omega)
        · have hS2 : (stp z a).2 = z.2 := by
            rw [HSt.out]
            show dropS z.2 a.k = _
            unfold dropS
            rw [if_neg (fun e => h00 (hee'.symm.trans e))]
          have HA8 : Hid (FlA W t X4 (some ⟨ba, off, none⟩) l b ga gb a (stp z a) (stp z a).2 w4) := Lib.hid (by rw [hS2]; exact HA.out)
          have hq0 : ((ee : Int) == 0) = false := beq_eq_false_iff_ne.2 (by omega)
          clear hS2 hee' h00 HA
          have HA := HA8
          clear HA8
          go_upto_region 22 with fail
          clear hq0 p0 p1 p2 p3 p4 p5 p6
          clear a0 a1 a2 a3 a4 a5 a6 a7 a8 a9
          obtain ⟨Z2, hZ2⟩ : ∃ Z2, Z2 = stp z a := ⟨_, rfl⟩
          rw [← hZ2] at HA HZ
          clear hZ2
          obtain ⟨a0, a1, a2, a3, a4, a5, a6, a7, a8, a9⟩ := HA.out.acells
          have HLO := Lib.hid (last_ok (l.take (j + 1)) a.k)
          rw [HZ.out] at HLO
          go_wp2_with fail
          refine (look_db HA.out.st.db a.k.v a.k.m).mono ?_
          rintro e w5 ⟨rfl, hg⟩
          have HA5 := Lib.hid (HA.out.calm hg.below)
          clear hg HA a0 a1 a2 a3 a4 a5 a6 a7 a8 a9
          obtain ⟨P, hP⟩ : ∃ P, lookP Z2.1 Z2.2 a.k = P := ⟨_, rfl⟩
          obtain ⟨B, hB⟩ : ∃ B, lookB Z2.1 Z2.2 a.k = B := ⟨_, rfl⟩
          have hP' : lookP Z2.1 Z2.2 ⟨a.k.v, a.k.m⟩ = P := hP
          have hB' : lookB Z2.1 Z2.2 ⟨a.k.v, a.k.m⟩ = B := hB
          rw [hP', hB']
          rw [hP, hB] at HLO
          have HPB := Lib.hid (And.intro hP hB)
          clear hP hB hP' hB'
          have HLK := Lib.hid (SVQ.run (mb := some b) HA5.out.st.mp a.k true)
          obtain ⟨p0, p1, p2, p3, p4, p5, p6⟩ := kcellsQ HA5.out.ka
          cases hsh : shas Z2.2 a.k with
          | true =>
            obtain ⟨x, hx⟩ : ∃ x, sget Z2.2 a.k = some x := by rw [shas_get] at hsh; exact Option.isSome_iff_exists.1 hsh
            have hlk := HLK.out
            rw [hsh, hx] at hlk
            simp only [if_true, Option.getD_some] at hlk
            have HE : Hid (P = x ∧ B = true) := Lib.hid ⟨by rw [← HPB.out.1]; unfold lookP; rw [hx], by rw [← HPB.out.2]; unfold lookB; rw [hsh]; rfl⟩
            rw [HE.out.1, HE.out.2]
            clear hsh hx
            go_wp2_with fail
            go_roundw
            case rel => exact ⟨j + 1, X4, by omega, by go_num, Lib.hid (by rw [HZ.out]; exact HA5.out.st)⟩
            case measure => simp [intOf]; omega
          | false =>
            have hlk := HLK.out
            rw [hsh, sget_none hsh] at hlk
            simp only [if_true, Option.getD_none] at hlk
            have HLF := Lib.hid (HLO.out hsh)
            have hlen : (l.take (j + 1)).length = j + 1 := by rw [List.length_take, HN.out]; omega
            rw [hlen] at HLF
            obtain ⟨R, hR⟩ : ∃ R, lscan (l.take (j + 1)) a.k (j + 1) 0 0 = R := ⟨_, rfl⟩
            rw [hR] at HLF
            have hLR : ∀ w_ : World, Hid (FlA W t X4 (some ⟨ba, off, none⟩) l b ga gb a Z2 Z2.2 w_) → Calls Try.prog 23 #[.slice (some ⟨ba, off, none⟩) (j + 1) c, kV a.k] w_ fun e w' => e = .returned (.tuple #[.int .u8 R.1.toNat, .bool R.2]) ∧ Below w_.heap.size w_ w' := fun w_ hw => by
              have := learnt_any w_ (some ⟨ba, off, none⟩) c (l.take (j + 1)) (els_take hw.out.st.el _) (by rw [hlen]; omega) (by rw [hlen]; omega) (fun _ a' e' => by cases e'; exact Nat.lt_of_lt_of_le (hw.out.st.na (by rw [HN.out]; omega) _ rfl) hw.out.st.bl.size) a.k
              rw [hlen, hR] at this
              exact this
            have HLR := Lib.hid hLR
            have HAX : ∀ (w_ w' : World), Hid (FlA W t X4 (some ⟨ba, off, none⟩) l b ga gb a Z2 Z2.2 w_) → Below w_.heap.size w_ w' → FlA W t X4 (some ⟨ba, off, none⟩) l b ga gb a Z2 Z2.2 w' := fun _ _ h hb => h.out.calm hb
            have HAS : ∀ w_ : World, Hid (FlA W t X4 (some ⟨ba, off, none⟩) l b ga gb a Z2 Z2.2 w_) → Hid (FlS W t X4 (some ⟨ba, off, none⟩) l b (runA (l.take (j + 1))) (runA (l.take (j + 1))).2 w_) := fun w_ h => Lib.hid (by rw [HZ.out]; exact h.out.st)
            clear hR hLR hsh
            obtain ⟨rp, rb⟩ := R
            have hiw : IntKind.i64.wrap ((j : Int) + 1) = (j : Int) + 1 := IntWalk.i64_in _ (by omega)
            have hI1 : (0 : Int) ≤ (j : Int) + 1 := by omega
            have hI3 : (j : Int) + 1 ≤ (c : Int) := by omega
            have hqc : j + 1 ≤ c := by omega
            go_upto_region 27 with fail
            clear hlk p0 p1 p2 p3 p4 p5 p6
            have HAd := Lib.hid (HA5.out.calm (w' := w5.drew) ((Below.refl _ _).drew))
            obtain ⟨p0, p1, p2, p3, p4, p5, p6⟩ := kcellsQ HAd.out.ka
            go_wp2_with fail
            go_region_held3 (fun w_ => w_.cell? ⟨gb, 0, none⟩ = some (.int .u16 a.k.v.toNat) ∧ w_.cell? ⟨gb, 1, none⟩ = some (.int .u8 a.k.m.a.toNat) ∧ w_.cell? ⟨gb, 2, none⟩ = some (.int .u8 a.k.m.b.toNat) ∧ w_.cell? ⟨gb, 3, none⟩ = some (.int .u8 a.k.m.c.toNat) ∧ w_.cell? ⟨gb, 4, none⟩ = some (.int .u8 a.k.m.d.toNat) ∧ w_.cell? ⟨gb, 5, none⟩ = some (.int .u8 a.k.m.e.toNat) ∧ w_.cell? ⟨gb, 6, none⟩ = some (.int .u8 a.k.m.f.toNat) ∧ Hid (FlA W t X4 (some ⟨ba, off, none⟩) l b ga gb a Z2 Z2.2 w_)) (go_keep)
              (first
                | (go_at_call 23; refine (HLR.out _ (by assumption)).mono ?_; rintro r_ w_ ⟨rfl, hb_⟩; have k9 : Hid (FlA W t X4 (some ⟨ba, off, none⟩) l b ga gb a Z2 Z2.2 w_) := Lib.hid (HAX _ _ (by assumption) hb_); obtain ⟨k0, k1, k2, k3, k4, k5, k6⟩ := kcellsQ k9.out.ka; clear hb_)
                | fail "no")
            all_goals (
              cases rb with
              | true =>
                obtain ⟨hB1, hP1, _⟩ := HLF.out
                obtain ⟨hP2, hp8⟩ := hP1 hB1
                have hpw : ((pow8 rp).toNat : Int) = ((2 ^ rp.toNat : Nat) : Int) := by rw [pow8_nat hp8]
                have hmin : min rp.toNat 8 = rp.toNat := Nat.min_eq_left (by omega)
                have hlt : (2 : Nat) ^ rp.toNat < 256 := Nat.lt_of_lt_of_le (Nat.pow_lt_pow_right (by decide) hp8) (by decide)
                have s1 : (((pow8 rp).toNat : Int) != (2 : Int) ^ min rp.toNat 8 % 256) = false := by
                  have e3 : (2 : Int) ^ rp.toNat = ((2 ^ rp.toNat : Nat) : Int) := by push_cast; rfl
                  rw [hmin, hpw, e3, bne_eq_false_iff_eq]
                  omega
                have hB1 : B = true := hB1
                rw [hB1, hP2]
                clear hB1 hP1 hP2 hpw hmin hlt hp8 HLF
                go_wp2_with fail
                go_roundw
                case rel => exact ⟨j + 1, X4, by omega, by go_num, HAS _ (by assumption)⟩
                case measure => simp [intOf]; omega
              | false =>
                obtain ⟨hB1, _, hP1⟩ := HLF.out
                have hP2 := hP1 hB1
                have hB1 : B = false := hB1
                rw [hB1, hP2]
                clear hB1 hP1 hP2 HLF
                go_wp2_with fail
                go_roundw
                case rel => exact ⟨j + 1, X4, by omega, by go_num, HAS _ (by assumption)⟩
                case measure => simp [intOf]; omega)
      have HSt := Lib.hid (stp4 (z := z) (d_not (by rw [HY.out]; exact h0) rfl) (d_not (by rw [HY.out]; exact h1) rfl) (d_not (by rw [HY.out]; exact h2) rfl) (d_not (by rw [HY.out]; exact h3) rfl))
      have b0 : ((y : Int) == 0) = false := beq_eq_false_iff_ne.2 (by omega)
      have b1 : ((y : Int) == 1) = false := beq_eq_false_iff_ne.2 (by omega)
      have b2 : ((y : Int) == 2) = false := beq_eq_false_iff_ne.2 (by omega)
      have b3 : ((y : Int) == 3) = false := beq_eq_false_iff_ne.2 (by omega)
      clear h0 h1 h2 h3
      go_wp2_with fail
      refine (learn_db HA.out.st.db a.k.v a.k.m a.p).mono ?_
      rintro e w4 ⟨rfl, hd⟩
      obtain ⟨X4, hs4⟩ := HA.out.to (z' := stp z a) (by rw [HSt.out]; exact hd)
      have HA4 := Lib.hid hs4
      clear hd hs4 HA
      have HA := HA4
      clear HA4
      have HA4 := Lib.hid (show FlA W t X4 (some ⟨ba, off, none⟩) l b ga gb a (stp z a) (stp z a).2 w4 by have h := HA.out; rw [show z.2 = (stp z a).2 by rw [HSt.out]] at h; exact h)
      clear HA
      have HA := HA4
      clear HA4
      go_upto_region 22 with fail
      clear a0 a1 a2 a3 a4 a5 a6 a7 a8 a9
      obtain ⟨Z2, hZ2⟩ : ∃ Z2, Z2 = stp z a := ⟨_, rfl⟩
      rw [← hZ2] at HA HZ
      clear hZ2
      obtain ⟨a0, a1, a2, a3, a4, a5, a6, a7, a8, a9⟩ := HA.out.acells
      have HLO := Lib.hid (last_ok (l.take (j + 1)) a.k)
      rw [HZ.out] at HLO
      go_wp2_with fail
      refine (look_db HA.out.st.db a.k.v a.k.m).mono ?_
      rintro e w5 ⟨rfl, hg⟩
      have HA5 := Lib.hid (HA.out.calm hg.below)
      clear hg HA a0 a1 a2 a3 a4 a5 a6 a7 a8 a9
      obtain ⟨P, hP⟩ : ∃ P, lookP Z2.1 Z2.2 a.k = P := ⟨_, rfl⟩
      obtain ⟨B, hB⟩ : ∃ B, lookB Z2.1 Z2.2 a.k = B := ⟨_, rfl⟩
      have hP' : lookP Z2.1 Z2.2 ⟨a.k.v, a.k.m⟩ = P := hP
      have hB' : lookB Z2.1 Z2.2 ⟨a.k.v, a.k.m⟩ = B := hB
      rw [hP', hB']
      rw [hP, hB] at HLO
      have HPB := Lib.hid (And.intro hP hB)
      clear hP hB hP' hB'
      have HLK := Lib.hid (SVQ.run (mb := some b) HA5.out.st.mp a.k true)
      obtain ⟨p0, p1, p2, p3, p4, p5, p6⟩ := kcellsQ HA5.out.ka
      cases hsh : shas Z2.2 a.k with
      | true =>
        obtain ⟨x, hx⟩ : ∃ x, sget Z2.2 a.k = some x := by rw [shas_get] at hsh; exact Option.isSome_iff_exists.1 hsh
        have hlk := HLK.out
        rw [hsh, hx] at hlk
        simp only [if_true, Option.getD_some] at hlk
        have HE : Hid (P = x ∧ B = true) := Lib.hid ⟨by rw [← HPB.out.1]; unfold lookP; rw [hx], by rw [← HPB.out.2]; unfold lookB; rw [hsh]; rfl⟩
        rw [HE.out.1, HE.out.2]
        clear hsh hx
        go_wp2_with fail
        go_roundw
        case rel => exact ⟨j + 1, X4, by omega, by go_num, Lib.hid (by rw [HZ.out]; exact HA5.out.st)⟩
        case measure => simp [intOf]; omega
      | false =>
        have hlk := HLK.out
        rw [hsh, sget_none hsh] at hlk
        simp only [if_true, Option.getD_none] at hlk
        have HLF := Lib.hid (HLO.out hsh)
        have hlen : (l.take (j + 1)).length = j + 1 := by rw [List.length_take, HN.out]; omega
        rw [hlen] at HLF
        obtain ⟨R, hR⟩ : ∃ R, lscan (l.take (j + 1)) a.k (j + 1) 0 0 = R := ⟨_, rfl⟩
        rw [hR] at HLF
        have hLR : ∀ w_ : World, Hid (FlA W t X4 (some ⟨ba, off, none⟩) l b ga gb a Z2 Z2.2 w_) → Calls Try.prog 23 #[.slice (some ⟨ba, off, none⟩) (j + 1) c, kV a.k] w_ fun e w' => e = .returned (.tuple #[.int .u8 R.1.toNat, .bool R.2]) ∧ Below w_.heap.size w_ w' := fun w_ hw => by
          have := learnt_any w_ (some ⟨ba, off, none⟩) c (l.take (j + 1)) (els_take hw.out.st.el _) (by rw [hlen]; omega) (by rw [hlen]; omega) (fun _ a' e' => by cases e'; exact Nat.lt_of_lt_of_le (hw.out.st.na (by rw [HN.out]; omega) _ rfl) hw.out.st.bl.size) a.k
          rw [hlen, hR] at this
          exact this
        have HLR := Lib.hid hLR
        have HAX : ∀ (w_ w' : World), Hid (FlA W t X4 (some ⟨ba, off, none⟩) l b ga gb a Z2 Z2.2 w_) → Below w_.heap.size w_ w' → FlA W t X4 (some ⟨ba, off, none⟩) l b ga gb a Z2 Z2.2 w' := fun _ _ h hb => h.out.calm hb
        have HAS : ∀ w_ : World, Hid (FlA W t X4 (some ⟨ba, off, none⟩) l b ga gb a Z2 Z2.2 w_) → Hid (FlS W t X4 (some ⟨ba, off, none⟩) l b (runA (l.take (j + 1))) (runA (l.take (j + 1))).2 w_) := fun w_ h => Lib.hid (by rw [HZ.out]; exact h.out.st)
        clear hR hLR hsh
        obtain ⟨rp, rb⟩ := R
        have hiw : IntKind.i64.wrap ((j : Int) + 1) = (j : Int) + 1 := IntWalk.i64_in _ (by omega)
        have hI1 : (0 : Int) ≤ (j : Int) + 1 := by omega
        have hI3 : (j : Int) + 1 ≤ (c : Int) := by omega
        have hqc : j + 1 ≤ c := by omega
        go_upto_region 27 with fail
        clear hlk p0 p1 p2 p3 p4 p5 p6
        have HAd := Lib.hid (HA5.out.calm (w' := w5.drew) ((Below.refl _ _).drew))
        obtain ⟨p0, p1, p2, p3, p4, p5, p6⟩ := kcellsQ HAd.out.ka
        go_wp2_with fail
        go_region_held3 (fun w_ => w_.cell? ⟨gb, 0, none⟩ = some (.int .u16 a.k.v.toNat) ∧ w_.cell? ⟨gb, 1, none⟩ = some (.int .u8 a.k.m.a.toNat) ∧ w_.cell? ⟨gb, 2, none⟩ = some (.int .u8 a.k.m.b.toNat) ∧ w_.cell? ⟨gb, 3, none⟩ = some (.int .u8 a.k.m.c.toNat) ∧ w_.cell? ⟨gb, 4, none⟩ = some (.int .u8 a.k.m.d.toNat) ∧ w_.cell? ⟨gb, 5, none⟩ = some (.int .u8 a.k.m.e.toNat) ∧ w_.cell? ⟨gb, 6, none⟩ = some (.int .u8 a.k.m.f.toNat) ∧ Hid (FlA W t X4 (some ⟨ba, off, none⟩) l b ga gb a Z2 Z2.2 w_)) (go_keep)
          (first
            | (go_at_call 23; refine (HLR.out _ (by assumption)).mono ?_; rintro r_ w_ ⟨rfl, hb_⟩; have k9 : Hid (FlA W t X4 (some ⟨ba, off, none⟩) l b ga gb a Z2 Z2.2 w_) := Lib.hid (HAX _ _ (by assumption) hb_); obtain ⟨k0, k1, k2, k3, k4, k5, k6⟩ := kcellsQ k9.out.ka; clear hb_)
            | fail "no")
        all_goals (
          cases rb with
          | true =>
            obtain ⟨hB1, hP1, _⟩ := HLF.out
            obtain ⟨hP2, hp8⟩ := hP1 hB1
            have hpw : ((pow8 rp).toNat : Int) = ((2 ^ rp.toNat : Nat) : Int) := by rw [pow8_nat hp8]
            have hmin : min rp.toNat 8 = rp.toNat := Nat.min_eq_left (by omega)
            have hlt : (2 : Nat) ^ rp.toNat < 256 := Nat.lt_of_lt_of_le (Nat.pow_lt_pow_right (by decide) hp8) (by decide)
            have s1 : (((pow8 rp).toNat : Int) != (2 : Int) ^ min rp.toNat 8 % 256) = false := by
              have e3 : (2 : Int) ^ rp.toNat = ((2 ^ rp.toNat : Nat) : Int) := by push_cast; rfl
              rw [hmin, hpw, e3, bne_eq_false_iff_eq]
              omega
            have hB1 : B = true := hB1
            rw [hB1, hP2]
            clear hB1 hP1 hP2 hpw hmin hlt hp8 HLF
            go_wp2_with fail
            go_roundw
            case rel => exact ⟨j + 1, X4, by omega, by go_num, HAS _ (by assumption)⟩
            case measure => simp [intOf]; omega
          | false =>
            obtain ⟨hB1, _, hP1⟩ := HLF.out
            have hP2 := hP1 hB1
            have hB1 : B = false := hB1
            rw [hB1, hP2]
            clear hB1 hP1 hP2 HLF
            go_wp2_with fail
            go_roundw
            case rel => exact ⟨j + 1, X4, by omega, by go_num, HAS _ (by assumption)⟩
            case measure => simp [intOf]; omega)
    · obtain rfl : j = n := by omega
      have HT : Hid (l.take j = l) := Lib.hid (List.take_of_length_le (by rw [HN.out]; exact Nat.le_refl _))
      have HLN := Lib.hid (fun ty => SVQ.len (mb := some b) HK.out.mp ty)
      go_wp2_with fail
      refine (list_db HK.out.db).mono ?_
      rintro e w5 ⟨A5, c5, rfl, hE5, hb5⟩
      have HK5 := Lib.hid (HK.out.calm hb5)
      have hl32 := HK.out.db.l32
      obtain ⟨nl, hnl⟩ : ∃ m, (runA (l.take j)).1.length = m := ⟨_, rfl⟩
      rw [hnl] at hl32 ⊢
      have hlI : (nl : Int) ≤ 32 := by omega
      clear hE5 hb5 HK HLN hnl
      go_wp2_with fail
      refine (statics_db HK5.out.db).mono ?_
      rintro e w6 ⟨rfl, hg6⟩
      have HK6 := Lib.hid (HK5.out.calm hg6.below)
      have hln := fun ty => SVQ.len (mb := some b) HK6.out.mp ty
      clear hg6 HK5
      go_wp2_with fail
      refine (wakes_any _).mono ?_
      rintro e w7 ⟨rfl, hb⟩
      have HB7 := Lib.hid (HK6.out.bl.trans (hb.mono HK6.out.bl.size))
      clear hb HK6 hln
      go_wp2
      go_ret
      exact ⟨rfl, HB7.out⟩

set_option maxRecDepth 100000 in
set_option maxHeartbeats 4000000 in
theorem walk {H : Type} {enc : TypeId × Value → H} (W : World) (base : Nat) {v0 : Value} {d0 : DataW H} {p0 : List MemPlace}
    (o0 : Value.okWide Try.prog W .any base 22 v0) (h0 : DataW.Trod enc Try.prog W 0 (fun _ => true) true 22 v0 d0 p0) :
    Calls Try.prog 5 #[v0] W fun e w' => e = .returned (.bool true) ∧ Below W.heap.size W w' := by
  obtain ⟨A, c, l, rfl, hl, _, hna, hE⟩ := open_els 10 encA (fun _ => True) Try.underlying22 (e := 34) (by kernel_rfl) (by omega)
    (fun cs fuel x hl h => ac_trod Try.underlying34 ⟨rfl, rfl, rfl, rfl, rfl⟩ ⟨rfl, rfl, rfl, rfl, rfl⟩ (hl.trans (by kernel_rfl)) h) o0 h0
  exact last_law W A c l hE (open_cap Try.underlying22 h0) (fun h0 a ha => by obtain ⟨b, off, e, hlt, _⟩ := hE h0; rw [e] at ha; cases ha; exact hlt)

theorem own : ownKnob Try.prog.godebug = none := by kernel_rfl
theorem laidOut : laidOutB Try.prog = true := by kernel_rfl
set_option maxRecDepth 100000 in
theorem lifted (os : Os) (started : os.Started) (H : Type) (enc : TypeId × Value → H) :
    ReturnsInHanded {} Try.checked os 5 .any (Rows.fdbLastSpec.pre6 enc Try.prog Try.f5 Rows.fdbLastRow.domain false) (Rows.fdbLastSpec.post enc Try.prog Try.f5 false true false false) := by
  refine returnsInHanded_of_change (C := Try.checked) own started (by kernel_rfl) Try.func5
    (ChangeSpec.witness6 (enc := enc) (C := Try.checked) false ⟨#[], #[.slice none 0 0], []⟩ 8 (by kernel_rfl) (by kernel_rfl) (by kernel_rfl) (by kernel_rfl)) ?_
  intro W base args ds gs before hval0 hW hcnd _
  have hval : ∀ (j : Nat) t v, Try.f5.params[j]? = some t → args[j]? = some v → Value.okWide Try.prog W .any base t v := hval0
  have hW' := hW
  obtain ⟨p, q, hA0, hV, rfl, hfz, hnd⟩ := hW
  have hA : DataW.TrodAll enc Try.prog W 0 (fun _ => true) true Try.f5.params.toList args.toList ds p := hA0
  rw [Try.params5] at hA hval
  obtain ⟨v0, vs0, d0, ds0, p0, q0, hargs, rfl, rfl, h0, r0⟩ := trodAll_cons hA
  obtain ⟨rfl, rfl, rfl⟩ := trodAll_nil r0
  obtain rfl : args = #[v0] := by cases args; simp_all
  obtain ⟨rfl, rfl⟩ := trodVars_none hV
  have o0 := hval 0 22 v0 rfl rfl
  have lt0 : ∀ x ∈ p0, x.block < W.heap.size := by obtain ⟨m, hm⟩ := h0; exact DataW.trod_lt m _ _ _ hm
  clear hA0 hval0
  refine (walk W base o0 h0).mono fun e W' ⟨he, bel⟩ => ?_
  subst he
  exact ⟨_, rfl, _, _, _, [], _, [], hW', trodAll_mk1 (shut_bool Try.underlying4 _), (trodAll_cons_mk (Below.trod laidOut (by kernel_rfl) (of_decide_eq_true (by kernel_rfl)) h0 bel lt0) trodAll_mk0), rfl, bel.frame _, fun h => by cases h⟩

theorem over : Rows.fdbLastRow.holds Try.pinned (OpenSpec.ofChange Rows.fdbLastSpec) :=
  OpenClaim.holds_of_wide 5 Try.f5 rfl rfl rfl rfl rfl rfl rfl ⟨rfl, rfl, rfl, rfl, rfl⟩ rfl rfl rfl rfl rfl (by kernel_rfl) Try.func5 (by kernel_rfl)
    (of_decide_eq_true (by kernel_rfl)) (by unfold Func.isWrapper; first | (rw [if_pos (by decide +kernel)]; kernel_rfl) | (rw [if_neg (by decide +kernel)]; exact ⟨rfl, rfl⟩))
    (fun os started H enc _ => lifted os started H enc)

/-- THE STATEMENT -/
theorem proved : Rows.FdbLastSaid := over
end Go.Proofs.Ytlofaahckdfeiaa.fdbLast
