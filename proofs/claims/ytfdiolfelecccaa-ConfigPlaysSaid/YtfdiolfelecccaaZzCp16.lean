/- Layer 16: ConfigPlays's walk, over the bundle. -/
import Derived.Test.YtfdiolfelecccaaZzCq16
import Derived.Test.YtfdiolfelecccaaZzSame16
import Derived.Test.YtfdiolfelecccaaZz
import Derived.Deep.RegionHeld3
import Derived.Deep.DeepCutAuto
namespace Go.Proofs.Ytfdiolfelecccaa
open Go.RowKit
set_option linter.unusedVariables false
set_option linter.unusedSimpArgs false
set_option maxRecDepth 100000

theorem infoU16p : (Try.prog.info? 23).map (fun i => (i.zero, i.size, i.bytes)) = some (some (.int .u16 0), 1, 2) := by kernel_rfl
theorem u16c_lenp (x : UInt16) : (u16c x).length = 1 := rfl
theorem u16c_onep (x : UInt16) : ∀ u ∈ u16c x, u.oneCell' = true := by
  intro u hu
  simp only [u16c, List.mem_cons, List.not_mem_nil, or_false] at hu
  rw [hu]; rfl
/-- the blocks of a slice -/
def zb (A : Option Addr) : Nat → Prop := fun q => ∃ a, A = some a ∧ a.block = q
/-- a row of numbers of one's own: none, or a block -/
def OwnR (w : World) (A : Option Addr) (n : Nat) : Prop := n = 0 ∨ ∃ g cs, A = some ⟨g, 0, none⟩ ∧ Blk w g 23 cs ∧ n ≤ cs.size
theorem ownR_of {w : World} {base : Nat} {A : Option Addr} {n c : Nat} {l : List UInt16} (h : w.ownsRow base 23 1 (.slice A n c) n (l.flatMap u16c)) : OwnR w A n ∧ ∀ q, zb A q → base ≤ q ∧ q < w.heap.size := by
  rcases h.2 with ⟨hv, h0⟩ | ⟨g, cap, cur, hv, hb, hg, h1, h2, h3, h4⟩
  · simp only [Value.slice.injEq] at hv
    refine ⟨.inl h0, ?_⟩
    rintro q ⟨a, ha, _⟩
    rw [hv.1] at ha
    cases ha
  · simp only [Value.slice.injEq] at hv
    refine ⟨.inr ⟨g, cur, hv.1, hg, by omega⟩, ?_⟩
    rintro q ⟨a, ha, hq⟩
    rw [hv.1] at ha
    cases ha
    subst hq
    exact ⟨hb, (Array.getElem?_eq_some_iff.1 hg).1⟩
theorem ownR_chg {w w' : World} {A : Option Addr} {n : Nat} {S : Nat → Prop} (h : OwnR w A n) (hc : Chg S w w') (hn : ∀ q, zb A q → ¬ S q) : OwnR w' A n := by
  rcases h with h | ⟨g, cs, ha, hb, hl⟩
  · exact .inl h
  · exact .inr ⟨g, cs, ha, hb.chg hc (hn g ⟨_, ha, rfl⟩), hl⟩
theorem keep21 {W w w' : World} {gw bA oA k : Nat} {Tn : Tb} {X' : TbX} {y : AcX} (h0 : w.cell? ⟨gw, 0, none⟩ = some (.int .i64 (Tn.n : Int))) (h1 : w.cell? ⟨gw, 1, none⟩ = some (.slice X'.A Tn.A.length X'.ca)) (h2 : w.cell? ⟨gw, 2, none⟩ = some (.slice X'.E Tn.E.length X'.ce)) (h3 : w.cell? ⟨gw, 3, none⟩ = some (.slice X'.M Tn.M.length X'.cm)) (h4 : w.cell? ⟨bA, oA + k * 14 + 7, none⟩ = some (.int .i64 y.x.e.a)) (h5 : w.cell? ⟨bA, oA + k * 14 + 9, none⟩ = some (.int .u8 y.x.e.p.toNat)) (h6 : w.cell? ⟨bA, oA + k * 14 + 11, none⟩ = some (.int .u8 y.x.m.p.toNat)) (h7 : w.cell? ⟨bA, oA + k * 14 + 12, none⟩ = some (.int .u16 y.x.m.v.toNat)) (h8 : Hid (Below W.heap.size W w)) (hb : Below w.heap.size w w') :
    w'.cell? ⟨gw, 0, none⟩ = some (.int .i64 (Tn.n : Int)) ∧ w'.cell? ⟨gw, 1, none⟩ = some (.slice X'.A Tn.A.length X'.ca) ∧ w'.cell? ⟨gw, 2, none⟩ = some (.slice X'.E Tn.E.length X'.ce) ∧ w'.cell? ⟨gw, 3, none⟩ = some (.slice X'.M Tn.M.length X'.cm) ∧ w'.cell? ⟨bA, oA + k * 14 + 7, none⟩ = some (.int .i64 y.x.e.a) ∧ w'.cell? ⟨bA, oA + k * 14 + 9, none⟩ = some (.int .u8 y.x.e.p.toNat) ∧ w'.cell? ⟨bA, oA + k * 14 + 11, none⟩ = some (.int .u8 y.x.m.p.toNat) ∧ w'.cell? ⟨bA, oA + k * 14 + 12, none⟩ = some (.int .u16 y.x.m.v.toNat) ∧ Hid (Below W.heap.size W w') :=
  ⟨(hb.cell (World.block_lt_of_cell? w _ h0)).trans h0, (hb.cell (World.block_lt_of_cell? w _ h1)).trans h1, (hb.cell (World.block_lt_of_cell? w _ h2)).trans h2, (hb.cell (World.block_lt_of_cell? w _ h3)).trans h3, (hb.cell (World.block_lt_of_cell? w _ h4)).trans h4, (hb.cell (World.block_lt_of_cell? w _ h5)).trans h5, (hb.cell (World.block_lt_of_cell? w _ h6)).trans h6, (hb.cell (World.block_lt_of_cell? w _ h7)).trans h7, Lib.hid (h8.out.trans (hb.mono h8.out.size))⟩
set_option maxRecDepth 100000 in
set_option maxHeartbeats 16000000 in
theorem configplays_walk {R : (Nat → Prop) → World → Nat → Tb → Prop} (HH : CgI R) (w : World) (p0 : Int) (A : Option Addr) (c : Nat) (L : List AcX) (pp : UInt8) (vv : UInt16) (pl : Int) (hl : L.length ≤ maxLen) (hz : A = none → c = 0) (hq : ∀ y ∈ L, AcQ w y) (hE : Els 14 acE w A L) :
    Calls Try.prog 3 #[.int .i64 p0, .slice A L.length c, .int .u8 pp.toNat, .int .u16 vv.toNat, .int .i64 pl] w fun e w' => e = .returned (.bool true) ∧ Below w.heap.size w w' := by
  have H := Lib.hid HH
  have KW := Lib.hid (fun w => wakes16 HH w)
  have KG := Lib.hid (great16_any A c L w hE)
  have HQ := Lib.hid hq
  have HE := Lib.hid hE
  obtain ⟨n, hn⟩ : ∃ n, L.length = n := ⟨_, rfl⟩
  obtain ⟨gb, hgb⟩ : ∃ gb, grt L = gb := ⟨_, rfl⟩
  rw [hn, hgb] at KG
  have HN := Lib.hid hn
  rw [hn]
  have HGB := Lib.hid hgb
  clear HH hl hq hE hn hgb hz
  go_enter Try.func3, Try.ntmps3
  go_wp2_with fail
  refine KG.out.mono ?_
  rintro e_ w1 ⟨rfl, hb1⟩
  have HB1 := Lib.hid hb1
  clear hb1 KG
  cases gb
  case true =>
    go_wp2_with fail
    refine (KW.out _).mono ?_
    rintro e_ w2 ⟨rfl, hb2⟩
    have HB2 : Hid (Below w.heap.size w w2) := Lib.hid (HB1.out.trans (hb2.mono HB1.out.size))
    clear hb2 HB1
    go_wp2
    go_ret
    exact ⟨rfl, HB2.out⟩
  have HGN := Lib.hid (grt_no HGB.out)
  have hn60 : (n : Int) ≤ 60 := by have := HGN.out.1; have := HN.out; omega
  by_cases hp : 1 ≤ p0 ∧ p0 ≤ 8
  case neg =>
    have KB := Lib.hid (H.out.bad p0 w1 hp)
    by_cases h1 : p0 < 1
    · clear hp
      go_wp2_with fail
      refine KB.out.mono ?_
      rintro e_ w2 ⟨rfl, hb2⟩
      have HB2 : Hid (Below w.heap.size w w2) := Lib.hid (HB1.out.trans (hb2.mono HB1.out.size))
      clear hb2 HB1 KB
      go_wp2_with fail
      refine (KW.out _).mono ?_
      rintro e_ w3 ⟨rfl, hb3⟩
      have HB3 : Hid (Below w.heap.size w w3) := Lib.hid (HB2.out.trans (hb3.mono HB2.out.size))
      clear hb3 HB2
      go_wp2
      go_ret
      exact ⟨rfl, HB3.out⟩
    · have h8 : 8 < p0 := by omega
      clear hp
      go_wp2_with fail
      refine KB.out.mono ?_
      rintro e_ w2 ⟨rfl, hb2⟩
      have HB2 : Hid (Below w.heap.size w w2) := Lib.hid (HB1.out.trans (hb2.mono HB1.out.size))
      clear hb2 HB1 KB
      go_wp2_with fail
      refine (KW.out _).mono ?_
      rintro e_ w3 ⟨rfl, hb3⟩
      have HB3 : Hid (Below w.heap.size w w3) := Lib.hid (HB2.out.trans (hb3.mono HB2.out.size))
      clear hb3 HB2
      go_wp2
      go_ret
      exact ⟨rfl, HB3.out⟩
  obtain ⟨N, rfl⟩ : ∃ N : Nat, p0 = (N : Int) := ⟨p0.toNat, by omega⟩
  have KN := Lib.hid (H.out.new N w1 (by omega) (by omega))
  have hN1 : ¬ (N : Int) < 1 := by omega
  have hN8 : ¬ (8 : Int) < (N : Int) := by omega
  clear hp
  go_wp2_with fail
  refine KN.out.mono ?_
  rintro e_ w2 ⟨S0, b, rfl, hR2, hS2, hb2⟩
  have HB2 : Hid (Below w.heap.size w w2) := Lib.hid (HB1.out.trans (hb2.mono HB1.out.size))
  have HS2 : Hid (∀ j, S0 j → w.heap.size ≤ j) := Lib.hid (fun j hj => Nat.le_trans HB1.out.size (hS2 j hj))
  have HSL : Hid (∀ j, S0 j → j < w2.heap.size) := Lib.hid (H.out.lt _ _ _ _ hR2)
  have HR2 := Lib.hid hR2
  clear hb2 hR2 hS2 HB1 KN
  go_upto_region 9 with (fail)
  obtain ⟨w3, hw3⟩ : ∃ w3, w2.alloc (.cells #[.int .i64 (N : Int), .slice none 0 0, .slice none 0 0, .slice none 0 0] 34) = w3 := ⟨_, rfl⟩
  have hb3 : Below w2.heap.size w2 w3 := by rw [← hw3]; exact (Below.refl _ _).alloc (Nat.le_refl _) _
  have HB3 : Hid (Below w.heap.size w w3) := Lib.hid (HB2.out.trans (hb3.mono HB2.out.size))
  have HR3 := Lib.hid (H.out.next HR2.out hb3)
  obtain ⟨gw, hgw⟩ : ∃ gw, w2.heap.size = gw := ⟨_, rfl⟩
  have HW3 : Hid (Blk w3 gw 34 (TbC ⟨N, [], [], []⟩ ⟨[], none, 0, none, 0, none, 0⟩)) := Lib.hid (by rw [← hw3, ← hgw]; exact Blk.new _ _ _)
  have HT3 : Hid (TbD w3 ⟨N, [], [], []⟩ ⟨[], none, 0, none, 0, none, 0⟩) := Lib.hid ⟨rfl, fun h => absurd h (by simp), by simp, fun h => absurd h (by simp), fun h => absurd h (by simp), fun _ => rfl, fun _ => rfl, fun _ => rfl⟩
  have HX3 : Hid (SepX w3.heap.size w.heap.size S0 ⟨[], none, 0, none, 0, none, 0⟩) := Lib.hid ⟨fun a h => (by cases h), fun a h => (by cases h), fun a h => (by cases h), fun x h => (by cases h)⟩
  have HGW3 : Hid (w.heap.size ≤ gw ∧ ¬ S0 gw) := Lib.hid ⟨by rw [← hgw]; exact HB2.out.size, fun h => by have := HSL.out _ h; omega⟩
  clear hb3 HB2 HR2 HSL
  rw [hw3, hgw]
  clear hw3 hgw
  go_wp2_with fail
  go_loopw [14] (fun i wr => ∃ (k : Nat) (T : Tb) (S : Nat → Prop) (X : TbX), k ≤ n ∧ i = .int .i64 k ∧ Hid (R S wr b T) ∧ Hid (Sm T k) ∧ Hid (∀ j, S j → w.heap.size ≤ j) ∧ Hid (Below w.heap.size w wr) ∧ Hid (Blk wr gw 34 (TbC T X)) ∧ Hid (TbD wr T X) ∧ Hid (SepX wr.heap.size w.heap.size S X) ∧ Hid (w.heap.size ≤ gw ∧ ¬ S gw)) (fun i _ => n - (intOf i).toNat)
  case atStart => exact ⟨0, _, S0, _, Nat.zero_le _, rfl, HR3, Lib.hid ⟨Nat.le_refl _, Nat.le_refl _, Nat.le_refl _⟩, HS2, HB3, HW3, HT3, HX3, HGW3⟩
  case round =>
    obtain ⟨k, T, S, X, hk, rfl, HR, HSM, HSW, HB, HW, HT, HX, HGW⟩ := hrel
    by_cases hlt : k < n
    · have hki : (k : Int) < (n : Int) := by omega
      obtain ⟨y, hy⟩ : ∃ y, L[k]? = some y := ⟨_, List.getElem?_eq_getElem (by rw [HN.out]; exact hlt)⟩
      have HY := Lib.hid hy
      have HYG := Lib.hid (HGN.out.2 y (List.mem_of_getElem? hy))
      have HYQ := Lib.hid (HQ.out y (List.mem_of_getElem? hy))
      have HLT := Lib.hid hlt
      have HK60 : Hid (k < 60) := Lib.hid (by have := HGN.out.1; have := HN.out; omega)
      have HS1000 : Hid (Sm T 1000) := Lib.hid ⟨by have := HSM.out.1; have := HK60.out; omega, by have := HSM.out.2.1; have := HK60.out; omega, by have := HSM.out.2.2; have := HK60.out; omega⟩
      obtain ⟨bA, oA, rfl, hltA, a0, a1, a2, a3, a4, a5, a6, a7, a8, a9, a10, a11, a12, a13⟩ := ac_at (HE.out.next HB.out) HY.out
      have hnmz : (y.x.a.m.length : Int) ≤ 20 := by have := HYG.out.1; omega
      obtain ⟨wo, hwo⟩ : ∃ wo, wo = wr := ⟨_, rfl⟩
      subst hwo
      obtain ⟨w4, hw4⟩ : ∃ w4, wo.alloc (.cells #[.int .u8 y.x.k.toNat, .int .u8 y.x.a.l.toNat, .string ⟨y.x.a.d.toArray⟩, .string ⟨y.x.a.n.toArray⟩, .int .u16 y.x.a.v.toNat, .int .u8 y.x.a.i.toNat, .slice y.B y.x.a.m.length y.c, .int .i64 y.x.e.a, .int .u16 y.x.e.m.toNat, .int .u8 y.x.e.p.toNat, .bool y.x.e.u, .int .u8 y.x.m.p.toNat, .int .u16 y.x.m.v.toNat, .int .u8 y.x.m.l.toNat] 43) = w4 := ⟨_, rfl⟩
      have hb4 : Below wo.heap.size wo w4 := by rw [← hw4]; exact (Below.refl _ _).alloc (Nat.le_refl _) _
      obtain ⟨go, hgo⟩ : ∃ go, wo.heap.size = go := ⟨_, rfl⟩
      have HO4 : Hid (Blk w4 go 43 #[.int .u8 y.x.k.toNat, .int .u8 y.x.a.l.toNat, .string ⟨y.x.a.d.toArray⟩, .string ⟨y.x.a.n.toArray⟩, .int .u16 y.x.a.v.toNat, .int .u8 y.x.a.i.toNat, .slice y.B y.x.a.m.length y.c, .int .i64 y.x.e.a, .int .u16 y.x.e.m.toNat, .int .u8 y.x.e.p.toNat, .bool y.x.e.u, .int .u8 y.x.m.p.toNat, .int .u16 y.x.m.v.toNat, .int .u8 y.x.m.l.toNat]) := Lib.hid (by rw [← hw4, ← hgo]; exact Blk.new _ _ _)
      have HB4 := Lib.hid hb4
      have HGO := Lib.hid hgo
      have HEM : Hid (Els 1 u16c w4 y.B y.x.a.m) := Lib.hid ((HYQ.out.next (HB.out.trans (hb4.mono HB.out.size))).1)
      obtain ⟨i0, hi⟩ := info_parts infoU16p
      have HI := Lib.hid hi
      have o6 := HO4.out.cell 6
      simp only [List.getElem?_toArray, List.getElem?_cons_succ, List.getElem?_cons_zero] at o6
      have fo := HO4.out.frozen 6
      clear hy hlt hb4 hi hltA
      go_upto_region 13 with (fail)
      try rw [hw4]
      try rw [hgo]
      clear hw4 hgo a0 a1 a2 a3 a4 a5 a6 a7 a8 a9 a10 a11 a12 a13
      go_upto_region 14 with (first | (at_builtin; refine wpl_appL rfl (.const (.slice none 0 0)) (.tmp 65) 35 rfl u16c_lenp u16c_onep (by decide) w4.heap.size 23 i0 (.int .u16 0) 2 Try.underlying35 HI.out rfl (.slice none 0 0) [] rfl (World.ownsRow_nil _ _ _ _) y.B y.x.a.m.length y.c y.x.a.m rfl rfl HYQ.out.2.2 HEM.out (by have := HYG.out.1; simp; omega) (by omega) (Nat.le_refl _) ?_; intro v5 w5 ho5 hg5 _; rw [List.nil_append] at ho5; obtain ⟨A4, c4, hv5, hE5, _, hz5, _⟩ := own_fullL u16c_lenp ho5; subst hv5; have hb5 : Below w4.heap.size w4 w5 := (Below.refl _ _).grown hg5 (Nat.le_refl _) (fun k hk => by cases hk); have HOW := Lib.hid (ownR_of ho5); have HE5 := Lib.hid (And.intro hE5 hz5); have HG5 := Lib.hid hb5; have HO5 := Lib.hid (HO4.out.below hb5 HO4.out.lt); have s6 := HO5.out.cell 6; have f6 := HO5.out.frozen 6; simp only [List.getElem?_toArray, List.getElem?_cons_succ, List.getElem?_cons_zero] at s6; clear ho5 hg5 hE5 hz5 hb5 o6 fo) | fail)
      obtain ⟨w6, hw6⟩ : ∃ w6, w5.setCell ⟨go, 6, none⟩ (.slice A4 y.x.a.m.length c4) = w6 := ⟨_, rfl⟩
      rw [hw6]
      have hb46 : Below wo.heap.size wo w6 := by
        rw [← hw6]
        exact (HB4.out.trans (HG5.out.mono HB4.out.size)).setCell (p := ⟨go, 6, none⟩) (Nat.le_of_eq HGO.out) _
      have HOW6 : Hid (Blk w6 go 43 #[.int .u8 y.x.k.toNat, .int .u8 y.x.a.l.toNat, .string ⟨y.x.a.d.toArray⟩, .string ⟨y.x.a.n.toArray⟩, .int .u16 y.x.a.v.toNat, .int .u8 y.x.a.i.toNat, .slice A4 y.x.a.m.length c4, .int .i64 y.x.e.a, .int .u16 y.x.e.m.toNat, .int .u8 y.x.e.p.toNat, .bool y.x.e.u, .int .u8 y.x.m.p.toNat, .int .u16 y.x.m.v.toNat, .int .u8 y.x.m.l.toNat]) := Lib.hid (by
        have := HO5.out.put 6 (.slice A4 y.x.a.m.length c4)
        rw [hw6] at this
        simpa using this)
      have hs6 : w6.heap.size = w5.heap.size := by rw [← hw6]; simp [World.setCell]
      have hc6 : Chg (fun q => q = go) w5 w6 := by rw [← hw6]; exact (Chg.refl (fun q => q = go) w5).setCell (p := ⟨go, 6, none⟩) (.inr rfl) _
      have hgo4 : go < w4.heap.size := HO4.out.lt
      have HZB : Hid (∀ q, zb A4 q → wo.heap.size ≤ q ∧ q ≠ go ∧ q < w6.heap.size) := Lib.hid (fun q hq => by
        have h1 := HOW.out.2 q hq
        have := HB4.out.size
        refine ⟨by omega, by omega, by omega⟩)
      have HOR6 : Hid (OwnR w6 A4 y.x.a.m.length) := Lib.hid (ownR_chg HOW.out.1 hc6 (fun q hq e => by have := (HZB.out q hq).2.1; exact this e))
      have HE6 : Hid (Els 1 u16c w6 A4 y.x.a.m) := Lib.hid (elsL_chg HE5.out.1 hc6 (fun a ha e => by have := (HZB.out a.block ⟨a, ha, rfl⟩).2.1; exact this e))
      have HB6 : Hid (Below w.heap.size w w6) := Lib.hid (HB.out.trans (hb46.mono HB.out.size))
      have HR6 := Lib.hid (H.out.next HR.out hb46)
      have HW6 := Lib.hid (HW.out.below hb46 HW.out.lt)
      have HT6 := Lib.hid (HT.out.next hb46)
      have HX6 : Hid (SepX wo.heap.size w.heap.size (fun q => S q ∨ zb A4 q) X) := Lib.hid (sep_mono HX.out (Nat.le_refl _) (fun q hq h => h.elim id (fun hz => by have := (HZB.out q hz).1; omega)))
      have HS6 : Hid (wo.heap.size ≤ w6.heap.size ∧ wo.heap.size ≤ go ∧ go < w6.heap.size ∧ gw < wo.heap.size ∧ ∀ q, S q → q < wo.heap.size) := Lib.hid ⟨hb46.size, Nat.le_of_eq HGO.out, HOW6.out.lt, HW.out.lt, H.out.lt _ _ _ _ HR.out⟩
      have KD := Lib.hid (does16_any H.out S w6 b T y.x A4 c4 HR6.out HS1000.out HE6.out HE5.out.2 (by have := HYG.out; omega) (by have := HYG.out; omega) (by have := HYG.out; omega))
      have o0 := HOW6.out.cell 0
      have o1 := HOW6.out.cell 1
      have o2 := HOW6.out.cell 2
      have o3 := HOW6.out.cell 3
      have o4 := HOW6.out.cell 4
      have o5 := HOW6.out.cell 5
      have o6 := HOW6.out.cell 6
      have o7 := HOW6.out.cell 7
      have o8 := HOW6.out.cell 8
      have o9 := HOW6.out.cell 9
      have o10 := HOW6.out.cell 10
      have o11 := HOW6.out.cell 11
      have o12 := HOW6.out.cell 12
      have o13 := HOW6.out.cell 13
      simp only [List.getElem?_toArray, List.getElem?_cons_succ, List.getElem?_cons_zero] at o0 o1 o2 o3 o4 o5 o6 o7 o8 o9 o10 o11 o12 o13
      clear hw6 hb46 hs6 hc6 hgo4 HO4 HO5 HB4 HG5 HGO HEM HI HB HR HW HT HE5 HE6 HOW
      go_wp2_with fail
      refine KD.out.mono ?_
      rintro e_ w7 ⟨S7, rfl, hr7, hs7⟩
      have HB7 : Hid (Below w.heap.size w w7) := Lib.hid (step_below HB6.out hs7 (Nat.le_refl _) HSW.out)
      have HSW7 : Hid (∀ j, S7 j → w.heap.size ≤ j) := Lib.hid (fun j hj => by
        rcases hs7.own j hj with h | h
        · exact HSW.out j h
        · exact Nat.le_trans HB6.out.size h)
      have hno : ∀ q, q < w6.heap.size → ¬ S q → ¬ S7 q := fun q h1 h2 h3 => by
        rcases hs7.own q h3 with h | h
        · exact h2 h
        · omega
      have HO7 := Lib.hid (HOW6.out.chg hs7.chg (fun h => by have := HS6.out.2.2.2.2 _ h; have := HS6.out.2.1; omega))
      have HW7 := Lib.hid (HW6.out.chg hs7.chg HGW.out.2)
      have HT7 := Lib.hid (tbd_chg HT6.out hs7.chg HX.out HSW.out)
      have HOR7 := Lib.hid (ownR_chg HOR6.out hs7.chg (fun q hq h => by have := HS6.out.2.2.2.2 _ h; have := (HZB.out q hq).1; omega))
      have HX7 : Hid (SepX w7.heap.size w.heap.size (fun q => S7 q ∨ zb A4 q) X) := Lib.hid (sep_mono HX6.out (Nat.le_trans HS6.out.1 hs7.chg.size) (fun q hq h => h.elim (fun h => by
        rcases hs7.own q h with h | h
        · exact .inl h
        · have := HS6.out.1; omega) .inr))
      have HGW7 : Hid (w.heap.size ≤ gw ∧ ¬ S7 gw) := Lib.hid ⟨HGW.out.1, hno gw (by have := HS6.out; omega) HGW.out.2⟩
      have HZS : Hid (∀ q, zb A4 q → ¬ S7 q ∧ q ≠ gw ∧ q ≠ go ∧ q < w7.heap.size ∧ w.heap.size ≤ q) := Lib.hid (fun q hq => by
        have h1 := HZB.out q hq
        have h2 := HS6.out
        have h3 := hs7.chg.size
        refine ⟨hno q h1.2.2 (fun h => by have := h2.2.2.2.2 _ h; omega), by omega, h1.2.1, by omega, ?_⟩
        have := HGW.out.1
        omega)
      have HGO7 : Hid (¬ S7 go ∧ w.heap.size ≤ go ∧ go ≠ gw) := Lib.hid ⟨hno go HS6.out.2.2.1 (fun h => by have := HS6.out.2.2.2.2 _ h; have := HS6.out.2.1; omega), by have := HS6.out; have := HGW.out.1; omega, by have := HS6.out; omega⟩
      have HR7 := Lib.hid hr7
      have HSM7 := Lib.hid (act_len T y.x k HSM.out)
      have HSL7 : Hid (∀ q, S7 q → q < w7.heap.size) := Lib.hid (H.out.lt _ _ _ _ hr7)
      have HIT : Hid (TbInv (T.act y.x).1) := Lib.hid (H.out.inv _ _ _ _ hr7)
      have HI0 : Hid (TbInv T) := Lib.hid (H.out.inv _ _ _ _ HR6.out)
      clear hr7 hs7 hno KD HR6 HB6 HW6 HT6 HX6 HS6 HOW6 HOR6 HZB HSM HSW HGW HX o0 o1 o2 o3 o4 o5 o6 o7 o8 o9 o10 o11 o12 o13
      have HB70 := Lib.hid (Below.refl w7.heap.size w7)
      obtain ⟨_, _, hAA, hltA, a0, a1, a2, a3, a4, a5, a6, a7, a8, a9, a10, a11, a12, a13⟩ := ac_at (HE.out.next HB7.out) HY.out
      cases hAA
      have KSy := Lib.hid (fun w_ (h : Below w7.heap.size w7 w_) => says16_loc T X y.x y.B y.c w_ (HT7.out.next h) HI0.out HS1000.out ((HYQ.out.next (HB7.out.trans (h.mono HB7.out.size))).1) (by have := HYG.out; omega) (by have := HYG.out; omega))
      obtain ⟨Tn, hTn⟩ : ∃ Tn, (T.act y.x).1 = Tn := ⟨_, rfl⟩
      obtain ⟨an, han⟩ : ∃ an, (T.act y.x).2.1 = an := ⟨_, rfl⟩
      obtain ⟨fn, hfn⟩ : ∃ fn, (T.act y.x).2.2 = fn := ⟨_, rfl⟩
      rw [hTn] at HR7 HSM7 HIT
      simp only [hTn, han, hfn] at KSy
      rw [han, hfn]
      clear hTn han hfn
      go_upto_region 15 with (fail)
      go_cut [18, 19, 20] (fun x18 x19 x20 wx => ∃ gn X', x18 = .pointer (some ⟨gn, 0, none⟩) ∧ x19 = .int .i64 (an : Nat) ∧ x20 = .int .i64 (fn : Nat) ∧ Hid (Blk wx gn 34 #[.int .i64 (Tn.n : Int), .slice X'.A Tn.A.length X'.ca, .slice X'.E Tn.E.length X'.ce, .slice X'.M Tn.M.length X'.cm]) ∧ Hid (TbD wx Tn X') ∧ Hid (Below w7.heap.size w7 wx) ∧ Hid (XTo w7.heap.size wx.heap.size ⟨y.x.a, y.B, y.c⟩ X X') ∧ Hid (w7.heap.size ≤ gn))
      case first =>
        refine wp_region_noPanic ?_
        refine wp_region_held_drew (S := fun w_ => Below w7.heap.size w7 w_) (by kernel_rfl) (Below.refl _ w7).drew (fun hHeld => ?_)
        refine wpAnyH_take (i := 0) (v := .agg #[.int .i64 (T.n : Int), .slice X.A T.A.length X.ca, .slice X.E T.E.length X.ce, .slice X.M T.M.length X.cm]) rfl (by kernel_rfl) (by kernel_rfl) (by kernel_rfl) (fun _ _ _ h => h) (yieldsIf_rowH 34 13 rfl (by rfl) gw rfl 34 _ _ (fun w_ hw => (HW7.out.below hw HW7.out.lt)) Try.underlying34 rfl (by kernel_rfl)) hHeld ?_
        try simp only [Act.put, List.getElem_toArray, List.getElem_cons_succ, List.getElem_cons_zero, List.setIfInBounds_toArray, List.set_cons_zero, List.set_cons_succ]
        refine wpAnyH_take (i := 1) (v := ?v1) rfl (by kernel_rfl) (by kernel_rfl) (by kernel_rfl) (fun _ _ _ h => h) (Or.inl ⟨by rfl, ?hy1⟩) hHeld ?rest1
        case hy1 =>
          intro w_ hSw; go_simp
          all_goals (with_reducible rfl)
        try simp only [Act.put, List.getElem_toArray, List.getElem_cons_succ, List.getElem_cons_zero, List.setIfInBounds_toArray, List.set_cons_zero, List.set_cons_succ]
        refine wpAnyH_take (i := 2) (v := ?v2) rfl (by kernel_rfl) (by kernel_rfl) (by kernel_rfl) (fun _ _ _ h => h) (Or.inl ⟨by rfl, ?hy2⟩) hHeld ?rest2
        case hy2 =>
          intro w_ hSw; go_simp
          all_goals (with_reducible rfl)
        try simp only [Act.put, List.getElem_toArray, List.getElem_cons_succ, List.getElem_cons_zero, List.setIfInBounds_toArray, List.set_cons_zero, List.set_cons_succ]
        refine wpAnyH_take (i := 3) (v := ?v3) rfl (by kernel_rfl) (by kernel_rfl) (by kernel_rfl) (fun _ _ _ h => h) (Or.inl ⟨by rfl, ?hy3⟩) hHeld ?rest3
        case hy3 =>
          intro w_ hSw; go_simp
          all_goals (with_reducible rfl)
        try simp only [Act.put, List.getElem_toArray, List.getElem_cons_succ, List.getElem_cons_zero, List.setIfInBounds_toArray, List.set_cons_zero, List.set_cons_succ]
        refine wpAnyH_take (i := 4) (v := ?v4) rfl (by kernel_rfl) (by kernel_rfl) (by kernel_rfl) (fun _ _ _ h => h) (Or.inl ⟨by rfl, ?hy4⟩) hHeld ?rest4
        case hy4 =>
          intro w_ hSw; have h0 := (hSw.cell (p := ⟨bA, oA + k * 14, none⟩) hltA).trans a0; have h1 := (hSw.cell (p := ⟨bA, oA + k * 14 + 1, none⟩) hltA).trans a1; have h2 := (hSw.cell (p := ⟨bA, oA + k * 14 + 2, none⟩) hltA).trans a2; have h3 := (hSw.cell (p := ⟨bA, oA + k * 14 + 3, none⟩) hltA).trans a3; have h4 := (hSw.cell (p := ⟨bA, oA + k * 14 + 4, none⟩) hltA).trans a4; have h5 := (hSw.cell (p := ⟨bA, oA + k * 14 + 5, none⟩) hltA).trans a5; have h6 := (hSw.cell (p := ⟨bA, oA + k * 14 + 6, none⟩) hltA).trans a6; have h7 := (hSw.cell (p := ⟨bA, oA + k * 14 + 7, none⟩) hltA).trans a7; have h8 := (hSw.cell (p := ⟨bA, oA + k * 14 + 8, none⟩) hltA).trans a8; have h9 := (hSw.cell (p := ⟨bA, oA + k * 14 + 9, none⟩) hltA).trans a9; have h10 := (hSw.cell (p := ⟨bA, oA + k * 14 + 10, none⟩) hltA).trans a10; have h11 := (hSw.cell (p := ⟨bA, oA + k * 14 + 11, none⟩) hltA).trans a11; have h12 := (hSw.cell (p := ⟨bA, oA + k * 14 + 12, none⟩) hltA).trans a12; have h13 := (hSw.cell (p := ⟨bA, oA + k * 14 + 13, none⟩) hltA).trans a13; go_simp
          all_goals (with_reducible rfl)
        try simp only [Act.put, List.getElem_toArray, List.getElem_cons_succ, List.getElem_cons_zero, List.setIfInBounds_toArray, List.set_cons_zero, List.set_cons_succ]
        refine wpAnyH_ready (rs := [5, 10]) (by kernel_rfl) (by simp) ?_
        refine AllReadyH.cons rfl (fun K hK => ?_) ?_
        · go_simp
          go_at_call 10
          refine (KSy.out _ hHeld).mono ?_
          rintro e_ w8 ⟨X', rfl, hT8, hb8, hto⟩
          have HT8 := Lib.hid hT8
          have HTO := Lib.hid hto
          have HB8 := Lib.hid hb8
          have hS8 : Below w7.heap.size w7 w8 := hHeld.trans (hb8.mono hHeld.size)
          clear hT8 hto hb8
          refine hK.out _ _ (hS8) (fun hHeld => ?_)
          clear hK K
          try simp only [Act.put, List.getElem_toArray, List.getElem_cons_succ, List.getElem_cons_zero, List.setIfInBounds_toArray, List.set_cons_zero, List.set_cons_succ]
          refine wpAnyH_take (i := 6) (v := ?v5) rfl (by kernel_rfl) (by kernel_rfl) (by kernel_rfl) (fun _ _ _ h => h) (Or.inl ⟨by rfl, ?hy5⟩) hHeld ?rest5
          case hy5 =>
            intro w_ hSw; go_simp
            all_goals (with_reducible rfl)
          try simp only [Act.put, List.getElem_toArray, List.getElem_cons_succ, List.getElem_cons_zero, List.setIfInBounds_toArray, List.set_cons_zero, List.set_cons_succ]
          refine wpAnyH_take (i := 7) (v := ?v6) rfl (by kernel_rfl) (by kernel_rfl) (by kernel_rfl) (fun _ _ _ h => h) (Or.inl ⟨by rfl, ?hy6⟩) hHeld ?rest6
          case hy6 =>
            intro w_ hSw; go_simp
            all_goals (with_reducible rfl)
          try simp only [Act.put, List.getElem_toArray, List.getElem_cons_succ, List.getElem_cons_zero, List.setIfInBounds_toArray, List.set_cons_zero, List.set_cons_succ]
          refine wpAnyH_take (i := 8) (v := ?v7) rfl (by kernel_rfl) (by kernel_rfl) (by kernel_rfl) (fun _ _ _ h => h) (Or.inl ⟨by rfl, ?hy7⟩) hHeld ?rest7
          case hy7 =>
            intro w_ hSw; go_simp
            all_goals (with_reducible rfl)
          try simp only [Act.put, List.getElem_toArray, List.getElem_cons_succ, List.getElem_cons_zero, List.setIfInBounds_toArray, List.set_cons_zero, List.set_cons_succ]
          refine wpAnyH_take (i := 9) (v := ?v8) rfl (by kernel_rfl) (by kernel_rfl) (by kernel_rfl) (fun _ _ _ h => h) (Or.inl ⟨by rfl, ?hy8⟩) hHeld ?rest8
          case hy8 =>
            intro w_ hSw; go_simp
            all_goals (with_reducible rfl)
          try simp only [Act.put, List.getElem_toArray, List.getElem_cons_succ, List.getElem_cons_zero, List.setIfInBounds_toArray, List.set_cons_zero, List.set_cons_succ]
          refine wpAnyH_ready (rs := [10]) (by kernel_rfl) (by simp) ?_
          refine AllReadyH.cons rfl (fun K hK => ?_) AllReadyH.nil
          go_simp
          obtain ⟨HG, HGE⟩ := alloc_new hHeld 34 #[.int .i64 0, .slice none 0 0, .slice none 0 0, .slice none 0 0]
          refine hK.out _ _ (hHeld.alloc hHeld.size _) (fun hHeld => ?_)
          clear hK K
          try simp only [Act.put, List.getElem_toArray, List.getElem_cons_succ, List.getElem_cons_zero, List.setIfInBounds_toArray, List.set_cons_zero, List.set_cons_succ]
          refine wpAnyH_ready (rs := [11]) (by kernel_rfl) (by simp) ?_
          refine AllReadyH.cons rfl (fun K hK => ?_) AllReadyH.nil
          refine step_store_rowH rfl 34 (.tmp 18) (.tmp 82) rfl w8.heap.size rfl #[.int .i64 (Tn.n : Int), .slice X'.A Tn.A.length X'.ca, .slice X'.E Tn.E.length X'.ce, .slice X'.M Tn.M.length X'.cm] rfl 34 _ HG.out (by kernel_rfl) rfl (by kernel_rfl) ?_
          refine hK.out _ _ (below_row hHeld HGE.out _) (fun hHeld => ?_)
          clear hK K
          try simp only [Act.put, List.getElem_toArray, List.getElem_cons_succ, List.getElem_cons_zero, List.setIfInBounds_toArray, List.set_cons_zero, List.set_cons_succ]
          refine wpAnyH_take (i := 12) (v := ?v9) rfl (by kernel_rfl) (by kernel_rfl) (by kernel_rfl) (fun _ _ _ h => h) (Or.inl ⟨by rfl, ?hy9⟩) hHeld ?rest9
          case hy9 =>
            intro w_ hSw; go_simp
            all_goals (with_reducible rfl)
          try simp only [Act.put, List.getElem_toArray, List.getElem_cons_succ, List.getElem_cons_zero, List.setIfInBounds_toArray, List.set_cons_zero, List.set_cons_succ]
          refine wpAnyH_take (i := 13) (v := ?v10) rfl (by kernel_rfl) (by kernel_rfl) (by kernel_rfl) (fun _ _ _ h => h) (Or.inl ⟨by rfl, ?hy10⟩) hHeld ?rest10
          case hy10 =>
            intro w_ hSw; go_simp
            all_goals (with_reducible rfl)
          try simp only [Act.put, List.getElem_toArray, List.getElem_cons_succ, List.getElem_cons_zero, List.setIfInBounds_toArray, List.set_cons_zero, List.set_cons_succ]
          refine wpAnyH_done (by kernel_rfl) ?_ _
          refine NoPanic.normal ?_
          go_wp2_with fail
          go_meet
          exact ⟨w8.heap.size, X', rfl, rfl, rfl, Lib.hid (Blk.row HG.out _), Lib.hid (tbd_set (HT8.out.next ((Below.refl _ _).alloc (Nat.le_refl _) _)) HG.out), Lib.hid (below_row (hS8.alloc hS8.size _) HGE.out _), Lib.hid (HTO.out.mono (Nat.le_refl _) (by simp)), HGE⟩
        · refine AllReadyH.cons rfl (fun K hK => ?_) AllReadyH.nil
          go_simp
          obtain ⟨HG, HGE⟩ := alloc_new hHeld 34 #[.int .i64 0, .slice none 0 0, .slice none 0 0, .slice none 0 0]
          refine hK.out _ _ (hHeld.alloc hHeld.size _) (fun hHeld => ?_)
          clear hK K
          try simp only [Act.put, List.getElem_toArray, List.getElem_cons_succ, List.getElem_cons_zero, List.setIfInBounds_toArray, List.set_cons_zero, List.set_cons_succ]
          refine wpAnyH_ready (rs := [5]) (by kernel_rfl) (by simp) ?_
          refine AllReadyH.cons rfl (fun K hK => ?_) AllReadyH.nil
          go_simp
          go_at_call 10
          refine (KSy.out _ hHeld).mono ?_
          rintro e_ w8 ⟨X', rfl, hT8, hb8, hto⟩
          have HT8 := Lib.hid hT8
          have HTO := Lib.hid hto
          have HB8 := Lib.hid hb8
          have hS8 : Below w7.heap.size w7 w8 := hHeld.trans (hb8.mono hHeld.size)
          clear hT8 hto hb8
          refine hK.out _ _ (hS8) (fun hHeld => ?_)
          clear hK K
          try simp only [Act.put, List.getElem_toArray, List.getElem_cons_succ, List.getElem_cons_zero, List.setIfInBounds_toArray, List.set_cons_zero, List.set_cons_succ]
          have HG8 := Lib.hid (HG.out.below HB8.out HG.out.lt)
          refine wpAnyH_take (i := 6) (v := ?vb11) rfl (by kernel_rfl) (by kernel_rfl) (by kernel_rfl) (fun _ _ _ h => h) (Or.inl ⟨by rfl, ?hyb11⟩) hHeld ?restb11
          case hyb11 =>
            intro w_ hSw; go_simp
            all_goals (with_reducible rfl)
          try simp only [Act.put, List.getElem_toArray, List.getElem_cons_succ, List.getElem_cons_zero, List.setIfInBounds_toArray, List.set_cons_zero, List.set_cons_succ]
          refine wpAnyH_take (i := 7) (v := ?vb12) rfl (by kernel_rfl) (by kernel_rfl) (by kernel_rfl) (fun _ _ _ h => h) (Or.inl ⟨by rfl, ?hyb12⟩) hHeld ?restb12
          case hyb12 =>
            intro w_ hSw; go_simp
            all_goals (with_reducible rfl)
          try simp only [Act.put, List.getElem_toArray, List.getElem_cons_succ, List.getElem_cons_zero, List.setIfInBounds_toArray, List.set_cons_zero, List.set_cons_succ]
          refine wpAnyH_take (i := 8) (v := ?vb13) rfl (by kernel_rfl) (by kernel_rfl) (by kernel_rfl) (fun _ _ _ h => h) (Or.inl ⟨by rfl, ?hyb13⟩) hHeld ?restb13
          case hyb13 =>
            intro w_ hSw; go_simp
            all_goals (with_reducible rfl)
          try simp only [Act.put, List.getElem_toArray, List.getElem_cons_succ, List.getElem_cons_zero, List.setIfInBounds_toArray, List.set_cons_zero, List.set_cons_succ]
          refine wpAnyH_take (i := 9) (v := ?vb14) rfl (by kernel_rfl) (by kernel_rfl) (by kernel_rfl) (fun _ _ _ h => h) (Or.inl ⟨by rfl, ?hyb14⟩) hHeld ?restb14
          case hyb14 =>
            intro w_ hSw; go_simp
            all_goals (with_reducible rfl)
          try simp only [Act.put, List.getElem_toArray, List.getElem_cons_succ, List.getElem_cons_zero, List.setIfInBounds_toArray, List.set_cons_zero, List.set_cons_succ]
          refine wpAnyH_ready (rs := [11]) (by kernel_rfl) (by simp) ?_
          refine AllReadyH.cons rfl (fun K hK => ?_) AllReadyH.nil
          refine step_store_rowH rfl 34 (.tmp 18) (.tmp 82) rfl w7.drew.heap.size rfl #[.int .i64 (Tn.n : Int), .slice X'.A Tn.A.length X'.ca, .slice X'.E Tn.E.length X'.ce, .slice X'.M Tn.M.length X'.cm] rfl 34 _ HG8.out (by kernel_rfl) rfl (by kernel_rfl) ?_
          refine hK.out _ _ (below_row hHeld HGE.out _) (fun hHeld => ?_)
          clear hK K
          try simp only [Act.put, List.getElem_toArray, List.getElem_cons_succ, List.getElem_cons_zero, List.setIfInBounds_toArray, List.set_cons_zero, List.set_cons_succ]
          refine wpAnyH_take (i := 12) (v := ?vb15) rfl (by kernel_rfl) (by kernel_rfl) (by kernel_rfl) (fun _ _ _ h => h) (Or.inl ⟨by rfl, ?hyb15⟩) hHeld ?restb15
          case hyb15 =>
            intro w_ hSw; go_simp
            all_goals (with_reducible rfl)
          try simp only [Act.put, List.getElem_toArray, List.getElem_cons_succ, List.getElem_cons_zero, List.setIfInBounds_toArray, List.set_cons_zero, List.set_cons_succ]
          refine wpAnyH_take (i := 13) (v := ?vb16) rfl (by kernel_rfl) (by kernel_rfl) (by kernel_rfl) (fun _ _ _ h => h) (Or.inl ⟨by rfl, ?hyb16⟩) hHeld ?restb16
          case hyb16 =>
            intro w_ hSw; go_simp
            all_goals (with_reducible rfl)
          try simp only [Act.put, List.getElem_toArray, List.getElem_cons_succ, List.getElem_cons_zero, List.setIfInBounds_toArray, List.set_cons_zero, List.set_cons_succ]
          refine wpAnyH_done (by kernel_rfl) ?_ _
          refine NoPanic.normal ?_
          go_wp2_with fail
          go_meet
          exact ⟨w7.drew.heap.size, X', rfl, rfl, rfl, Lib.hid (Blk.row HG8.out _), Lib.hid (tbd_set HT8.out HG8.out), Lib.hid (below_row hS8 HGE.out _), Lib.hid (HTO.out.mono (by simp) (by simp)), HGE⟩
      obtain ⟨gn, X', rfl, rfl, rfl, HN8, HT8, HB8, HTO, HGN8⟩ := hcut
      have HW8 := Lib.hid (HW7.out.below HB8.out HW7.out.lt)
      have HO8 := Lib.hid (HO7.out.below HB8.out HO7.out.lt)
      have HOR8 := Lib.hid (ownR_chg HOR7.out (Chg.of_below (S := fun _ => False) HB8.out) (fun _ _ h => h))
      have HR8 := Lib.hid (H.out.next HR7.out HB8.out)
      have hsz8 := HB8.out.size
      have HX8 : Hid (SepX wc.heap.size w.heap.size (fun q => S7 q ∨ zb A4 q) X') := Lib.hid (sep_to HX7.out HTO.out hsz8 (fun q h => h.elim (HSL7.out q) (fun h => (HZS.out q h).2.2.2.1)) (new_at HT8.out HIT.out HYQ.out))
      obtain ⟨w9, hw9⟩ : ∃ w9, wc.setRow gw #[.int .i64 (Tn.n : Int), .slice X'.A Tn.A.length X'.ca, .slice X'.E Tn.E.length X'.ce, .slice X'.M Tn.M.length X'.cm] = w9 := ⟨_, rfl⟩
      have hc9 : Chg (fun q => q = gw) wc w9 := by rw [← hw9]; exact (Chg.refl (fun q => q = gw) wc).setRow (.inr rfl) _
      have hs9 : w9.heap.size = wc.heap.size := by rw [← hw9]; simp
      have HW9 : Hid (Blk w9 gw 34 #[.int .i64 (Tn.n : Int), .slice X'.A Tn.A.length X'.ca, .slice X'.E Tn.E.length X'.ce, .slice X'.M Tn.M.length X'.cm]) := Lib.hid (by rw [← hw9]; exact Blk.row HW8.out _)
      have HO9 := Lib.hid (HO8.out.chg hc9 HGO7.out.2.2)
      have HOR9 := Lib.hid (ownR_chg HOR8.out hc9 (fun q hq => (HZS.out q hq).2.1))
      have HT9 := Lib.hid (tbd_over HT8.out HW8.out hc9)
      have HR9 := Lib.hid (H.out.fr S7 _ wc w9 b Tn HR8.out hc9 (fun q hq e => HGW7.out.2 (e ▸ hq)))
      have HX9 : Hid (SepX w9.heap.size w.heap.size (fun q => S7 q ∨ zb A4 q) X') := Lib.hid (by rw [hs9]; exact HX8.out)
      have HB9 : Hid (Below w.heap.size w w9) := Lib.hid (by rw [← hw9]; exact below_row (HB7.out.trans (HB8.out.mono HB7.out.size)) HGW7.out.1 _)
      have n0 := HN8.out.cell 0
      have n1 := HN8.out.cell 1
      have n2 := HN8.out.cell 2
      have n3 := HN8.out.cell 3
      simp only [List.getElem?_toArray, List.getElem?_cons_succ, List.getElem?_cons_zero] at n0 n1 n2 n3
      clear HW7 HO7 HOR7 HR7 HX7 HT7 HT8 HX8 HTO HB8 HB70 KSy hc9 hs9 hsz8 HR8 HO8 HOR8 a0 a1 a2 a3 a4 a5 a6 a7 a8 a9 a10 a11 a12 a13 hltA
      go_upto_region 17 with (refine wpList_store_row rfl 34 (.tmp 13) (.tmp 85) rfl gw rfl _ rfl 34 _ HW8.out (by kernel_rfl) rfl (by kernel_rfl) ?_)
      rw [hw9]
      clear hw9 n0 n1 n2 n3 HN8 HW8 HGN8
      go_wp2_with fail
      go_loopw [21] (fun i wr => ∃ j : Nat, j ≤ y.x.a.m.length ∧ i = .int .i64 j ∧ Hid (Chg (zb A4) w9 wr) ∧ Hid (OwnR wr A4 y.x.a.m.length)) (fun i _ => y.x.a.m.length - (intOf i).toNat)
      case atStart => exact ⟨0, Nat.zero_le _, rfl, Lib.hid (Chg.refl _ _), HOR9⟩
      case round =>
        obtain ⟨j, hj, rfl, HCj, HORj⟩ := hrel
        have HOj := Lib.hid (HO9.out.chg HCj.out (fun h => (HZS.out go h).2.2.1 rfl))
        have o6 := HOj.out.cell 6
        simp only [List.getElem?_toArray, List.getElem?_cons_succ, List.getElem?_cons_zero] at o6
        by_cases hlj : j < y.x.a.m.length
        · have hji : (j : Int) < (y.x.a.m.length : Int) := by omega
          rcases HORj.out with h0 | ⟨g6, cs, rfl, hb6, hl6⟩
          · omega
          · have HB6 := Lib.hid hb6
            obtain ⟨v6, e6⟩ : ∃ v6, wr.cell? ⟨g6, j, none⟩ = some v6 := ⟨cs[j]'(by omega), by rw [hb6.cell, Array.getElem?_eq_getElem (by omega)]⟩
            have f6 := hb6.frozen j
            have HLJ := Lib.hid hlj
            have HL6 := Lib.hid hl6
            clear hb6 hlj hl6
            go_wp2
            go_roundw
            case rel => exact ⟨j + 1, by have := HLJ.out; omega, by go_num, Lib.hid (HCj.out.setCell (p := ⟨g6, j, none⟩) (.inr ⟨_, rfl, rfl⟩) _), Lib.hid (.inr ⟨g6, _, rfl, HB6.out.put j _, by have := HL6.out; simp; omega⟩)⟩
            case measure => have := HLJ.out; simp [intOf]; omega
        · obtain hje : j = y.x.a.m.length := by omega
          have hBz := fun q hq => (HZS.out q hq).2.2.2.2
          have HBw : Hid (Below w.heap.size w wr) := Lib.hid (HB9.out.trans (HCj.out.below HB9.out.size (fun q hq hz => by have := hBz q hz; omega)))
          have HRw := Lib.hid (H.out.fr S7 _ w9 wr b Tn HR9.out HCj.out (fun q hq hz => (HZS.out q hz).1 hq))
          have HTw := Lib.hid (tbd_chg HT9.out HCj.out (sep_mono HX9.out (Nat.le_refl _) (fun q _ h => .inr h)) hBz)
          have HWw := Lib.hid (HW9.out.chg HCj.out (fun h => (HZS.out gw h).2.1 rfl))
          have HXw : Hid (SepX wr.heap.size w.heap.size S7 X') := Lib.hid (sep_mono HX9.out HCj.out.size (fun q _ h => .inl h))
          have HS71 : Hid (Sm Tn 1000) := Lib.hid ⟨by have := HSM7.out.1; have := HK60.out; omega, by have := HSM7.out.2.1; have := HK60.out; omega, by have := HSM7.out.2.2; have := HK60.out; omega⟩
          obtain ⟨w10, hw10⟩ : ∃ w10, w10 = wr := ⟨_, rfl⟩
          subst hw10
          have KS1 : Hid (∀ w_, Hid (Below w10.heap.size w10 w_) → Calls Try.prog 11 #[.pointer (some ⟨b, 0, none⟩), .agg #[.int .i64 (Tn.n : Int), .slice X'.A Tn.A.length X'.ca, .slice X'.E Tn.E.length X'.ce, .slice X'.M Tn.M.length X'.cm], .int .u8 y.x.e.p.toNat, .int .u16 y.x.m.v.toNat, .int .i64 y.x.e.a] w_ fun e w' => e = .returned (.bool true) ∧ Below w_.heap.size w_ w') := Lib.hid (fun w_ h => same16_any H.out S7 w_ b Tn X' y.x.e.p y.x.m.v y.x.e.a (H.out.next HRw.out h.out) (HTw.out.next h.out) HS71.out)
          have KS2 : Hid (∀ w_, Hid (Below w10.heap.size w10 w_) → Calls Try.prog 11 #[.pointer (some ⟨b, 0, none⟩), .agg #[.int .i64 (Tn.n : Int), .slice X'.A Tn.A.length X'.ca, .slice X'.E Tn.E.length X'.ce, .slice X'.M Tn.M.length X'.cm], .int .u8 y.x.m.p.toNat, .int .u16 y.x.m.v.toNat, .int .i64 0] w_ fun e w' => e = .returned (.bool true) ∧ Below w_.heap.size w_ w') := Lib.hid (fun w_ h => same16_any H.out S7 w_ b Tn X' y.x.m.p y.x.m.v 0 (H.out.next HRw.out h.out) (HTw.out.next h.out) HS71.out)
          have HBd : Hid (Below w10.heap.size w10 w10.drew) := Lib.hid ((Below.refl _ _).drew)
          obtain ⟨_, _, hAA, hltA, a0, a1, a2, a3, a4, a5, a6, a7, a8, a9, a10, a11, a12, a13⟩ := ac_at (HE.out.next HBw.out) HY.out
          cases hAA
          have c0 : w10.drew.cell? ⟨gw, 0, none⟩ = some (.int .i64 (Tn.n : Int)) := HWw.out.drew.cell 0
          have c1 : w10.drew.cell? ⟨gw, 1, none⟩ = some (.slice X'.A Tn.A.length X'.ca) := HWw.out.drew.cell 1
          have c2 : w10.drew.cell? ⟨gw, 2, none⟩ = some (.slice X'.E Tn.E.length X'.ce) := HWw.out.drew.cell 2
          have c3 : w10.drew.cell? ⟨gw, 3, none⟩ = some (.slice X'.M Tn.M.length X'.cm) := HWw.out.drew.cell 3
          have d7 : w10.drew.cell? ⟨bA, oA + k * 14 + 7, none⟩ = some (.int .i64 y.x.e.a) := a7
          have d9 : w10.drew.cell? ⟨bA, oA + k * 14 + 9, none⟩ = some (.int .u8 y.x.e.p.toNat) := a9
          have d11 : w10.drew.cell? ⟨bA, oA + k * 14 + 11, none⟩ = some (.int .u8 y.x.m.p.toNat) := a11
          have d12 : w10.drew.cell? ⟨bA, oA + k * 14 + 12, none⟩ = some (.int .u16 y.x.m.v.toNat) := a12
          have hjn : ¬ (j : Int) < (y.x.a.m.length : Int) := by omega
          clear hBz hje hlj hj HCj HORj HOj a0 a1 a2 a3 a4 a5 a6 a7 a8 a9 a10 a11 a12 a13 hltA HB9 HR9 HT9 HW9 HX9 HO9 HOR9
          go_wp2_with fail
          clear o6 hjn
          go_region_held3 (fun w_ => w_.cell? ⟨gw, 0, none⟩ = some (.int .i64 (Tn.n : Int)) ∧ w_.cell? ⟨gw, 1, none⟩ = some (.slice X'.A Tn.A.length X'.ca) ∧ w_.cell? ⟨gw, 2, none⟩ = some (.slice X'.E Tn.E.length X'.ce) ∧ w_.cell? ⟨gw, 3, none⟩ = some (.slice X'.M Tn.M.length X'.cm) ∧ w_.cell? ⟨bA, oA + k * 14 + 7, none⟩ = some (.int .i64 y.x.e.a) ∧ w_.cell? ⟨bA, oA + k * 14 + 9, none⟩ = some (.int .u8 y.x.e.p.toNat) ∧ w_.cell? ⟨bA, oA + k * 14 + 11, none⟩ = some (.int .u8 y.x.m.p.toNat) ∧ w_.cell? ⟨bA, oA + k * 14 + 12, none⟩ = some (.int .u16 y.x.m.v.toNat) ∧ Hid (Below w10.heap.size w10 w_)) (first | go_keep)
            (first
              | (go_at_call 11; (with_reducible refine (KS1.out _ (by assumption)).mono ?_); rintro r_ w_ ⟨rfl, hb_⟩; obtain ⟨k0, k1, k2, k3, k4, k5, k6, k7, k8⟩ := keep21 (by assumption) (by assumption) (by assumption) (by assumption) (by assumption) (by assumption) (by assumption) (by assumption) (by assumption) hb_; clear hb_)
              | (go_at_call 11; (with_reducible refine (KS2.out _ (by assumption)).mono ?_); rintro r_ w_ ⟨rfl, hb_⟩; obtain ⟨k0, k1, k2, k3, k4, k5, k6, k7, k8⟩ := keep21 (by assumption) (by assumption) (by assumption) (by assumption) (by assumption) (by assumption) (by assumption) (by assumption) (by assumption) hb_; clear hb_)
              | fail "no")
          rename_i hh
          clear hh
          have HBk := k8
          have HR11 := Lib.hid (H.out.next HRw.out k8.out)
          have HT11 := Lib.hid (HTw.out.next k8.out)
          have HW11 := Lib.hid (HWw.out.below k8.out HWw.out.lt)
          have HB11 : Hid (Below w.heap.size w w_) := Lib.hid (HBw.out.trans (k8.out.mono HBw.out.size))
          have HX11 : Hid (SepX w_.heap.size w.heap.size S7 X') := Lib.hid (sep_mono HXw.out k8.out.size (fun q _ h => h))
          clear k0 k1 k2 k3 k4 k5 k6 k7 k8 HBk c0 c1 c2 c3 d7 d9 d11 d12 KS1 KS2 HBd HRw HTw HWw HBw HXw
          go_wp2_with fail
          go_roundw
          case rel => exact ⟨k + 1, Tn, S7, X', by have := HLT.out; omega, by go_num, HR11, HSM7, HSW7, HB11, HW11, HT11, HX11, HGW7⟩
          case measure => have := HLT.out; simp [intOf]; omega
    · obtain rfl : n = k := by omega
      have HS1000 : Hid (Sm T 1000) := Lib.hid ⟨by have := HSM.out.1; omega, by have := HSM.out.2.1; omega, by have := HSM.out.2.2; omega⟩
      have KS := Lib.hid (same16_any H.out S wr b T X pp vv pl HR.out HT.out HS1000.out)
      have n0 := HW.out.cell 0
      have n1 := HW.out.cell 1
      have n2 := HW.out.cell 2
      have n3 := HW.out.cell 3
      simp only [List.getElem?_toArray, List.getElem?_cons_succ, List.getElem?_cons_zero] at n0 n1 n2 n3
      clear hlt hk
      go_wp2_with fail
      refine KS.out.mono ?_
      rintro e_ w11 ⟨rfl, hb11⟩
      have HB11 : Hid (Below w.heap.size w w11) := Lib.hid (HB.out.trans (hb11.mono HB.out.size))
      clear hb11 HB KS n0 n1 n2 n3
      go_wp2_with fail
      refine (KW.out _).mono ?_
      rintro e_ w12 ⟨rfl, hb12⟩
      have HB12 : Hid (Below w.heap.size w w12) := Lib.hid (HB11.out.trans (hb12.mono HB11.out.size))
      clear hb12 HB11
      go_wp2
      go_ret
      exact ⟨rfl, HB12.out⟩
end Go.Proofs.Ytfdiolfelecccaa
