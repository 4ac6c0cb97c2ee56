/- Layer 15: package ltm's TakeReply keeps the words of Law15. -/
import Derived.Test.YtieopgmmjpmflaaIm15d
import Derived.Maps.OwnSet
import Derived.BigQuiet
import Derived.Deep.QuietTactic
import Derived.Deep.RegionHeld3
import Derived.Deep.RegionLaw
import Derived.Deep.DeepCutAuto
import Derived.OwnWalk
import Derived.StillTailTactics
namespace Go.Proofs.Ytieopgmmjpmflaa
open Go.RowKit
set_option linter.unusedVariables false
set_option linter.unusedSimpArgs false
set_option maxRecDepth 100000

structure RpS (W : World) (b c g : Nat) (PV : Array Value) (L : List UInt8) (er : Int) (cs : Array Value) (w : World) : Prop where
  pdu : Blk w W.heap.size 31 PV
  res : Blk w (W.heap.size + 1) 43 #[.int .u8 0, .int .u32 0, .int .u8 0, .bool false, .bool false, .int .u8 0, .int .u8 0, .int .u8 0, .int .u8 0, .int .u8 0, .int .u8 0, .int .u8 0, .int .u8 0, .int .u8 0, .int .u8 0, .int .u8 0, .int .u8 0]
  cur : Blk w g 43 cs
  rdr : Rdr w b L er
  below : Below W.heap.size W w
  lt1 : W.heap.size + 1 < b
  ptr : Blk w c 73 #[.pointer (some ⟨b, 0, none⟩)]
  lt2 : b < c
  lt3 : c < g
section
variable {W w w' : World} {b c g : Nat} {PV : Array Value} {L L' : List UInt8} {er er' : Int} {cs : Array Value}
theorem RpS.call (h : RpS W b c g PV L er cs w) (hr : Rdr w' b L' er') (hc : Chg (only b) w w') : RpS W b c g PV L' er' cs w' := by
  obtain ⟨h1, h2, h3, h4, h5, h6, hp, h7, h8⟩ := h
  exact ⟨h1.chg hc (by unfold only; omega), h2.chg hc (by unfold only; omega), h3.chg hc (by unfold only; omega), hr, h5.trans (Chg.below (hc.mono (S' := only b) (fun _ _ h => h)) h5.size (fun k hk hs => by unfold only at hs; omega)), h6, hp.chg hc (by unfold only; omega), h7, h8⟩
theorem RpS.put (h : RpS W b c g PV L er cs w) (i : Nat) (v : Value) : RpS W b c g PV L er (cs.setIfInBounds i v) (w.setCell ⟨g, i, none⟩ v) := by
  obtain ⟨h1, h2, h3, h4, h5, h6, hp, h7, h8⟩ := h
  exact ⟨h1.far (p := ⟨g, i, none⟩) (by show W.heap.size ≠ g; omega) v, h2.far (p := ⟨g, i, none⟩) (by show W.heap.size + 1 ≠ g; omega) v, h3.put i v, Blk.far h4 (p := ⟨g, i, none⟩) (by show b ≠ g; omega) v, h5.setCell (p := ⟨g, i, none⟩) (by show W.heap.size ≤ g; omega) v, h6, hp.far (p := ⟨g, i, none⟩) (by show c ≠ g; omega) v, h7, h8⟩
theorem RpS.drew (h : RpS W b c g PV L er cs w) : RpS W b c g PV L er cs w.drew := by
  obtain ⟨h1, h2, h3, h4, h5, h6, hp, h7, h8⟩ := h
  exact ⟨h1.drew, h2.drew, h3.drew, Blk.drew h4, h5.drew, h6, hp.drew, h7, h8⟩
end
theorem rr_is (s L1 L2 L3 : List UInt8) (E1 E2 E3 E4 E5 E6 : Int) (v f : UInt8) (d p5 p6 : Bool) (a1 : tkL 4 s 0 = L1) (b1 : tkE 4 s 0 = E1) (a2 : tkL 1 L1 E1 = L2) (b2 : tkE 1 L1 E1 = E2) (a3 : tkL 1 L2 E2 = L3) (b3 : tkE 1 L2 E2 = E3)
    (c1 : UInt8.ofNat (num (tkV 1 L2 E2)) = v) (hd : (v != f) = d) (h4 : (if d = true then bdE E3 else E3) = E4) (h5 : (if p5 = true then E4 else bdE E4) = E5) (h6 : (if p6 = true then E5 else bdE E5) = E6) :
    (s.length = 6 ∧ (s.getD 5 0 == f) = true ∧ p5 = true ∧ p6 = true → tkV 4 s 0 = s.take 4 ∧ UInt8.ofNat (num (tkV 1 L1 E1)) = s.getD 4 0 ∧ ndE L3 E6 = 0) ∧ (¬ (s.length = 6 ∧ (s.getD 5 0 == f) = true ∧ p5 = true ∧ p6 = true) → ndE L3 E6 ≠ 0) := by
  obtain ⟨h1, v1⟩ := str_tk 4 (str_0 s)
  rw [a1, b1] at h1
  obtain ⟨h2, v2⟩ := str_tk 1 h1
  rw [a2, b2] at h2
  obtain ⟨h3, v3⟩ := str_tk 1 h2
  rw [a3, b3] at h3
  obtain ⟨n1, n2⟩ := str_nd h3
  have hv : s.length = 6 → v = s.getD 5 0 := fun h => by
    rw [← c1, v3 (by omega)]
    exact one_at (s := s) (k := 0 + 4 + 1) (by omega)
  have nz : ∀ {E E' : Int} {q : Bool}, E ≠ 0 → (if q = true then E else bdE E) = E' → E' ≠ 0 := fun {E E' q} h e => by
    rw [← e]
    split
    · exact h
    · exact bd_ne _
  have nf : ∀ {E E' : Int} {q : Bool}, q = false → (if q = true then E else bdE E) = E' → E' ≠ 0 := fun {E E' q} h e => by
    rw [← e, h, if_neg (by decide)]
    exact bd_ne _
  refine ⟨fun ⟨h, hf, e5, e6⟩ => ⟨?_, ?_, ?_⟩, fun h => ?_⟩
  · have := v1 (by omega)
    rwa [List.drop_zero] at this
  · rw [v2 (by omega)]
    exact one_at (s := s) (k := 0 + 4) (by omega)
  · have hd0 : d = false := by
      rw [← hd, hv h]
      simpa using hf
    rw [hd0, if_neg (by decide)] at h4
    rw [e5, if_pos rfl] at h5
    rw [e6, if_pos rfl] at h6
    subst h4 h5 h6
    exact (n1 (by omega)).2
  · by_cases h6' : s.length = 6
    · by_cases hf : (s.getD 5 0 == f) = true
      · cases e5 : p5 with
        | false => exact nd_ne (nz (nf e5 h5) h6)
        | true =>
          cases e6 : p6 with
          | false => exact nd_ne (nf e6 h6)
          | true => exact absurd ⟨h6', hf, e5, e6⟩ h
      · have hd1 : d = true := by
          rw [← hd, hv h6']
          simpa using hf
        rw [hd1, if_pos rfl] at h4
        exact nd_ne (nz (nz (by rw [← h4]; exact bd_ne _) h5) h6)
    · have h3' : E3 ≠ 0 ∨ (E3 = 0 ∧ L3 ≠ []) := by
        rcases h3 with ⟨k1, k2, k3⟩ | ⟨k1, k2⟩
        · refine .inr ⟨k3, fun e => ?_⟩
          rw [k2] at e
          have := congrArg List.length e
          simp only [List.length_drop, List.length_nil] at this
          omega
        · exact .inl k2
      rcases h3' with h3' | ⟨h3', hL⟩
      · have h4' : E4 ≠ 0 := by
          rw [← h4]
          split
          · exact bd_ne _
          · exact h3'
        exact nd_ne (nz (nz h4' h5) h6)
      · unfold ndE
        split
        · decide
        · rename_i hh
          intro e
          exact hh ⟨e, List.length_pos_iff.2 hL⟩
theorem ryB_is (p : Pd) : ryB p = (p.x.getD 5 0 == (if decide (p.g.toNat / 32 % 2 = 1) = true then (1 : UInt8) else 2)) := by
  unfold ryB
  by_cases h : p.g.toNat / 32 % 2 = 1
  · rw [if_pos h, decide_eq_true h, if_pos rfl]
  · rw [if_neg h, decide_eq_false h, if_neg (by decide)]
set_option maxHeartbeats 8000000 in
theorem readreply_any (A : Option Addr) (n k : Nat) (p : Pd) (W : World) (hE : Els 2 tlV W A p.t) (hn : p.t.length = n) (hl : n ≤ 1000) :
    Calls Try.prog 36 #[.agg #[.int .u8 p.l.toNat, .int .u8 p.o.toNat, .int .u8 p.g.toNat, .string ⟨p.x.toArray⟩, .slice A n k]] W fun e w' => ∃ X E, e = .returned (.tuple #[RyV X, .int .i64 E]) ∧ (p.x.length = 6 ∧ ryB p = true ∧ prB p.t 5 = true ∧ prB p.t 6 = true → E = 0 ∧ X = ryQ p) ∧ (¬ (p.x.length = 6 ∧ ryB p = true ∧ prB p.t 5 = true ∧ prB p.t 6 = true) → E ≠ 0) ∧ Below W.heap.size W w' := by
  have hmf : ∀ (fn : Fn) (first cap : Array Value) (w : World), (Instr.makeFunc fn first cap).run Try.prog w = .ok (.func fn first cap) w := fun _ _ _ _ => rfl
  obtain ⟨L1, a1⟩ : ∃ L, tkL 4 p.x 0 = L := ⟨_, rfl⟩
  obtain ⟨E1, b1⟩ : ∃ L, tkE 4 p.x 0 = L := ⟨_, rfl⟩
  obtain ⟨L2, a2⟩ : ∃ L, tkL 1 L1 E1 = L := ⟨_, rfl⟩
  obtain ⟨E2, b2⟩ : ∃ L, tkE 1 L1 E1 = L := ⟨_, rfl⟩
  obtain ⟨L3, a3⟩ : ∃ L, tkL 1 L2 E2 = L := ⟨_, rfl⟩
  obtain ⟨E3, b3⟩ : ∃ L, tkE 1 L2 E2 = L := ⟨_, rfl⟩
  obtain ⟨q, hq⟩ : ∃ q, UInt32.ofNat (num (tkV 4 p.x 0)) = q := ⟨_, rfl⟩
  obtain ⟨kk, hk⟩ : ∃ q, UInt8.ofNat (num (tkV 1 L1 E1)) = q := ⟨_, rfl⟩
  obtain ⟨v, hv⟩ : ∃ q, UInt8.ofNat (num (tkV 1 L2 E2)) = q := ⟨_, rfl⟩
  have g64 := and64_15u p.g
  have g32 := and32_15u p.g
  have hB := ryB_is p
  obtain ⟨bs, hbs⟩ : ∃ q, decide (p.g.toNat / 64 % 2 = 1) = q := ⟨_, rfl⟩
  obtain ⟨be, hbe⟩ : ∃ q, decide (p.g.toNat / 32 % 2 = 1) = q := ⟨_, rfl⟩
  have K6 := Lib.hid (fun w => lastbyte_any be w)
  obtain ⟨f, hff⟩ : ∃ q, (if be = true then (1 : UInt8) else 2) = q := ⟨_, rfl⟩
  obtain ⟨d, hd⟩ : ∃ q, (v != f) = q := ⟨_, rfl⟩
  obtain ⟨p5, hp5⟩ : ∃ q, prB p.t 5 = q := ⟨_, rfl⟩
  obtain ⟨p6, hp6⟩ : ∃ q, prB p.t 6 = q := ⟨_, rfl⟩
  obtain ⟨E4, h4⟩ : ∃ q, (if d = true then bdE E3 else E3) = q := ⟨_, rfl⟩
  obtain ⟨E5, h5⟩ : ∃ q, (if p5 = true then E4 else bdE E4) = q := ⟨_, rfl⟩
  obtain ⟨E6, h6⟩ : ∃ q, (if p6 = true then E5 else bdE E5) = q := ⟨_, rfl⟩
  obtain ⟨E7, h7⟩ : ∃ q, ndE L3 E6 = q := ⟨_, rfl⟩
  obtain ⟨ai, hai⟩ : ∃ q, prR p.t 5 = q := ⟨_, rfl⟩
  obtain ⟨au, hau⟩ : ∃ q, prR p.t 6 = q := ⟨_, rfl⟩
  have hr := rr_is p.x L1 L2 L3 E1 E2 E3 E4 E5 E6 v f d p5 p6 a1 b1 a2 b2 a3 b3 hv hd h4 h5 h6
  have K1 := Lib.hid (fun w b => @u32q_any w b p.x 0)
  have K2 := Lib.hid (fun w b => @u8q_any w b L1 E1)
  have K3 := Lib.hid (fun w b => @u8q_any w b L2 E2)
  have K4 := Lib.hid (fun w b => @bad_any w b L3 E3)
  have KP5 : Hid (∀ (Hb c b : Nat) (w : World), Blk w Hb 31 #[.int .u8 p.l.toNat, .int .u8 p.o.toNat, .int .u8 p.g.toNat, .string ⟨p.x.toArray⟩, .slice A n k] → Els 2 tlV w A p.t → Blk w c 73 #[.pointer (some ⟨b, 0, none⟩)] → Rdr w b L3 E4 → c ≠ b → Calls Try.prog 52 #[.int .u8 5, .pointer (some ⟨Hb, 0, none⟩), .pointer (some ⟨c, 0, none⟩)] w fun e w' => e = .returned (A6V ai) ∧ Rdr w' b L3 E5 ∧ Chg (only b) w w') := Lib.hid (fun Hb c b w g1 g2 g3 g4 g5 => by
    have := port_any 5 A n k p Hb c b L3 E4 w hn hl g1 g2 g3 g4 g5
    rw [hp5, h5, hai] at this
    exact this)
  have KP6 : Hid (∀ (Hb c b : Nat) (w : World), Blk w Hb 31 #[.int .u8 p.l.toNat, .int .u8 p.o.toNat, .int .u8 p.g.toNat, .string ⟨p.x.toArray⟩, .slice A n k] → Els 2 tlV w A p.t → Blk w c 73 #[.pointer (some ⟨b, 0, none⟩)] → Rdr w b L3 E5 → c ≠ b → Calls Try.prog 52 #[.int .u8 6, .pointer (some ⟨Hb, 0, none⟩), .pointer (some ⟨c, 0, none⟩)] w fun e w' => e = .returned (A6V au) ∧ Rdr w' b L3 E6 ∧ Chg (only b) w w') := Lib.hid (fun Hb c b w g1 g2 g3 g4 g5 => by
    have := port_any 6 A n k p Hb c b L3 E5 w hn hl g1 g2 g3 g4 g5
    rw [hp6, h6, hau] at this
    exact this)
  have K7 := Lib.hid (fun w b => @end_any w b L3 E6)
  rw [a1, b1, hq] at K1
  rw [a2, b2, hk] at K2
  rw [a3, b3, hv] at K3
  rw [h7] at K7
  rw [hff] at K6
  rw [hbs] at g64
  rw [hbe] at g32
  rw [hbe, hff] at hB
  have HF : Hid ((p.x.length = 6 ∧ ryB p = true ∧ p5 = true ∧ p6 = true → E7 = 0 ∧ (⟨p.l, q, kk, bs, be, ai, au⟩ : Ry) = ryQ p) ∧ (¬ (p.x.length = 6 ∧ ryB p = true ∧ p5 = true ∧ p6 = true) → E7 ≠ 0)) := Lib.hid ⟨fun h => by
    rw [hB] at h
    obtain ⟨e1, e2, e3⟩ := hr.1 h
    rw [h7] at e3
    refine ⟨e3, ?_⟩
    unfold ryQ
    rw [← prR_is (hp5.trans h.2.2.1), ← prR_is (hp6.trans h.2.2.2), hai, hau, ← e2, ← e1, hq, hk, hbs, hbe], fun h => by
    rw [hB] at h
    have := hr.2 h
    rwa [h7] at this⟩
  have q3 : ((v.toNat : Int) != (f.toNat : Int)) = d := by
    rw [← hd, Bool.eq_iff_iff]
    simp only [bne_iff_ne, ne_eq]
    constructor
    · intro h e; rw [e] at h; exact h rfl
    · intro h e; exact h (UInt8.toNat_inj.1 (by omega))
  have H4E := Lib.hid h4
  have HEW := Lib.hid hE
  have hpx : p.x = p.x := rfl
  rw [hp5, hp6]
  clear hr hB a1 b1 a2 b2 a3 b3 hq hk hv hbs hbe hff hd hp5 hp6 h4 h5 h6 h7 hai hau hE hn hl hpx
  obtain ⟨s, hs⟩ : ∃ s, p.x = s := ⟨_, rfl⟩
  rw [hs] at K1 HF KP5 KP6 ⊢
  clear hs
  have HP0 : Hid (Blk ((((W.alloc (.cells #[.int .u8 p.l.toNat, .int .u8 p.o.toNat, .int .u8 p.g.toNat, .string ⟨s.toArray⟩, .slice A n k] 31)).alloc (.cells #[.int .u8 0, .int .u32 0, .int .u8 0, .bool false, .bool false, .int .u8 0, .int .u8 0, .int .u8 0, .int .u8 0, .int .u8 0, .int .u8 0, .int .u8 0, .int .u8 0, .int .u8 0, .int .u8 0, .int .u8 0, .int .u8 0] 43)))) W.heap.size 31 #[.int .u8 p.l.toNat, .int .u8 p.o.toNat, .int .u8 p.g.toNat, .string ⟨s.toArray⟩, .slice A n k]) := Lib.hid ((Blk.new _ _ _).alloc _)
  have HR0 : Hid (Blk ((((W.alloc (.cells #[.int .u8 p.l.toNat, .int .u8 p.o.toNat, .int .u8 p.g.toNat, .string ⟨s.toArray⟩, .slice A n k] 31)).alloc (.cells #[.int .u8 0, .int .u32 0, .int .u8 0, .bool false, .bool false, .int .u8 0, .int .u8 0, .int .u8 0, .int .u8 0, .int .u8 0, .int .u8 0, .int .u8 0, .int .u8 0, .int .u8 0, .int .u8 0, .int .u8 0, .int .u8 0] 43)))) (W.heap.size + 1) 43 #[.int .u8 0, .int .u32 0, .int .u8 0, .bool false, .bool false, .int .u8 0, .int .u8 0, .int .u8 0, .int .u8 0, .int .u8 0, .int .u8 0, .int .u8 0, .int .u8 0, .int .u8 0, .int .u8 0, .int .u8 0, .int .u8 0]) := Lib.hid (by
    have := Blk.new (W.alloc (.cells #[.int .u8 p.l.toNat, .int .u8 p.o.toNat, .int .u8 p.g.toNat, .string ⟨s.toArray⟩, .slice A n k] 31)) 43 #[.int .u8 0, .int .u32 0, .int .u8 0, .bool false, .bool false, .int .u8 0, .int .u8 0, .int .u8 0, .int .u8 0, .int .u8 0, .int .u8 0, .int .u8 0, .int .u8 0, .int .u8 0, .int .u8 0, .int .u8 0, .int .u8 0]
    simpa using this)
  have hbz : (((((W.alloc (.cells #[.int .u8 p.l.toNat, .int .u8 p.o.toNat, .int .u8 p.g.toNat, .string ⟨s.toArray⟩, .slice A n k] 31)).alloc (.cells #[.int .u8 0, .int .u32 0, .int .u8 0, .bool false, .bool false, .int .u8 0, .int .u8 0, .int .u8 0, .int .u8 0, .int .u8 0, .int .u8 0, .int .u8 0, .int .u8 0, .int .u8 0, .int .u8 0, .int .u8 0, .int .u8 0] 43))))).heap.size = W.heap.size + 2 := by simp
  have p0 := HP0.out.cell 0
  have p3 := HP0.out.cell 3
  simp only [List.getElem?_toArray, List.getElem?_cons_succ, List.getElem?_cons_zero] at p0 p3
  go_enter Try.func36, Try.ntmps36
  go_wp2_with fail
  refine (of_any s).mono ?_
  rintro r w1 ⟨rfl, hr1, hb1⟩
  rw [hbz] at hr1 hb1
  obtain ⟨b, hb⟩ : ∃ b, W.heap.size + 2 = b := ⟨_, rfl⟩
  obtain ⟨c, hc⟩ : ∃ g, w1.heap.size = g := ⟨_, rfl⟩
  obtain ⟨g, hg⟩ : ∃ g, c + 1 = g := ⟨_, rfl⟩
  rw [hb] at hr1
  have x0 : ((w1.alloc (.cells #[.pointer (some ⟨b, 0, none⟩)] 73)).alloc (.cells #[.int .u8 0, .int .u32 0, .int .u8 0, .bool false, .bool false, .int .u8 0, .int .u8 0, .int .u8 0, .int .u8 0, .int .u8 0, .int .u8 0, .int .u8 0, .int .u8 0, .int .u8 0, .int .u8 0, .int .u8 0, .int .u8 0] 43)).cell? ⟨W.heap.size, 0, none⟩ = some (.int .u8 p.l.toNat) := by
    have h := (((HP0.out.below hb1 (by omega)).alloc (.cells #[.pointer (some ⟨b, 0, none⟩)] 73)).alloc (.cells #[.int .u8 0, .int .u32 0, .int .u8 0, .bool false, .bool false, .int .u8 0, .int .u8 0, .int .u8 0, .int .u8 0, .int .u8 0, .int .u8 0, .int .u8 0, .int .u8 0, .int .u8 0, .int .u8 0, .int .u8 0, .int .u8 0] 43)).cell 0
    simpa only [List.getElem?_toArray, List.getElem?_cons_succ, List.getElem?_cons_zero] using h
  have H1 : Hid (RpS W b c g #[.int .u8 p.l.toNat, .int .u8 p.o.toNat, .int .u8 p.g.toNat, .string ⟨s.toArray⟩, .slice A n k] s 0 #[.int .u8 p.l.toNat, .int .u32 0, .int .u8 0, .bool false, .bool false, .int .u8 0, .int .u8 0, .int .u8 0, .int .u8 0, .int .u8 0, .int .u8 0, .int .u8 0, .int .u8 0, .int .u8 0, .int .u8 0, .int .u8 0, .int .u8 0] ((w1.alloc (.cells #[.pointer (some ⟨b, 0, none⟩)] 73)).alloc (.cells #[.int .u8 p.l.toNat, .int .u32 0, .int .u8 0, .bool false, .bool false, .int .u8 0, .int .u8 0, .int .u8 0, .int .u8 0, .int .u8 0, .int .u8 0, .int .u8 0, .int .u8 0, .int .u8 0, .int .u8 0, .int .u8 0, .int .u8 0] 43))) := Lib.hid (by
    have hlt := Blk.lt hr1
    have hz := hb1.size
    have k0 := Blk.new w1 73 #[.pointer (some ⟨b, 0, none⟩)]
    have k1 := Blk.new (w1.alloc (.cells #[.pointer (some ⟨b, 0, none⟩)] 73)) 43 #[.int .u8 p.l.toNat, .int .u32 0, .int .u8 0, .bool false, .bool false, .int .u8 0, .int .u8 0, .int .u8 0, .int .u8 0, .int .u8 0, .int .u8 0, .int .u8 0, .int .u8 0, .int .u8 0, .int .u8 0, .int .u8 0, .int .u8 0]
    rw [World.size_alloc, hc, hg] at k1
    rw [hc] at k0 hlt
    refine ⟨((HP0.out.below hb1 (by omega)).alloc _).alloc _, ((HR0.out.below hb1 (by omega)).alloc _).alloc _, k1, Blk.alloc (Blk.alloc hr1 _) _, ?_, by omega, k0.alloc _, by omega, by omega⟩
    exact (((((Below.refl _ _).alloc (Nat.le_refl _) _).alloc (by simp) _).trans (hb1.mono (by omega))).alloc (by omega) _).alloc (by simp; omega) _)
  have hne : W.heap.size ≠ g := by have := hb1.size; omega
  have hcg : c ≠ g := by omega
  have hcb : c ≠ b := by have := Blk.lt hr1; omega
  have HCB := Lib.hid hcb
  clear hr1 hb1 HP0 HR0 p0 p3 hcb
  simp only [hbz, hb]
  clear hbz
  have pt := H1.out.ptr.cell 0
  simp only [List.getElem?_toArray, List.getElem?_cons_succ, List.getElem?_cons_zero] at pt
  go_wp2_with fail
  refine (K1.out _ _ H1.out.rdr).mono ?_
  rintro r w2 ⟨rfl, hr, hc⟩
  have H2a := Lib.hid (H1.out.call hr hc)
  clear hr hc H1
  have H2 : Hid (RpS W b c g #[.int .u8 p.l.toNat, .int .u8 p.o.toNat, .int .u8 p.g.toNat, .string ⟨s.toArray⟩, .slice A n k] L1 E1 #[.int .u8 p.l.toNat, .int .u32 q.toNat, .int .u8 0, .bool false, .bool false, .int .u8 0, .int .u8 0, .int .u8 0, .int .u8 0, .int .u8 0, .int .u8 0, .int .u8 0, .int .u8 0, .int .u8 0, .int .u8 0, .int .u8 0, .int .u8 0] (w2.setCell ⟨g, 1, none⟩ (.int .u32 q.toNat))) := Lib.hid (by
    have h := (H2a.out.put 1 (.int .u32 q.toNat))
    simpa using h)
  have c1 := H2a.out.cur.cell 1
  simp only [List.getElem?_toArray, List.getElem?_cons_succ, List.getElem?_cons_zero] at c1
  have f1 := H2a.out.cur.frozen 1
  clear H2a
  clear pt
  have pt := H2.out.ptr.cell 0
  simp only [List.getElem?_toArray, List.getElem?_cons_succ, List.getElem?_cons_zero] at pt
  clear x0
  go_wp2_with fail
  refine (K2.out _ _ H2.out.rdr).mono ?_
  rintro r w3 ⟨rfl, hr, hc⟩
  have H3a := Lib.hid (H2.out.call hr hc)
  clear hr hc H2
  have H3 : Hid (RpS W b c g #[.int .u8 p.l.toNat, .int .u8 p.o.toNat, .int .u8 p.g.toNat, .string ⟨s.toArray⟩, .slice A n k] L2 E2 #[.int .u8 p.l.toNat, .int .u32 q.toNat, .int .u8 kk.toNat, .bool bs, .bool be, .int .u8 0, .int .u8 0, .int .u8 0, .int .u8 0, .int .u8 0, .int .u8 0, .int .u8 0, .int .u8 0, .int .u8 0, .int .u8 0, .int .u8 0, .int .u8 0] (((w3.setCell ⟨g, 2, none⟩ (.int .u8 kk.toNat)).setCell ⟨g, 3, none⟩ (.bool bs)).setCell ⟨g, 4, none⟩ (.bool be))) := Lib.hid (by
    have h := (((H3a.out.put 2 (.int .u8 kk.toNat)).put 3 (.bool bs)).put 4 (.bool be))
    simpa using h)
  have c2 := H3a.out.cur.cell 2
  have c3 := H3a.out.cur.cell 3
  have c4 := H3a.out.cur.cell 4
  simp only [List.getElem?_toArray, List.getElem?_cons_succ, List.getElem?_cons_zero] at c2 c3 c4
  have f2 := H3a.out.cur.frozen 2
  have f3 := H3a.out.cur.frozen 3
  have f4 := H3a.out.cur.frozen 4
  have x2 := H3a.out.pdu.cell 2
  simp only [List.getElem?_toArray, List.getElem?_cons_succ, List.getElem?_cons_zero] at x2
  clear H3a
  clear c1 f1 pt
  have pt := H3.out.ptr.cell 0
  simp only [List.getElem?_toArray, List.getElem?_cons_succ, List.getElem?_cons_zero] at pt
  go_upto_if 35 with (fail)
  clear c2 c3 c4 f2 f3 f4 x2 pt
  go_cut [35] (fun a wx => a = .bool d ∧ Hid (RpS W b c g #[.int .u8 p.l.toNat, .int .u8 p.o.toNat, .int .u8 p.g.toNat, .string ⟨s.toArray⟩, .slice A n k] L3 E3 #[.int .u8 p.l.toNat, .int .u32 q.toNat, .int .u8 kk.toNat, .bool bs, .bool be, .int .u8 0, .int .u8 0, .int .u8 0, .int .u8 0, .int .u8 0, .int .u8 0, .int .u8 0, .int .u8 0, .int .u8 0, .int .u8 0, .int .u8 0, .int .u8 0] wx))
  case first =>
    have H3d := Lib.hid H3.out.drew
    have pt := H3d.out.ptr.cell 0
    have y4 := H3d.out.cur.cell 4
    simp only [List.getElem?_toArray, List.getElem?_cons_succ, List.getElem?_cons_zero] at pt y4
    go_wp2_with fail
    go_region_with (first
      | (go_at_call 29; refine (K3.out _ _ H3d.out.rdr).mono ?_; rintro r w4 ⟨rfl, hr, hc_⟩; have H4 := Lib.hid (H3d.out.call hr hc_); clear hr hc_; have y4' := H4.out.cur.cell 4; simp only [List.getElem?_toArray, List.getElem?_cons_succ, List.getElem?_cons_zero] at y4')
      | (go_at_call 22; refine (K6.out _).mono ?_; rintro r w5 ⟨rfl, rfl⟩)
      | fail "no")
    all_goals (
      go_wp2_with fail
      go_meet
      exact ⟨rfl, H4⟩)
  obtain ⟨rfl, H3⟩ := hcut
  clear K3 K6 g64 g32 q3
  cases d
  · obtain rfl : E3 = E4 := H4E.out
    have H4 := H3
    clear H3
    go_wp2_with fail
    refine (KP5.out _ _ _ _ H4.out.pdu (HEW.out.next H4.out.below) H4.out.ptr H4.out.rdr HCB.out).mono ?_
    rintro r w5 ⟨rfl, hr, hc⟩
    have H5a := Lib.hid (H4.out.call hr hc)
    clear hr hc H4
    have H5 : Hid (RpS W b c g #[.int .u8 p.l.toNat, .int .u8 p.o.toNat, .int .u8 p.g.toNat, .string ⟨s.toArray⟩, .slice A n k] L3 E5 #[.int .u8 p.l.toNat, .int .u32 q.toNat, .int .u8 kk.toNat, .bool bs, .bool be, .int .u8 ai.a.toNat, .int .u8 ai.b.toNat, .int .u8 ai.c.toNat, .int .u8 ai.d.toNat, .int .u8 ai.e.toNat, .int .u8 ai.f.toNat, .int .u8 0, .int .u8 0, .int .u8 0, .int .u8 0, .int .u8 0, .int .u8 0] ((((((w5.setCell ⟨g, 5, none⟩ (.int .u8 ai.a.toNat)).setCell ⟨g, 6, none⟩ (.int .u8 ai.b.toNat)).setCell ⟨g, 7, none⟩ (.int .u8 ai.c.toNat)).setCell ⟨g, 8, none⟩ (.int .u8 ai.d.toNat)).setCell ⟨g, 9, none⟩ (.int .u8 ai.e.toNat)).setCell ⟨g, 10, none⟩ (.int .u8 ai.f.toNat))) := Lib.hid (by
      have h := ((((((H5a.out.put 5 (.int .u8 ai.a.toNat)).put 6 (.int .u8 ai.b.toNat)).put 7 (.int .u8 ai.c.toNat)).put 8 (.int .u8 ai.d.toNat)).put 9 (.int .u8 ai.e.toNat)).put 10 (.int .u8 ai.f.toNat))
      simpa using h)
    have c5 := H5a.out.cur.cell 5
    have c6 := H5a.out.cur.cell 6
    have c7 := H5a.out.cur.cell 7
    have c8 := H5a.out.cur.cell 8
    have c9 := H5a.out.cur.cell 9
    have c10 := H5a.out.cur.cell 10
    simp only [List.getElem?_toArray, List.getElem?_cons_succ, List.getElem?_cons_zero] at c5 c6 c7 c8 c9 c10
    have f5 := H5a.out.cur.frozen 5
    have f6 := H5a.out.cur.frozen 6
    have f7 := H5a.out.cur.frozen 7
    have f8 := H5a.out.cur.frozen 8
    have f9 := H5a.out.cur.frozen 9
    have f10 := H5a.out.cur.frozen 10
    clear H5a
    go_wp2_with fail
    refine (KP6.out _ _ _ _ H5.out.pdu (HEW.out.next H5.out.below) H5.out.ptr H5.out.rdr HCB.out).mono ?_
    rintro r w6 ⟨rfl, hr, hc⟩
    have H6a := Lib.hid (H5.out.call hr hc)
    clear hr hc H5 c5 c6 c7 c8 c9 c10 f5 f6 f7 f8 f9 f10
    have H6 : Hid (RpS W b c g #[.int .u8 p.l.toNat, .int .u8 p.o.toNat, .int .u8 p.g.toNat, .string ⟨s.toArray⟩, .slice A n k] L3 E6 #[.int .u8 p.l.toNat, .int .u32 q.toNat, .int .u8 kk.toNat, .bool bs, .bool be, .int .u8 ai.a.toNat, .int .u8 ai.b.toNat, .int .u8 ai.c.toNat, .int .u8 ai.d.toNat, .int .u8 ai.e.toNat, .int .u8 ai.f.toNat, .int .u8 au.a.toNat, .int .u8 au.b.toNat, .int .u8 au.c.toNat, .int .u8 au.d.toNat, .int .u8 au.e.toNat, .int .u8 au.f.toNat] ((((((w6.setCell ⟨g, 11, none⟩ (.int .u8 au.a.toNat)).setCell ⟨g, 12, none⟩ (.int .u8 au.b.toNat)).setCell ⟨g, 13, none⟩ (.int .u8 au.c.toNat)).setCell ⟨g, 14, none⟩ (.int .u8 au.d.toNat)).setCell ⟨g, 15, none⟩ (.int .u8 au.e.toNat)).setCell ⟨g, 16, none⟩ (.int .u8 au.f.toNat))) := Lib.hid (by
      have h := ((((((H6a.out.put 11 (.int .u8 au.a.toNat)).put 12 (.int .u8 au.b.toNat)).put 13 (.int .u8 au.c.toNat)).put 14 (.int .u8 au.d.toNat)).put 15 (.int .u8 au.e.toNat)).put 16 (.int .u8 au.f.toNat))
      simpa using h)
    have c11 := H6a.out.cur.cell 11
    have c12 := H6a.out.cur.cell 12
    have c13 := H6a.out.cur.cell 13
    have c14 := H6a.out.cur.cell 14
    have c15 := H6a.out.cur.cell 15
    have c16 := H6a.out.cur.cell 16
    simp only [List.getElem?_toArray, List.getElem?_cons_succ, List.getElem?_cons_zero] at c11 c12 c13 c14 c15 c16
    have f11 := H6a.out.cur.frozen 11
    have f12 := H6a.out.cur.frozen 12
    have f13 := H6a.out.cur.frozen 13
    have f14 := H6a.out.cur.frozen 14
    have f15 := H6a.out.cur.frozen 15
    have f16 := H6a.out.cur.frozen 16
    clear H6a
    have H6d := Lib.hid H6.out.drew
    clear H6
    have HS0 : Hid (Blk _ g 43 #[.int .u8 p.l.toNat, .int .u32 q.toNat, .int .u8 kk.toNat, .bool bs, .bool be, .int .u8 ai.a.toNat, .int .u8 ai.b.toNat, .int .u8 ai.c.toNat, .int .u8 ai.d.toNat, .int .u8 ai.e.toNat, .int .u8 ai.f.toNat, .int .u8 au.a.toNat, .int .u8 au.b.toNat, .int .u8 au.c.toNat, .int .u8 au.d.toNat, .int .u8 au.e.toNat, .int .u8 au.f.toNat] ∧ Blk _ c 73 #[.pointer (some ⟨b, 0, none⟩)]) := Lib.hid ⟨H6d.out.cur, H6d.out.ptr⟩
    go_wp2_with fail
    clear c11 c12 c13 c14 c15 c16 f11 f12 f13 f14 f15 f16
    refine wp_region_noPanic ?_
    refine wp_region_held_drew (S := fun w_ => Blk w_ g 43 #[.int .u8 p.l.toNat, .int .u32 q.toNat, .int .u8 kk.toNat, .bool bs, .bool be, .int .u8 ai.a.toNat, .int .u8 ai.b.toNat, .int .u8 ai.c.toNat, .int .u8 ai.d.toNat, .int .u8 ai.e.toNat, .int .u8 ai.f.toNat, .int .u8 au.a.toNat, .int .u8 au.b.toNat, .int .u8 au.c.toNat, .int .u8 au.d.toNat, .int .u8 au.e.toNat, .int .u8 au.f.toNat] ∧ Blk w_ c 73 #[.pointer (some ⟨b, 0, none⟩)]) (by kernel_rfl) HS0.out (fun hHeld => ?_)
    refine wpAnyH_take (i := 0) (v := .agg #[.int .u8 p.l.toNat, .int .u32 q.toNat, .int .u8 kk.toNat, .bool bs, .bool be, .int .u8 ai.a.toNat, .int .u8 ai.b.toNat, .int .u8 ai.c.toNat, .int .u8 ai.d.toNat, .int .u8 ai.e.toNat, .int .u8 ai.f.toNat, .int .u8 au.a.toNat, .int .u8 au.b.toNat, .int .u8 au.c.toNat, .int .u8 au.d.toNat, .int .u8 au.e.toNat, .int .u8 au.f.toNat]) rfl (by kernel_rfl) (by kernel_rfl) (by kernel_rfl) (fun _ _ _ h => h) (yieldsIf_row15 43 6 rfl (by rfl) g rfl 43 _ _ (fun w_ hw => hw.1) Try.underlying43 rfl (by kernel_rfl)) hHeld ?_
    try simp only [Act.put, List.getElem_toArray, List.getElem_cons_succ, List.getElem_cons_zero, List.setIfInBounds_toArray, List.set_cons_zero, List.set_cons_succ]
    refine wpAnyH_take (i := 1) (v := ?v1) rfl (by kernel_rfl) (by kernel_rfl) (by kernel_rfl) (fun _ _ _ h => h) (Or.inl ⟨by rfl, ?hy1⟩) hHeld ?rest1
    case hy1 =>
      intro w_ hSw; have pt := hSw.2.cell 0; simp only [List.getElem?_toArray, List.getElem?_cons_succ, List.getElem?_cons_zero] at pt; go_simp
      all_goals (with_reducible rfl)
    try simp only [Act.put, List.getElem_toArray, List.getElem_cons_succ, List.getElem_cons_zero, List.setIfInBounds_toArray, List.set_cons_zero, List.set_cons_succ]
    refine wpAnyH_ready (rs := [2]) (by kernel_rfl) (by simp) ?_
    refine AllReadyH.cons rfl (fun K hK => ?_) AllReadyH.nil
    go_simp
    go_at_call 51
    refine (K7.out _ _ H6d.out.rdr).mono ?_
    rintro e w7 ⟨rfl, hr, hc_⟩
    have H7 := Lib.hid (H6d.out.call hr hc_)
    clear hr hc_
    refine hK.out _ _ (⟨H7.out.cur, H7.out.ptr⟩) (fun hHeld => ?_)
    clear hK K
    try simp only [Act.put, List.getElem_toArray, List.getElem_cons_succ, List.getElem_cons_zero, List.setIfInBounds_toArray, List.set_cons_zero, List.set_cons_succ]
    refine wpAnyH_ready (rs := [3]) (by kernel_rfl) (by simp) ?_
    refine AllReadyH.cons rfl (fun K hK => ?_) AllReadyH.nil
    refine step_store_row15 rfl 43 (.tmp 2) (.tmp 44) rfl (W.heap.size + 1) rfl #[.int .u8 p.l.toNat, .int .u32 q.toNat, .int .u8 kk.toNat, .bool bs, .bool be, .int .u8 ai.a.toNat, .int .u8 ai.b.toNat, .int .u8 ai.c.toNat, .int .u8 ai.d.toNat, .int .u8 ai.e.toNat, .int .u8 ai.f.toNat, .int .u8 au.a.toNat, .int .u8 au.b.toNat, .int .u8 au.c.toNat, .int .u8 au.d.toNat, .int .u8 au.e.toNat, .int .u8 au.f.toNat] rfl 43 _ H7.out.res (by kernel_rfl) rfl (by kernel_rfl) ?_
    have hR9 := Blk.row H7.out.res #[.int .u8 p.l.toNat, .int .u32 q.toNat, .int .u8 kk.toNat, .bool bs, .bool be, .int .u8 ai.a.toNat, .int .u8 ai.b.toNat, .int .u8 ai.c.toNat, .int .u8 ai.d.toNat, .int .u8 ai.e.toNat, .int .u8 ai.f.toNat, .int .u8 au.a.toNat, .int .u8 au.b.toNat, .int .u8 au.c.toNat, .int .u8 au.d.toNat, .int .u8 au.e.toNat, .int .u8 au.f.toNat]
    have hB9 := below_row H7.out.below (show W.heap.size ≤ W.heap.size + 1 by omega) #[.int .u8 p.l.toNat, .int .u32 q.toNat, .int .u8 kk.toNat, .bool bs, .bool be, .int .u8 ai.a.toNat, .int .u8 ai.b.toNat, .int .u8 ai.c.toNat, .int .u8 ai.d.toNat, .int .u8 ai.e.toNat, .int .u8 ai.f.toNat, .int .u8 au.a.toNat, .int .u8 au.b.toNat, .int .u8 au.c.toNat, .int .u8 au.d.toNat, .int .u8 au.e.toNat, .int .u8 au.f.toNat]
    have hne1 : g ≠ W.heap.size + 1 := by have := H7.out.lt1; have := H7.out.lt2; have := H7.out.lt3; omega
    have hne2 : c ≠ W.heap.size + 1 := by have := H7.out.lt1; have := H7.out.lt2; omega
    refine hK.out _ _ (⟨H7.out.cur.rowFar hne1 _, H7.out.ptr.rowFar hne2 _⟩) (fun hHeld => ?_)
    clear hK K
    try simp only [Act.put, List.getElem_toArray, List.getElem_cons_succ, List.getElem_cons_zero, List.setIfInBounds_toArray, List.set_cons_zero, List.set_cons_succ]
    refine wpAnyH_take (i := 4) (v := ?v2) rfl (by kernel_rfl) (by kernel_rfl) (by kernel_rfl) (fun _ _ _ h => h) (Or.inl ⟨by rfl, ?hy2⟩) hHeld ?rest2
    case hy2 =>
      intro w_ hSw; go_simp
      all_goals (with_reducible rfl)
    try simp only [Act.put, List.getElem_toArray, List.getElem_cons_succ, List.getElem_cons_zero, List.setIfInBounds_toArray, List.set_cons_zero, List.set_cons_succ]
    refine wpAnyH_done (by kernel_rfl) ?_ _
    refine NoPanic.normal ?_
    have H9 := Lib.hid (And.intro hR9 hB9)
    clear hR9 hB9 hHeld
    go_wp2_with fail
    refine bodyPost_ret (v := .tuple #[.agg #[.int .u8 p.l.toNat, .int .u32 q.toNat, .int .u8 kk.toNat, .bool bs, .bool be, .int .u8 ai.a.toNat, .int .u8 ai.b.toNat, .int .u8 ai.c.toNat, .int .u8 ai.d.toNat, .int .u8 ai.e.toNat, .int .u8 ai.f.toNat, .int .u8 au.a.toNat, .int .u8 au.b.toNat, .int .u8 au.c.toNat, .int .u8 au.d.toNat, .int .u8 au.e.toNat, .int .u8 au.f.toNat], .int .i64 E7]) (results_cell_slot (p := 2) (q := 3) (by kernel_rfl) _ _ (W.heap.size + 1) 43 _ _ rfl H9.out.1 Try.underlying43 rfl (by kernel_rfl) _ rfl) rfl ?_
    exact ⟨⟨p.l, q, kk, bs, be, ai, au⟩, E7, rfl, HF.out.1, HF.out.2, H9.out.2⟩
  · have pt4 := H3.out.ptr.cell 0
    simp only [List.getElem?_toArray, List.getElem?_cons_succ, List.getElem?_cons_zero] at pt4
    go_wp2_with fail
    refine (K4.out _ _ H3.out.rdr).mono ?_
    rintro r w4 ⟨rfl, hr, hc_⟩
    obtain rfl : bdE E3 = E4 := H4E.out
    have H4 := Lib.hid (H3.out.call hr hc_)
    clear hr hc_ H3 pt4
    go_wp2_with fail
    refine (KP5.out _ _ _ _ H4.out.pdu (HEW.out.next H4.out.below) H4.out.ptr H4.out.rdr HCB.out).mono ?_
    rintro r w5 ⟨rfl, hr, hc⟩
    have H5a := Lib.hid (H4.out.call hr hc)
    clear hr hc H4
    have H5 : Hid (RpS W b c g #[.int .u8 p.l.toNat, .int .u8 p.o.toNat, .int .u8 p.g.toNat, .string ⟨s.toArray⟩, .slice A n k] L3 E5 #[.int .u8 p.l.toNat, .int .u32 q.toNat, .int .u8 kk.toNat, .bool bs, .bool be, .int .u8 ai.a.toNat, .int .u8 ai.b.toNat, .int .u8 ai.c.toNat, .int .u8 ai.d.toNat, .int .u8 ai.e.toNat, .int .u8 ai.f.toNat, .int .u8 0, .int .u8 0, .int .u8 0, .int .u8 0, .int .u8 0, .int .u8 0] ((((((w5.setCell ⟨g, 5, none⟩ (.int .u8 ai.a.toNat)).setCell ⟨g, 6, none⟩ (.int .u8 ai.b.toNat)).setCell ⟨g, 7, none⟩ (.int .u8 ai.c.toNat)).setCell ⟨g, 8, none⟩ (.int .u8 ai.d.toNat)).setCell ⟨g, 9, none⟩ (.int .u8 ai.e.toNat)).setCell ⟨g, 10, none⟩ (.int .u8 ai.f.toNat))) := Lib.hid (by
      have h := ((((((H5a.out.put 5 (.int .u8 ai.a.toNat)).put 6 (.int .u8 ai.b.toNat)).put 7 (.int .u8 ai.c.toNat)).put 8 (.int .u8 ai.d.toNat)).put 9 (.int .u8 ai.e.toNat)).put 10 (.int .u8 ai.f.toNat))
      simpa using h)
    have c5 := H5a.out.cur.cell 5
    have c6 := H5a.out.cur.cell 6
    have c7 := H5a.out.cur.cell 7
    have c8 := H5a.out.cur.cell 8
    have c9 := H5a.out.cur.cell 9
    have c10 := H5a.out.cur.cell 10
    simp only [List.getElem?_toArray, List.getElem?_cons_succ, List.getElem?_cons_zero] at c5 c6 c7 c8 c9 c10
    have f5 := H5a.out.cur.frozen 5
    have f6 := H5a.out.cur.frozen 6
    have f7 := H5a.out.cur.frozen 7
    have f8 := H5a.out.cur.frozen 8
    have f9 := H5a.out.cur.frozen 9
    have f10 := H5a.out.cur.frozen 10
    clear H5a
    go_wp2_with fail
    refine (KP6.out _ _ _ _ H5.out.pdu (HEW.out.next H5.out.below) H5.out.ptr H5.out.rdr HCB.out).mono ?_
    rintro r w6 ⟨rfl, hr, hc⟩
    have H6a := Lib.hid (H5.out.call hr hc)
    clear hr hc H5 c5 c6 c7 c8 c9 c10 f5 f6 f7 f8 f9 f10
    have H6 : Hid (RpS W b c g #[.int .u8 p.l.toNat, .int .u8 p.o.toNat, .int .u8 p.g.toNat, .string ⟨s.toArray⟩, .slice A n k] L3 E6 #[.int .u8 p.l.toNat, .int .u32 q.toNat, .int .u8 kk.toNat, .bool bs, .bool be, .int .u8 ai.a.toNat, .int .u8 ai.b.toNat, .int .u8 ai.c.toNat, .int .u8 ai.d.toNat, .int .u8 ai.e.toNat, .int .u8 ai.f.toNat, .int .u8 au.a.toNat, .int .u8 au.b.toNat, .int .u8 au.c.toNat, .int .u8 au.d.toNat, .int .u8 au.e.toNat, .int .u8 au.f.toNat] ((((((w6.setCell ⟨g, 11, none⟩ (.int .u8 au.a.toNat)).setCell ⟨g, 12, none⟩ (.int .u8 au.b.toNat)).setCell ⟨g, 13, none⟩ (.int .u8 au.c.toNat)).setCell ⟨g, 14, none⟩ (.int .u8 au.d.toNat)).setCell ⟨g, 15, none⟩ (.int .u8 au.e.toNat)).setCell ⟨g, 16, none⟩ (.int .u8 au.f.toNat))) := Lib.hid (by
      have h := ((((((H6a.out.put 11 (.int .u8 au.a.toNat)).put 12 (.int .u8 au.b.toNat)).put 13 (.int .u8 au.c.toNat)).put 14 (.int .u8 au.d.toNat)).put 15 (.int .u8 au.e.toNat)).put 16 (.int .u8 au.f.toNat))
      simpa using h)
    have c11 := H6a.out.cur.cell 11
    have c12 := H6a.out.cur.cell 12
    have c13 := H6a.out.cur.cell 13
    have c14 := H6a.out.cur.cell 14
    have c15 := H6a.out.cur.cell 15
    have c16 := H6a.out.cur.cell 16
    simp only [List.getElem?_toArray, List.getElem?_cons_succ, List.getElem?_cons_zero] at c11 c12 c13 c14 c15 c16
    have f11 := H6a.out.cur.frozen 11
    have f12 := H6a.out.cur.frozen 12
    have f13 := H6a.out.cur.frozen 13
    have f14 := H6a.out.cur.frozen 14
    have f15 := H6a.out.cur.frozen 15
    have f16 := H6a.out.cur.frozen 16
    clear H6a
    have H6d := Lib.hid H6.out.drew
    clear H6
    have HS0 : Hid (Blk _ g 43 #[.int .u8 p.l.toNat, .int .u32 q.toNat, .int .u8 kk.toNat, .bool bs, .bool be, .int .u8 ai.a.toNat, .int .u8 ai.b.toNat, .int .u8 ai.c.toNat, .int .u8 ai.d.toNat, .int .u8 ai.e.toNat, .int .u8 ai.f.toNat, .int .u8 au.a.toNat, .int .u8 au.b.toNat, .int .u8 au.c.toNat, .int .u8 au.d.toNat, .int .u8 au.e.toNat, .int .u8 au.f.toNat] ∧ Blk _ c 73 #[.pointer (some ⟨b, 0, none⟩)]) := Lib.hid ⟨H6d.out.cur, H6d.out.ptr⟩
    go_wp2_with fail
    clear c11 c12 c13 c14 c15 c16 f11 f12 f13 f14 f15 f16
    refine wp_region_noPanic ?_
    refine wp_region_held_drew (S := fun w_ => Blk w_ g 43 #[.int .u8 p.l.toNat, .int .u32 q.toNat, .int .u8 kk.toNat, .bool bs, .bool be, .int .u8 ai.a.toNat, .int .u8 ai.b.toNat, .int .u8 ai.c.toNat, .int .u8 ai.d.toNat, .int .u8 ai.e.toNat, .int .u8 ai.f.toNat, .int .u8 au.a.toNat, .int .u8 au.b.toNat, .int .u8 au.c.toNat, .int .u8 au.d.toNat, .int .u8 au.e.toNat, .int .u8 au.f.toNat] ∧ Blk w_ c 73 #[.pointer (some ⟨b, 0, none⟩)]) (by kernel_rfl) HS0.out (fun hHeld => ?_)
    refine wpAnyH_take (i := 0) (v := .agg #[.int .u8 p.l.toNat, .int .u32 q.toNat, .int .u8 kk.toNat, .bool bs, .bool be, .int .u8 ai.a.toNat, .int .u8 ai.b.toNat, .int .u8 ai.c.toNat, .int .u8 ai.d.toNat, .int .u8 ai.e.toNat, .int .u8 ai.f.toNat, .int .u8 au.a.toNat, .int .u8 au.b.toNat, .int .u8 au.c.toNat, .int .u8 au.d.toNat, .int .u8 au.e.toNat, .int .u8 au.f.toNat]) rfl (by kernel_rfl) (by kernel_rfl) (by kernel_rfl) (fun _ _ _ h => h) (yieldsIf_row15 43 6 rfl (by rfl) g rfl 43 _ _ (fun w_ hw => hw.1) Try.underlying43 rfl (by kernel_rfl)) hHeld ?_
    try simp only [Act.put, List.getElem_toArray, List.getElem_cons_succ, List.getElem_cons_zero, List.setIfInBounds_toArray, List.set_cons_zero, List.set_cons_succ]
    refine wpAnyH_take (i := 1) (v := ?vb1) rfl (by kernel_rfl) (by kernel_rfl) (by kernel_rfl) (fun _ _ _ h => h) (Or.inl ⟨by rfl, ?hyb1⟩) hHeld ?restb1
    case hyb1 =>
      intro w_ hSw; have pt := hSw.2.cell 0; simp only [List.getElem?_toArray, List.getElem?_cons_succ, List.getElem?_cons_zero] at pt; go_simp
      all_goals (with_reducible rfl)
    try simp only [Act.put, List.getElem_toArray, List.getElem_cons_succ, List.getElem_cons_zero, List.setIfInBounds_toArray, List.set_cons_zero, List.set_cons_succ]
    refine wpAnyH_ready (rs := [2]) (by kernel_rfl) (by simp) ?_
    refine AllReadyH.cons rfl (fun K hK => ?_) AllReadyH.nil
    go_simp
    go_at_call 51
    refine (K7.out _ _ H6d.out.rdr).mono ?_
    rintro e w7 ⟨rfl, hr, hc_⟩
    have H7 := Lib.hid (H6d.out.call hr hc_)
    clear hr hc_
    refine hK.out _ _ (⟨H7.out.cur, H7.out.ptr⟩) (fun hHeld => ?_)
    clear hK K
    try simp only [Act.put, List.getElem_toArray, List.getElem_cons_succ, List.getElem_cons_zero, List.setIfInBounds_toArray, List.set_cons_zero, List.set_cons_succ]
    refine wpAnyH_ready (rs := [3]) (by kernel_rfl) (by simp) ?_
    refine AllReadyH.cons rfl (fun K hK => ?_) AllReadyH.nil
    refine step_store_row15 rfl 43 (.tmp 2) (.tmp 44) rfl (W.heap.size + 1) rfl #[.int .u8 p.l.toNat, .int .u32 q.toNat, .int .u8 kk.toNat, .bool bs, .bool be, .int .u8 ai.a.toNat, .int .u8 ai.b.toNat, .int .u8 ai.c.toNat, .int .u8 ai.d.toNat, .int .u8 ai.e.toNat, .int .u8 ai.f.toNat, .int .u8 au.a.toNat, .int .u8 au.b.toNat, .int .u8 au.c.toNat, .int .u8 au.d.toNat, .int .u8 au.e.toNat, .int .u8 au.f.toNat] rfl 43 _ H7.out.res (by kernel_rfl) rfl (by kernel_rfl) ?_
    have hR9 := Blk.row H7.out.res #[.int .u8 p.l.toNat, .int .u32 q.toNat, .int .u8 kk.toNat, .bool bs, .bool be, .int .u8 ai.a.toNat, .int .u8 ai.b.toNat, .int .u8 ai.c.toNat, .int .u8 ai.d.toNat, .int .u8 ai.e.toNat, .int .u8 ai.f.toNat, .int .u8 au.a.toNat, .int .u8 au.b.toNat, .int .u8 au.c.toNat, .int .u8 au.d.toNat, .int .u8 au.e.toNat, .int .u8 au.f.toNat]
    have hB9 := below_row H7.out.below (show W.heap.size ≤ W.heap.size + 1 by omega) #[.int .u8 p.l.toNat, .int .u32 q.toNat, .int .u8 kk.toNat, .bool bs, .bool be, .int .u8 ai.a.toNat, .int .u8 ai.b.toNat, .int .u8 ai.c.toNat, .int .u8 ai.d.toNat, .int .u8 ai.e.toNat, .int .u8 ai.f.toNat, .int .u8 au.a.toNat, .int .u8 au.b.toNat, .int .u8 au.c.toNat, .int .u8 au.d.toNat, .int .u8 au.e.toNat, .int .u8 au.f.toNat]
    have hne1 : g ≠ W.heap.size + 1 := by have := H7.out.lt1; have := H7.out.lt2; have := H7.out.lt3; omega
    have hne2 : c ≠ W.heap.size + 1 := by have := H7.out.lt1; have := H7.out.lt2; omega
    refine hK.out _ _ (⟨H7.out.cur.rowFar hne1 _, H7.out.ptr.rowFar hne2 _⟩) (fun hHeld => ?_)
    clear hK K
    try simp only [Act.put, List.getElem_toArray, List.getElem_cons_succ, List.getElem_cons_zero, List.setIfInBounds_toArray, List.set_cons_zero, List.set_cons_succ]
    refine wpAnyH_take (i := 4) (v := ?vb2) rfl (by kernel_rfl) (by kernel_rfl) (by kernel_rfl) (fun _ _ _ h => h) (Or.inl ⟨by rfl, ?hyb2⟩) hHeld ?restb2
    case hyb2 =>
      intro w_ hSw; go_simp
      all_goals (with_reducible rfl)
    try simp only [Act.put, List.getElem_toArray, List.getElem_cons_succ, List.getElem_cons_zero, List.setIfInBounds_toArray, List.set_cons_zero, List.set_cons_succ]
    refine wpAnyH_done (by kernel_rfl) ?_ _
    refine NoPanic.normal ?_
    have H9 := Lib.hid (And.intro hR9 hB9)
    clear hR9 hB9 hHeld
    go_wp2_with fail
    refine bodyPost_ret (v := .tuple #[.agg #[.int .u8 p.l.toNat, .int .u32 q.toNat, .int .u8 kk.toNat, .bool bs, .bool be, .int .u8 ai.a.toNat, .int .u8 ai.b.toNat, .int .u8 ai.c.toNat, .int .u8 ai.d.toNat, .int .u8 ai.e.toNat, .int .u8 ai.f.toNat, .int .u8 au.a.toNat, .int .u8 au.b.toNat, .int .u8 au.c.toNat, .int .u8 au.d.toNat, .int .u8 au.e.toNat, .int .u8 au.f.toNat], .int .i64 E7]) (results_cell_slot (p := 2) (q := 3) (by kernel_rfl) _ _ (W.heap.size + 1) 43 _ _ rfl H9.out.1 Try.underlying43 rfl (by kernel_rfl) _ rfl) rfl ?_
    exact ⟨⟨p.l, q, kk, bs, be, ai, au⟩, E7, rfl, HF.out.1, HF.out.2, H9.out.2⟩
set_option maxHeartbeats 8000000 in
theorem lttaker_impl : LtTakeRC := by
  intro A k p w hE hx ht hl
  have HE := Lib.hid hE
  obtain ⟨n, hn⟩ : ∃ n, p.t.length = n := ⟨_, rfl⟩
  have HN := Lib.hid (And.intro hn (show n ≤ 1000 by omega))
  show Calls _ _ #[.agg #[.int .u8 p.l.toNat, .int .u8 p.o.toNat, .int .u8 p.g.toNat, .string ⟨p.x.toArray⟩, .slice A p.t.length k]] _ _
  rw [hn]
  clear hn hx ht hE
  have HB0 : Hid (Below w.heap.size w ((w.alloc (.cells #[.int .u8 p.l.toNat, .int .u8 p.o.toNat, .int .u8 p.g.toNat, .string ⟨p.x.toArray⟩, .slice A n k] 31)).alloc (.cells #[.int .u8 0, .int .u32 0, .int .u8 0, .bool false, .bool false, .int .u8 0, .int .u8 0, .int .u8 0, .int .u8 0, .int .u8 0, .int .u8 0, .int .u8 0, .int .u8 0, .int .u8 0, .int .u8 0, .int .u8 0, .int .u8 0] 43))) := Lib.hid (((Below.refl _ _).alloc (Nat.le_refl _) _).alloc (by simp) _)
  have HK0 : Hid (Blk ((w.alloc (.cells #[.int .u8 p.l.toNat, .int .u8 p.o.toNat, .int .u8 p.g.toNat, .string ⟨p.x.toArray⟩, .slice A n k] 31)).alloc (.cells #[.int .u8 0, .int .u32 0, .int .u8 0, .bool false, .bool false, .int .u8 0, .int .u8 0, .int .u8 0, .int .u8 0, .int .u8 0, .int .u8 0, .int .u8 0, .int .u8 0, .int .u8 0, .int .u8 0, .int .u8 0, .int .u8 0] 43)) w.heap.size 31 #[.int .u8 p.l.toNat, .int .u8 p.o.toNat, .int .u8 p.g.toNat, .string ⟨p.x.toArray⟩, .slice A n k]) := Lib.hid ((Blk.new _ _ _).alloc _)
  have HR0 : Hid (Blk ((w.alloc (.cells #[.int .u8 p.l.toNat, .int .u8 p.o.toNat, .int .u8 p.g.toNat, .string ⟨p.x.toArray⟩, .slice A n k] 31)).alloc (.cells #[.int .u8 0, .int .u32 0, .int .u8 0, .bool false, .bool false, .int .u8 0, .int .u8 0, .int .u8 0, .int .u8 0, .int .u8 0, .int .u8 0, .int .u8 0, .int .u8 0, .int .u8 0, .int .u8 0, .int .u8 0, .int .u8 0] 43)) (w.heap.size + 1) 43 #[.int .u8 0, .int .u32 0, .int .u8 0, .bool false, .bool false, .int .u8 0, .int .u8 0, .int .u8 0, .int .u8 0, .int .u8 0, .int .u8 0, .int .u8 0, .int .u8 0, .int .u8 0, .int .u8 0, .int .u8 0, .int .u8 0]) := Lib.hid (by
    have := Blk.new (w.alloc (.cells #[.int .u8 p.l.toNat, .int .u8 p.o.toNat, .int .u8 p.g.toNat, .string ⟨p.x.toArray⟩, .slice A n k] 31)) 43 #[.int .u8 0, .int .u32 0, .int .u8 0, .bool false, .bool false, .int .u8 0, .int .u8 0, .int .u8 0, .int .u8 0, .int .u8 0, .int .u8 0, .int .u8 0, .int .u8 0, .int .u8 0, .int .u8 0, .int .u8 0, .int .u8 0]
    simpa using this)
  have HE0 := Lib.hid (HE.out.next HB0.out)
  have K1 := Lib.hid (fun w h => readreply_any A n k p w h HN.out.1 HN.out.2)
  have p7 : ¬ (7 : Int) < (p.l.toNat : Int) := by omega
  have j0 := HK0.out.cell 0
  have j1 := HK0.out.cell 1
  have j2 := HK0.out.cell 2
  have j3 := HK0.out.cell 3
  have j4 := HK0.out.cell 4
  simp only [List.getElem?_toArray, List.getElem?_cons_succ, List.getElem?_cons_zero] at j0 j1 j2 j3 j4
  go_enter Try.func17, Try.ntmps17
  go_wp2_with fail
  refine (K1.out _ HE0.out).mono ?_
  rintro r w1 ⟨X, E, rfl, h17, hn17, hb1⟩
  have HB1 : Hid (Below w.heap.size w w1) := Lib.hid (HB0.out.trans (hb1.mono HB0.out.size))
  have HK1 := Lib.hid (HK0.out.below hb1 HK0.out.lt)
  have HR1 := Lib.hid (HR0.out.below hb1 HR0.out.lt)
  have H17 := Lib.hid (And.intro h17 hn17)
  clear hb1 HB0 HK0 HR0 HE0 HE j0 j1 j2 j3 j4 h17 hn17
  have hlt := HK1.out.lt
  have j0 := HK1.out.cell 0
  have j1 := HK1.out.cell 1
  have j2 := HK1.out.cell 2
  have j3 := HK1.out.cell 3
  have j4 := HK1.out.cell 4
  simp only [List.getElem?_toArray, List.getElem?_cons_succ, List.getElem?_cons_zero] at j0 j1 j2 j3 j4
  have HR2 : Hid (Blk (w1.alloc (.cells #[.int .u8 X.l.toNat, .int .u32 X.q.toNat, .int .u8 X.k.toNat, .bool X.s, .bool X.e, .int .u8 X.i.a.toNat, .int .u8 X.i.b.toNat, .int .u8 X.i.c.toNat, .int .u8 X.i.d.toNat, .int .u8 X.i.e.toNat, .int .u8 X.i.f.toNat, .int .u8 X.u.a.toNat, .int .u8 X.u.b.toNat, .int .u8 X.u.c.toNat, .int .u8 X.u.d.toNat, .int .u8 X.u.e.toNat, .int .u8 X.u.f.toNat] 43)) (w.heap.size + 1) 43 #[.int .u8 0, .int .u32 0, .int .u8 0, .bool false, .bool false, .int .u8 0, .int .u8 0, .int .u8 0, .int .u8 0, .int .u8 0, .int .u8 0, .int .u8 0, .int .u8 0, .int .u8 0, .int .u8 0, .int .u8 0, .int .u8 0]) := Lib.hid (HR1.out.alloc _)
  have HB2 : Hid (Below w.heap.size w (w1.alloc (.cells #[.int .u8 X.l.toNat, .int .u32 X.q.toNat, .int .u8 X.k.toNat, .bool X.s, .bool X.e, .int .u8 X.i.a.toNat, .int .u8 X.i.b.toNat, .int .u8 X.i.c.toNat, .int .u8 X.i.d.toNat, .int .u8 X.i.e.toNat, .int .u8 X.i.f.toNat, .int .u8 X.u.a.toNat, .int .u8 X.u.b.toNat, .int .u8 X.u.c.toNat, .int .u8 X.u.d.toNat, .int .u8 X.u.e.toNat, .int .u8 X.u.f.toNat] 43))) := Lib.hid (HB1.out.alloc HB1.out.size _)
  have HC2 : Hid (Blk (w1.alloc (.cells #[.int .u8 X.l.toNat, .int .u32 X.q.toNat, .int .u8 X.k.toNat, .bool X.s, .bool X.e, .int .u8 X.i.a.toNat, .int .u8 X.i.b.toNat, .int .u8 X.i.c.toNat, .int .u8 X.i.d.toNat, .int .u8 X.i.e.toNat, .int .u8 X.i.f.toNat, .int .u8 X.u.a.toNat, .int .u8 X.u.b.toNat, .int .u8 X.u.c.toNat, .int .u8 X.u.d.toNat, .int .u8 X.u.e.toNat, .int .u8 X.u.f.toNat] 43)) w1.heap.size 43 #[.int .u8 X.l.toNat, .int .u32 X.q.toNat, .int .u8 X.k.toNat, .bool X.s, .bool X.e, .int .u8 X.i.a.toNat, .int .u8 X.i.b.toNat, .int .u8 X.i.c.toNat, .int .u8 X.i.d.toNat, .int .u8 X.i.e.toNat, .int .u8 X.i.f.toNat, .int .u8 X.u.a.toNat, .int .u8 X.u.b.toNat, .int .u8 X.u.c.toNat, .int .u8 X.u.d.toNat, .int .u8 X.u.e.toNat, .int .u8 X.u.f.toNat]) := Lib.hid (Blk.new _ _ _)
  clear HK1 HR1 HB1
  by_cases ho : p.o = 4
  · have hob : ((p.o.toNat : Int) != 4) = false := by rw [ho]; rfl
    by_cases h7 : p.x.length = 6 ∧ ryB p = true ∧ prB p.t 5 = true ∧ prB p.t 6 = true
    · obtain ⟨rfl, rfl⟩ := H17.out.1 h7
      have HP : Hid (ryX p = ryQ p ∧ ryF p = 0) := Lib.hid (by
        have e : ryF p = 0 := by unfold ryF; rw [if_pos ⟨ho, h7.1, h7.2.2.1, h7.2.2.2, h7.2.1⟩]
        exact ⟨by unfold ryX; rw [if_pos e], e⟩)
      obtain ⟨Y, hY⟩ : ∃ Y, ryQ p = Y := ⟨_, rfl⟩
      rw [hY] at HP HR2 HB2 HC2 ⊢
      clear h7 ho hl hY H17 K1 HN
      go_wp2_with (first
        | (refine wpList_store_row rfl 43 (.tmp 2) (.tmp 23) rfl (w.heap.size + 1) rfl _ rfl 43 _ HR2.out (by kernel_rfl) rfl (by kernel_rfl) ?_)
        | (refine wpList_load_cs 43 4 rfl (by kernel_rfl) w1.heap.size 43 #[.int .u8 Y.l.toNat, .int .u32 Y.q.toNat, .int .u8 Y.k.toNat, .bool Y.s, .bool Y.e, .int .u8 Y.i.a.toNat, .int .u8 Y.i.b.toNat, .int .u8 Y.i.c.toNat, .int .u8 Y.i.d.toNat, .int .u8 Y.i.e.toNat, .int .u8 Y.i.f.toNat, .int .u8 Y.u.a.toNat, .int .u8 Y.u.b.toNat, .int .u8 Y.u.c.toNat, .int .u8 Y.u.d.toNat, .int .u8 Y.u.e.toNat, .int .u8 Y.u.f.toNat] _ rfl HC2.out Try.underlying43 rfl (by kernel_rfl) ?_))
      refine bodyPost_ret (v := .tuple #[.agg #[.int .u8 Y.l.toNat, .int .u32 Y.q.toNat, .int .u8 Y.k.toNat, .bool Y.s, .bool Y.e, .int .u8 Y.i.a.toNat, .int .u8 Y.i.b.toNat, .int .u8 Y.i.c.toNat, .int .u8 Y.i.d.toNat, .int .u8 Y.i.e.toNat, .int .u8 Y.i.f.toNat, .int .u8 Y.u.a.toNat, .int .u8 Y.u.b.toNat, .int .u8 Y.u.c.toNat, .int .u8 Y.u.d.toNat, .int .u8 Y.u.e.toNat, .int .u8 Y.u.f.toNat], .int .i64 0]) (results_cell_slot (p := 2) (q := 3) (by kernel_rfl) _ _ (w.heap.size + 1) 43 _ _ rfl (Blk.row HR2.out _) Try.underlying43 rfl (by kernel_rfl) _ rfl) rfl ?_
      exact ⟨by rw [HP.out.1, HP.out.2]; rfl, below_row HB2.out (by omega) _⟩
    · have hE := H17.out.2 h7
      have hEb : (E != 0) = true := by simpa using hE
      have HP : Hid (ryX p = ry0 ∧ ryF p = 4) := Lib.hid (by
        have e : ryF p = 4 := by unfold ryF; rw [if_neg (fun h => h7 ⟨h.2.1, h.2.2.2.2, h.2.2.1, h.2.2.2.1⟩)]
        exact ⟨by unfold ryX; rw [if_neg (by omega)], e⟩)
      clear hE h7 ho hl H17 K1 HN
      go_wp2_with (refine wpList_store_row rfl 43 (.tmp 2) (.tmp 22) rfl (w.heap.size + 1) rfl _ rfl 43 _ HR2.out (by kernel_rfl) rfl (by kernel_rfl) ?_)
      refine bodyPost_ret (v := .tuple #[.agg #[.int .u8 0, .int .u32 0, .int .u8 0, .bool false, .bool false, .int .u8 0, .int .u8 0, .int .u8 0, .int .u8 0, .int .u8 0, .int .u8 0, .int .u8 0, .int .u8 0, .int .u8 0, .int .u8 0, .int .u8 0, .int .u8 0], .int .i64 4]) (results_cell_slot (p := 2) (q := 3) (by kernel_rfl) _ _ (w.heap.size + 1) 43 _ _ rfl (Blk.row HR2.out _) Try.underlying43 rfl (by kernel_rfl) _ rfl) rfl ?_
      exact ⟨by rw [HP.out.1, HP.out.2]; rfl, below_row HB2.out (by omega) _⟩
  · have hob : ((p.o.toNat : Int) != 4) = true := by
      have : p.o.toNat ≠ 4 := fun h => ho (UInt8.toNat_inj.1 h)
      simp; omega
    have HP : Hid (ryX p = ry0 ∧ ryF p = 4) := Lib.hid (by
      have e : ryF p = 4 := by unfold ryF; rw [if_neg (fun h => ho h.1)]
      exact ⟨by unfold ryX; rw [if_neg (by omega)], e⟩)
    clear ho hl H17 K1 HN
    go_wp2_with (refine wpList_store_row rfl 43 (.tmp 2) (.tmp 22) rfl (w.heap.size + 1) rfl _ rfl 43 _ HR2.out (by kernel_rfl) rfl (by kernel_rfl) ?_)
    refine bodyPost_ret (v := .tuple #[.agg #[.int .u8 0, .int .u32 0, .int .u8 0, .bool false, .bool false, .int .u8 0, .int .u8 0, .int .u8 0, .int .u8 0, .int .u8 0, .int .u8 0, .int .u8 0, .int .u8 0, .int .u8 0, .int .u8 0, .int .u8 0, .int .u8 0], .int .i64 4]) (results_cell_slot (p := 2) (q := 3) (by kernel_rfl) _ _ (w.heap.size + 1) 43 _ _ rfl (Blk.row HR2.out _) Try.underlying43 rfl (by kernel_rfl) _ rfl) rfl ?_
    exact ⟨by rw [HP.out.1, HP.out.2]; rfl, below_row HB2.out (by omega) _⟩
end Go.Proofs.Ytieopgmmjpmflaa
