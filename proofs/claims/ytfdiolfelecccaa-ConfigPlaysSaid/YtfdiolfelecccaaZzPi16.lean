/- Layer 16, the program: what an append leaves; AddAssoc. -/
import Derived.Test.YtfdiolfelecccaaZzPh16
import Derived.Test.YtfdiolfelecccaaZz
namespace Go.Proofs.Ytfdiolfelecccaa
open Go.RowKit
open Go.Sort (grow)
set_option linter.unusedVariables false
set_option linter.unusedSimpArgs false
set_option maxRecDepth 100000

theorem infoAP : (Try.prog.info? 50).map (fun i => (i.zero, i.size, i.bytes)) = some (some (.agg #[.int .u8 0, .string ⟨#[]⟩, .string ⟨#[]⟩, .int .u16 0, .int .u8 0, .slice none 0 0]), 6, 72) := by kernel_rfl
theorem asE_oneP (x : AsX) : ∀ u ∈ asE x, u.oneCell' = true := by
  intro u hu
  simp only [asE, List.mem_cons, List.not_mem_nil, or_false] at hu
  rcases hu with rfl | rfl | rfl | rfl | rfl | rfl <;> rfl
section
variable {w w6 : World} {b : Nat} {T T' : Tb} {X : PX} {o : Obj} {v6 : Value}
theorem pushA_cell (h : Pt w b T X) (hg : (w.drew.alloc o).grownBy w6 (Value.slice X.A T.A.length X.ca).ownBlock) : w6.cell? ⟨b, 1, none⟩ = some (.slice X.A T.A.length X.ca) ∧ w6.frozen? ⟨b, 1, none⟩ = false := by
  rw [rb_own] at hg
  have hb : Blk w6 b 69 (PtC T X) := (hg.block b (by have := h.blk.lt; simp; omega) (fun e => (h.cA e.symm).ne h.cB (by kernel_rfl) rfl)).trans (h.drew.blk.alloc o)
  exact ⟨hb.cell 1, hb.frozen 1⟩
theorem pushE_cell (h : Pt w b T X) (hg : (w.drew.alloc o).grownBy w6 (Value.slice X.E T.E.length X.ce).ownBlock) : w6.cell? ⟨b, 2, none⟩ = some (.slice X.E T.E.length X.ce) ∧ w6.frozen? ⟨b, 2, none⟩ = false := by
  rw [rb_own] at hg
  have hb : Blk w6 b 69 (PtC T X) := (hg.block b (by have := h.blk.lt; simp; omega) (fun e => (h.cE e.symm).ne h.cB (by kernel_rfl) rfl)).trans (h.drew.blk.alloc o)
  exact ⟨hb.cell 2, hb.frozen 2⟩
theorem push_chg {A : Option Addr} {n c : Nat} (hg : (w.drew.alloc o).grownBy w6 (Value.slice A n c).ownBlock) : Chg (fun k => rb A = some k) w w6 := by
  rw [rb_own] at hg
  exact ((Chg.refl (fun k => rb A = some k) w).drew.alloc o).trans (Chg.of_grown hg (fun k e => .inr e))
theorem push_new {A A6 : Option Addr} {n c n6 c6 : Nat} (hob : (Value.slice A6 n6 c6).ownBlock = (Value.slice A n c).ownBlock ∨ (Value.slice A6 n6 c6).ownBlock = some (w.drew.alloc o).heap.size) : ∀ k, rb A6 = some k → rb A = some k ∨ w.heap.size ≤ k := by
  rw [rb_own, rb_own] at hob
  intro k hk
  rcases hob with e | e
  · exact .inl (e ▸ hk)
  · rw [hk] at e
    cases e
    exact .inr (by simp)
theorem pushA_end (h : Pt w b T X) (y : AsX) (hT : T' = { T with A := T.A ++ [y.a] }) (hi : TbInv T') (h8 : T.A.length < 8) (hy : OwnL w y) (hn : ∀ k, rb y.b = some k → rb X.A ≠ some k)
    (ho : w6.ownsRow 0 50 6 v6 (X.LA ++ [y]).length ((X.LA ++ [y]).flatMap asE)) (hg : (w.drew.alloc o).grownBy w6 (Value.slice X.A T.A.length X.ca).ownBlock) (hob : v6.ownBlock = (Value.slice X.A T.A.length X.ca).ownBlock ∨ v6.ownBlock = some (w.drew.alloc o).heap.size) :
    ∃ A6 c6, v6 = .slice A6 (T.A.length + 1) c6 ∧ Pt (w6.setCell ⟨b, 1, none⟩ (.slice A6 (T.A.length + 1) c6)) b T' { X with LA := X.LA ++ [y], A := A6, ca := c6 } ∧ Chg (pset b X) w (w6.setCell ⟨b, 1, none⟩ (.slice A6 (T.A.length + 1) c6)) ∧ ∀ k, rb A6 = some k → rb X.A = some k ∨ w.heap.size ≤ k := by
  obtain ⟨A6, c6, hv, _⟩ := own_elsB (k := 6) (enc := asE) asE_lenP ho
  have hlen : (X.LA ++ [y]).length = T.A.length + 1 := by rw [List.length_append, h.lenA]; rfl
  rw [hlen] at hv ho
  subst hv
  have hc := push_chg hg
  have hs := h.setA hT hi h8 hc ho (own_chgP hy hc (fun k e => hn k (by rw [← rb_own y.b y.a.m.length y.c]; exact e)))
  exact ⟨A6, c6, rfl, hs.1, hs.2, push_new hob⟩
theorem pushE_end (h : Pt w b T X) (m : Mp) (hT : T' = { T with E := T.E ++ [m] }) (hi : TbInv T')
    (ho : w6.ownsRow 0 59 4 v6 (T.E ++ [m]).length ((T.E ++ [m]).flatMap mpE)) (hg : (w.drew.alloc o).grownBy w6 (Value.slice X.E T.E.length X.ce).ownBlock) (hob : v6.ownBlock = (Value.slice X.E T.E.length X.ce).ownBlock ∨ v6.ownBlock = some (w.drew.alloc o).heap.size) :
    ∃ E6 c6, v6 = .slice E6 (T.E.length + 1) c6 ∧ Pt (w6.setCell ⟨b, 2, none⟩ (.slice E6 (T.E.length + 1) c6)) b T' { X with E := E6, ce := c6 } ∧ Chg (pset b X) w (w6.setCell ⟨b, 2, none⟩ (.slice E6 (T.E.length + 1) c6)) ∧ ∀ k, rb E6 = some k → rb X.E = some k ∨ w.heap.size ≤ k := by
  obtain ⟨E6, c6, hv, _⟩ := own_elsB (k := 4) (enc := mpE) mpE_len ho
  have hlen : (T.E ++ [m]).length = T.E.length + 1 := by rw [List.length_append]; rfl
  subst hv
  have hc := push_chg hg
  have hs := h.setE (L := T.E ++ [m]) hT hi hc ho
  rw [hlen] at hs ⊢
  exact ⟨E6, c6, rfl, hs.1, hs.2, push_new hob⟩
end
section
variable {w : World} {b : Nat} {T : Tb} {X : PX}
/-- how a call leaves the table -/
def PtTo (w : World) (b : Nat) (X : PX) (T' : Tb) (w' : World) : Prop := ∃ X', Pt w' b T' X' ∧ Chg (pset b X) w w' ∧ ∀ k, pset b X' k → pset b X k ∨ w.heap.size ≤ k
theorem PtTo.same (h : Pt w b T X) {w' : World} (hb : Below w.heap.size w w') : PtTo w b X T w' := ⟨X, h.next hb, Chg.of_below hb, fun k hk => .inl hk⟩
set_option maxHeartbeats 1000000 in
theorem addAN_any (w : World) (a : As) (B : Option Addr) (c : Nat) : Calls Try.prog 17 #[.pointer none, .agg #[.int .u8 a.l.toNat, .string ⟨a.d.toArray⟩, .string ⟨a.n.toArray⟩, .int .u16 a.v.toNat, .int .u8 a.i.toNat, .slice B a.m.length c]] w fun e w' => e = .returned (.tuple #[.int .i64 0, .int .i64 1]) ∧ Below w.heap.size w w' := by
  go_enter Try.func17, Try.ntmps17
  go_wp2
  go_ret2
  exact ⟨rfl, (Below.refl _ _).alloc (Nat.le_refl _) _⟩
set_option maxHeartbeats 8000000 in
theorem addA_any (h : Pt w b T X) (a : As) (B : Option Addr) (c : Nat) (hE : Els 1 u16c w B a.m) (hz : B = none → c = 0) (hd : a.d.length ≤ 1000) (hn : a.n.length ≤ 1000) (hm : a.m.length ≤ 1000) :
    Calls Try.prog 17 #[.pointer (some ⟨b, 0, none⟩), .agg #[.int .u8 a.l.toNat, .string ⟨a.d.toArray⟩, .string ⟨a.n.toArray⟩, .int .u16 a.v.toNat, .int .u8 a.i.toNat, .slice B a.m.length c]] w fun e w' => e = .returned (.tuple #[.int .i64 ((T.addA a).2.1 : Nat), .int .i64 ((T.addA a).2.2 : Nat)]) ∧ PtTo w b X (T.addA a).1 w' := by
  have HTW := Lib.hid h
  obtain ⟨W, hW⟩ : ∃ W, w.alloc (.cells #[.int .u8 a.l.toNat, .string ⟨a.d.toArray⟩, .string ⟨a.n.toArray⟩, .int .u16 a.v.toNat, .int .u8 a.i.toNat, .slice B a.m.length c] 50) = W := ⟨_, rfl⟩
  obtain ⟨g, hg⟩ : ∃ g, w.heap.size = g := ⟨_, rfl⟩
  have HGE : Hid (w.heap.size = g) := Lib.hid hg
  have HG : Hid (Below w.heap.size w W) := Lib.hid (by rw [← hW]; exact (Below.refl _ _).alloc (Nat.le_refl _) _)
  have HK : Hid (Blk W g 50 #[.int .u8 a.l.toNat, .string ⟨a.d.toArray⟩, .string ⟨a.n.toArray⟩, .int .u16 a.v.toNat, .int .u8 a.i.toNat, .slice B a.m.length c]) := Lib.hid (by rw [← hW, ← hg]; exact Blk.new _ _ _)
  have HT := Lib.hid (h.next HG.out)
  have HE := Lib.hid (hE.next HG.out)
  have HZ := Lib.hid (And.intro hz (And.intro hd (And.intro hn hm)))
  have hmf : ∀ w ls, (Instr.makeFunc (.func 36) #[] ls).run Try.prog w = .ok (.func (.func 36) #[] ls) w := fun w ls => rfl
  obtain ⟨q0, hq0⟩ : ∃ q, asM a = q := ⟨_, rfl⟩
  have HQ0 := Lib.hid hq0
  clear h hE hz hd hn hm hq0
  have k0 := HK.out.cell 0
  have k1 := HK.out.cell 1
  have k2 := HK.out.cell 2
  have k3 := HK.out.cell 3
  have k4 := HK.out.cell 4
  have k5 := HK.out.cell 5
  simp only [List.getElem?_toArray, List.getElem?_cons_succ, List.getElem?_cons_zero] at k0 k1 k2 k3 k4 k5
  go_enter Try.func17, Try.ntmps17
  go_wp2_with fail
  try rw [hW]
  clear hW hg
  refine (mayBe_any W a B c HE.out HZ.out.2.1 HZ.out.2.2.1 HZ.out.2.2.2).mono ?_
  rw [HQ0.out]
  rintro e w1 ⟨rfl, hb1⟩
  have HG1 : Hid (Below w.heap.size w w1) := Lib.hid (HG.out.trans (hb1.mono HG.out.size))
  have HK1 := Lib.hid (HK.out.below hb1 HK.out.lt)
  have HT1 := Lib.hid (HT.out.next hb1)
  have HE1 := Lib.hid (HE.out.next hb1)
  clear hb1 HG HK HT HE k0 k1 k2 k3 k4 k5
  cases q0
  · have HD : Hid (T.addA a = (T, 0, 2)) := Lib.hid (by unfold Tb.addA; rw [if_pos HQ0.out])
    go_wp2
    go_ret2
    rw [HD.out]
    exact ⟨rfl, PtTo.same HTW.out HG1.out⟩
  have c1 := HT1.out.c1
  obtain ⟨nA, hnA⟩ : ∃ n, T.A.length = n := ⟨_, rfl⟩
  have HNA := Lib.hid hnA
  have KC := Lib.hid (contA_any w1 _ (fun y => y.a.d == a.d && y.a.n == a.n) X.LA X.A X.ca (by rw [HT1.out.lenA]; have := HT1.out.a8; omega) HT1.out.elsA (cla_names X.LA HK1.out))
  have hany : X.LA.any (fun y => y.a.d == a.d && y.a.n == a.n) = T.A.any (fun y => y.d == a.d && y.n == a.n) := by
    rw [← HT1.out.la, List.any_map]; rfl
  rw [HT1.out.lenA, hany, hnA] at KC
  rw [hnA] at c1
  obtain ⟨q1, hq1⟩ : ∃ q, T.A.any (fun y => y.d == a.d && y.n == a.n) = q := ⟨_, rfl⟩
  rw [hq1] at KC
  have HQ1 := Lib.hid hq1
  clear hnA hany hq1
  go_wp2_with fail
  refine KC.out.mono ?_
  rintro e w2 ⟨rfl, hg2⟩
  have HG2 : Hid (Below w.heap.size w w2) := Lib.hid (HG1.out.trans (hg2.below.mono HG1.out.size))
  have HK2 := Lib.hid (HK1.out.below hg2.below HK1.out.lt)
  have HT2 := Lib.hid (HT1.out.gro hg2)
  have HE2 := Lib.hid (HE1.out.groP hg2)
  clear hg2 HG1 HK1 HT1 HE1 c1 KC
  have c1 := HT2.out.c1
  rw [HNA.out] at c1
  cases q1
  case true =>
    have HD : Hid (T.addA a = (T, 0, 8)) := Lib.hid (by unfold Tb.addA; rw [if_neg (by rw [HQ0.out]; decide), if_pos HQ1.out])
    go_wp2
    go_ret2
    rw [HD.out]
    exact ⟨rfl, PtTo.same HTW.out HG2.out⟩
  by_cases h8 : nA = 8
  · have HD : Hid (T.addA a = (T, 0, 6)) := Lib.hid (by unfold Tb.addA; rw [if_neg (by rw [HQ0.out]; decide), if_neg (by rw [HQ1.out]; decide), if_pos (by rw [HNA.out]; exact h8)])
    have p8 : (8 : Int) ≤ (nA : Int) := by omega
    go_wp2
    go_ret2
    rw [HD.out]
    exact ⟨rfl, PtTo.same HTW.out HG2.out⟩
  have hlt8 : nA < 8 := by have := HT2.out.a8; have := HNA.out; omega
  have HLT8 := Lib.hid hlt8
  have HD : Hid (T.addA a = ({ T with A := T.A ++ [a] }, T.A.length, 0)) := Lib.hid (by unfold Tb.addA; rw [if_neg (by rw [HQ0.out]; decide), if_neg (by rw [HQ1.out]; decide), if_neg (by rw [HNA.out]; exact h8)])
  have p8 : ¬ (8 : Int) ≤ (nA : Int) := by omega
  clear h8 hlt8
  have HIV : Hid (TbInv (T.addA a).1) := Lib.hid (inv_addA HT2.out.inv a)
  have k0 := HK2.out.cell 0
  have k1 := HK2.out.cell 1
  have k2 := HK2.out.cell 2
  have k3 := HK2.out.cell 3
  have k4 := HK2.out.cell 4
  have k5 := HK2.out.cell 5
  simp only [List.getElem?_toArray, List.getElem?_cons_succ, List.getElem?_cons_zero] at k0 k1 k2 k3 k4 k5
  have KL := Lib.hid (cloU_any w2 a.m B c HZ.out.2.2.2 HZ.out.1 HE2.out)
  obtain ⟨nm, hnm⟩ : ∃ n, a.m.length = n := ⟨_, rfl⟩
  rw [hnm] at k5 KL
  have HNM := Lib.hid hnm
  clear hnm
  go_wp2_with fail
  refine KL.out.mono ?_
  rintro e w3 ⟨B3, c3, rfl, ho3, hb3⟩
  have HG3 : Hid (Below w.heap.size w w3) := Lib.hid (HG2.out.trans (hb3.mono HG2.out.size))
  have HK3 := Lib.hid (HK2.out.below hb3 HK2.out.lt)
  have HT3 := Lib.hid (HT2.out.next hb3)
  have HO3 := Lib.hid ho3
  have f5 := HK3.out.frozen 5
  have k5' := HK3.out.cell 5
  simp only [List.getElem?_toArray, List.getElem?_cons_succ, List.getElem?_cons_zero] at  k5'
  rw [HNM.out] at k5'
  have HK2g : Hid (g < w2.heap.size) := Lib.hid HK2.out.lt
  clear hb3 ho3 HE2 KL HK2 k0 k1 k2 k3 k4 k5
  go_wp2_with fail
  obtain ⟨w4, hw4⟩ : ∃ w4, w3.setCell ⟨g, 5, none⟩ (.slice B3 nm c3) = w4 := ⟨_, rfl⟩
  rw [hw4]
  have hC4 : Chg (fun k => k = g) w3 w4 := by rw [← hw4]; exact (Chg.refl (fun k => k = g) w3).setCell (p := ⟨g, 5, none⟩) (.inr rfl) _
  have HK4 : Hid (Blk w4 g 50 #[.int .u8 a.l.toNat, .string ⟨a.d.toArray⟩, .string ⟨a.n.toArray⟩, .int .u16 a.v.toNat, .int .u8 a.i.toNat, .slice B3 nm c3]) := Lib.hid (by
    have := HK3.out.put 5 (.slice B3 nm c3)
    rw [hw4] at this
    simpa using this)
  have HG4 : Hid (Below w.heap.size w w4) := Lib.hid (by rw [← hw4]; exact HG3.out.setCell (p := ⟨g, 5, none⟩) (Nat.le_of_eq HGE.out) _)
  have HT4 : Hid (Pt w4 b T X) := Lib.hid (HT3.out.chg hC4 (fun k hk e => by have := HTW.out.lt k hk; have := HGE.out; omega))
  have hgl : g < w2.heap.size := by have := HG2.out.size; have := HK2g.out; omega
  have HO4 : Hid (OwnL w4 ⟨a, B3, c3⟩) := Lib.hid (by
    have h1 := own_chgP HO3.out hC4 (fun k e e' => by rw [rb_own] at e; have := (own_ltP HO3.out e).1; omega)
    have h2 := own_base h1
    rw [← HNM.out] at h2
    exact h2)
  have HNE : Hid (∀ k, rb B3 = some k → rb X.A ≠ some k) := Lib.hid (fun k e e' => by
    have h1 := (own_ltP HO3.out e).1
    have h2 := HTW.out.lt k (.inr (.inl e'))
    have := HGE.out
    omega)
  have HNB : Hid (∀ k, rb B3 = some k → w.heap.size ≤ k) := Lib.hid (fun k e => by
    have h1 := (own_ltP HO3.out e).1
    have := HGE.out
    omega)
  clear hw4 hC4 hgl HK3 HG3 HT3 HO3 HK2g f5 k5'
  have c1 := HT4.out.drew.c1
  rw [HNA.out] at c1
  have k0 := HK4.out.drew.cell 0
  have k1 := HK4.out.drew.cell 1
  have k2 := HK4.out.drew.cell 2
  have k3 := HK4.out.drew.cell 3
  have k4 := HK4.out.drew.cell 4
  have k5 := HK4.out.drew.cell 5
  simp only [List.getElem?_toArray, List.getElem?_cons_succ, List.getElem?_cons_zero] at k0 k1 k2 k3 k4 k5
  have HOA : Hid ((w4.drew.alloc (.cells #[.int .u8 a.l.toNat, .string ⟨a.d.toArray⟩, .string ⟨a.n.toArray⟩, .int .u16 a.v.toNat, .int .u8 a.i.toNat, .slice B3 nm c3] 50)).ownsRow 0 50 6 (.slice X.A nA X.ca) X.LA.length (X.LA.flatMap asE)) := Lib.hid (by
    have := (HT4.out.drew.next (w' := w4.drew.alloc (.cells #[.int .u8 a.l.toNat, .string ⟨a.d.toArray⟩, .string ⟨a.n.toArray⟩, .int .u16 a.v.toNat, .int .u8 a.i.toNat, .slice B3 nm c3] 50)) ((Below.refl _ _).alloc (Nat.le_refl _) _)).rowA
    rw [HT4.out.lenA]
    rw [HNA.out] at this ⊢
    exact this)
  have HEO : Hid (Els 6 asE (w4.drew.alloc (.cells #[.int .u8 a.l.toNat, .string ⟨a.d.toArray⟩, .string ⟨a.n.toArray⟩, .int .u16 a.v.toNat, .int .u8 a.i.toNat, .slice B3 nm c3] 50)) (some ⟨w4.heap.size, 0, none⟩) [⟨a, B3, c3⟩]) := Lib.hid (by
    refine els_one16 w4.drew 50 (AsX.mk a B3 c3) _ ?_
    simp [asE, HNM.out])
  obtain ⟨i0, hi⟩ := info_parts infoAP
  have HI := Lib.hid hi
  have HLN : Hid (X.LA.length + 1 ≤ 1000000) := Lib.hid (by rw [HT4.out.lenA]; have := HT4.out.a8; omega)
  have z1 := fun o => cell_adP c1 o
  clear hi
  go_region_law (refine step_appL rfl (.tmp 36) (.tmp 38) 67 rfl asE_lenP asE_oneP (by decide) 0 50 i0 (.agg #[.int .u8 0, .string ⟨#[]⟩, .string ⟨#[]⟩, .int .u16 0, .int .u8 0, .slice none 0 0]) 72 Try.underlying67 HI.out rfl (.slice X.A nA X.ca) X.LA (by simp [Act.eval, Act.put]) HOA.out (some ⟨w4.heap.size, 0, none⟩) 1 1 [⟨a, B3, c3⟩] rfl (by simp [Act.eval, Act.put]) (fun e => by cases e) HEO.out HLN.out (by omega) (Nat.zero_le _) ?_; intro v6 w6 ho6 hg6 hob; rw [← HNA.out] at hg6 hob; have hc6 := pushA_cell HT4.out hg6; have s0 := hc6.1; have f0 := hc6.2; obtain ⟨A6, c6, hv6, hT6, hC6, hR6⟩ := pushA_end HT4.out ⟨a, B3, c3⟩ (T' := (T.addA a).1) (by rw [HD.out]) HIV.out (by rw [HNA.out]; exact HLT8.out) HO4.out HNE.out ho6 hg6 hob; subst hv6; rw [HNA.out] at s0 hT6 hC6 ⊢; have HST := Lib.hid (And.intro hT6 (And.intro hC6 hR6)); clear ho6 hg6 hob hc6 hT6 hC6 hR6)
  all_goals (
    obtain ⟨hT6, hC6, hR6⟩ := HST.out
    have HGG := Lib.hid (And.intro hT6 (And.intro hC6 hR6))
    clear hT6 hC6 hR6 HST
    go_wp2_with fail
    go_ret2
    obtain ⟨hT6, hC6, hR6⟩ := HGG.out
    refine ⟨?_, _, hT6, ?_, ?_⟩
    · rw [HD.out]
      show _ = Ending.returned (.tuple #[.int .i64 (T.A.length : Nat), .int .i64 0])
      rw [HNA.out]
      first | rfl | (congr 3; go_num) | (simp; omega)
    · exact (Chg.of_below HG4.out).also hC6 (fun k _ hk => hk)
    · rintro k (e | e | e | e | ⟨x, hx, e⟩)
      · exact .inl (.inl e)
      · rcases hR6 k e with e | e
        · exact .inl (.inr (.inl e))
        · exact .inr (Nat.le_trans HG4.out.size e)
      · exact .inl (.inr (.inr (.inl e)))
      · exact .inl (.inr (.inr (.inr (.inl e))))
      · rcases List.mem_append.1 hx with hx | hx
        · exact .inl (.inr (.inr (.inr (.inr ⟨x, hx, e⟩))))
        · rw [List.mem_singleton.1 hx] at e
          exact .inr (HNB.out k e))
end
end Go.Proofs.Ytfdiolfelecccaa
