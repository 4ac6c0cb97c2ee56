/- Package vlan: Set. -/
import Derived.Test.YteiopobkbfancaaVw4
import Derived.WalkSpells
namespace Go.Proofs.Yteiopobkbfancaa
open Go.RowKit
set_option linter.unusedVariables false
set_option linter.unusedSimpArgs false
set_option maxRecDepth 100000

theorem Chg.also {S S' : Nat → Prop} {w w' w'' : World} (h : Chg S w w') (h' : Chg S' w' w'') (hs : ∀ k, k < w.heap.size → S' k → S k) : Chg S w w'' :=
  ⟨h'.os.trans h.os, h'.tape.trans h.tape, h'.output.trans h.output, Nat.le_trans h.size h'.size, fun k hk hn => (h'.block k (Nat.lt_of_lt_of_le hk h.size) (fun e => hn (hs k hk e))).trans (h.block k hk hn)⟩
/-- all of these ports there are -/
def allIn (N : Nat) (s : UInt8) : Bool := s.toNat &&& (255 - mask N) == 0
/-- a set within a set -/
def within (u m : UInt8) : Bool := u.toNat &&& (255 - m.toNat) == 0
def setBad (N : Nat) (v : UInt16) (m u : UInt8) : Bool := !okV v || !allIn N m || !allIn N u || !within u m
def setE (N : Nat) (L : List Vn) (v : UInt16) (m u : UInt8) : Int := if setBad N v m u then 2 else if !vhas L v && decide (8 ≤ L.length) then 6 else 0
set_option maxHeartbeats 1000000 in
theorem set_nil {w : World} (v : UInt16) (m u : UInt8) :
    Calls Try.prog 17 #[.pointer none, .int .u16 v.toNat, .int .u8 m.toNat, .int .u8 u.toNat] w fun e w' => e = .returned (.int .i64 1) ∧ Below w.heap.size w w' := by
  go_enter Try.func17, Try.ntmps17
  go_wp2
  go_ret
  exact ⟨rfl, (Below.refl _ _).alloc (Nat.le_refl _) _⟩
set_option maxHeartbeats 2000000 in
theorem set_bad {w : World} {t N : Nat} {mb : Option Nat} {L : List Vn} {own : List UInt16} (h : Tbl w t mb N L own) (v : UInt16) (m u : UInt8) (hb : setBad N v m u = true) :
    Calls Try.prog 17 #[.pointer (some ⟨t, 0, none⟩), .int .u16 v.toNat, .int .u8 m.toNat, .int .u8 u.toNat] w fun e w' => e = .returned (.int .i64 2) ∧ Below w.heap.size w w' := by
  obtain ⟨w1, hw1⟩ : ∃ w1, w.alloc (.cells #[.pointer (some ⟨t, 0, none⟩)] 29) = w1 := ⟨_, rfl⟩
  obtain ⟨g, hg⟩ : ∃ g, w.heap.size = g := ⟨_, rfl⟩
  have hB : Below w.heap.size w w1 := by rw [← hw1]; exact (Below.refl w.heap.size w).alloc (Nat.le_refl _) _
  have cg : w1.cell? ⟨g, 0, none⟩ = some (.pointer (some ⟨t, 0, none⟩)) := by rw [← hw1, ← hg]; exact (Blk.new w _ _).cell 0
  have HT := Lib.hid (h.next hB)
  have HB := Lib.hid hB
  have HCG := Lib.hid cg
  obtain ⟨x, hx⟩ : ∃ x, u.toNat &&& (255 - m.toNat) = x := ⟨_, rfl⟩
  have hbn : bits BinOp.andNot IntKind.u8 (u.toNat : Int) (m.toNat : Int) = (x : Int) := by rw [u8_andNot_nat _ _ u.toNat_lt m.toNat_lt, hx]
  have HX := Lib.hid hx
  clear hB h hx
  unfold setBad at hb
  cases h1 : okV v
  · have HV := Lib.hid h1
    clear hb h1
    go_enter Try.func17, Try.ntmps17
    go_wp2_with fail
    refine (canBe_any v).mono ?_
    rw [show okV v = false from HV.out]
    rintro e w2 ⟨rfl, rfl⟩
    go_wp2
    go_ret
    exact ⟨rfl, HB.out⟩
  · have HV := Lib.hid h1
    cases h2 : allIn N m
    · have H2 := Lib.hid (show (m.toNat &&& (255 - mask N) == 0) = false from h2)
      clear hb h1 h2
      go_enter Try.func17, Try.ntmps17
      go_wp2_with fail
      refine (canBe_any v).mono ?_
      rw [show okV v = true from HV.out]
      rintro e w2 ⟨rfl, rfl⟩
      go_wp2_with fail
      refine (set1_any HT.out m HCG.out).mono ?_
      rw [H2.out]
      rintro e w2 ⟨rfl, rfl⟩
      go_wp2
      go_ret
      exact ⟨rfl, HB.out⟩
    · have H2 := Lib.hid (show (m.toNat &&& (255 - mask N) == 0) = true from h2)
      cases h3 : allIn N u
      · have H3 := Lib.hid (show (u.toNat &&& (255 - mask N) == 0) = false from h3)
        clear hb h1 h2 h3
        go_enter Try.func17, Try.ntmps17
        go_wp2_with fail
        refine (canBe_any v).mono ?_
        rw [show okV v = true from HV.out]
        rintro e w2 ⟨rfl, rfl⟩
        go_wp2_with fail
        refine (set1_any HT.out m HCG.out).mono ?_
        rw [H2.out]
        rintro e w2 ⟨rfl, rfl⟩
        go_wp2_with fail
        refine (set1_any HT.out u HCG.out).mono ?_
        rw [H3.out]
        rintro e w2 ⟨rfl, rfl⟩
        go_wp2
        go_ret
        exact ⟨rfl, HB.out⟩
      · have H3 := Lib.hid (show (u.toNat &&& (255 - mask N) == 0) = true from h3)
        have hx0 : x ≠ 0 := by
          rw [h1, h2, h3] at hb
          have : within u m = false := by simpa using hb
          unfold within at this
          rw [HX.out] at this
          simpa using this
        clear hb h1 h2 h3
        go_enter Try.func17, Try.ntmps17
        go_wp2_with fail
        refine (canBe_any v).mono ?_
        rw [show okV v = true from HV.out]
        rintro e w2 ⟨rfl, rfl⟩
        go_wp2_with fail
        refine (set1_any HT.out m HCG.out).mono ?_
        rw [H2.out]
        rintro e w2 ⟨rfl, rfl⟩
        go_wp2_with fail
        refine (set1_any HT.out u HCG.out).mono ?_
        rw [H3.out]
        rintro e w2 ⟨rfl, rfl⟩
        go_wp2
        go_ret
        exact ⟨rfl, HB.out⟩

set_option maxHeartbeats 2000000 in
theorem set_full {w : World} {t N : Nat} {mb : Option Nat} {L : List Vn} {own : List UInt16} (h : Tbl w t mb N L own) (v : UInt16) (m u : UInt8) (hb : setBad N v m u = false) (hh : vhas L v = false) (h8 : 8 ≤ L.length) :
    Calls Try.prog 17 #[.pointer (some ⟨t, 0, none⟩), .int .u16 v.toNat, .int .u8 m.toNat, .int .u8 u.toNat] w fun e w' => e = .returned (.int .i64 6) ∧ Below w.heap.size w w' := by
  obtain ⟨w1, hw1⟩ : ∃ w1, w.alloc (.cells #[.pointer (some ⟨t, 0, none⟩)] 29) = w1 := ⟨_, rfl⟩
  obtain ⟨g, hg⟩ : ∃ g, w.heap.size = g := ⟨_, rfl⟩
  have hB : Below w.heap.size w w1 := by rw [← hw1]; exact (Below.refl w.heap.size w).alloc (Nat.le_refl _) _
  have cg : w1.cell? ⟨g, 0, none⟩ = some (.pointer (some ⟨t, 0, none⟩)) := by rw [← hw1, ← hg]; exact (Blk.new w _ _).cell 0
  have HT := Lib.hid (h.next hB)
  have HB := Lib.hid hB
  have HCG := Lib.hid cg
  obtain ⟨x, hx⟩ : ∃ x, u.toNat &&& (255 - m.toNat) = x := ⟨_, rfl⟩
  have hbn : bits BinOp.andNot IntKind.u8 (u.toNat : Int) (m.toNat : Int) = (x : Int) := by rw [u8_andNot_nat _ _ u.toNat_lt m.toNat_lt, hx]
  have HX := Lib.hid hx
  clear hB h hx
  have HH := Lib.hid hh
  have hL : L.length = 8 := by have := HT.out.l8; omega
  clear hh h8
  unfold setBad at hb
  have HV : Hid (okV v = true) := Lib.hid (by cases h1 : okV v; (rw [h1] at hb; simp at hb); rfl)
  have H2 : Hid ((m.toNat &&& (255 - mask N) == 0) = true) := Lib.hid (by rw [HV.out] at hb; cases h1 : allIn N m; (rw [h1] at hb; simp at hb); exact h1)
  have H3 : Hid ((u.toNat &&& (255 - mask N) == 0) = true) := Lib.hid (by rw [HV.out, show allIn N m = true from H2.out] at hb; cases h1 : allIn N u; (rw [h1] at hb; simp at hb); exact h1)
  have hx0 : x = 0 := by
    rw [HV.out, show allIn N m = true from H2.out, show allIn N u = true from H3.out] at hb
    have : within u m = true := by simpa using hb
    unfold within at this
    rw [HX.out] at this
    simpa using this
  clear hb HX
  subst hx0
  go_enter Try.func17, Try.ntmps17
  go_wp2_with fail
  refine (canBe_any v).mono ?_
  rw [show okV v = true from HV.out]
  rintro e w2 ⟨rfl, rfl⟩
  go_wp2_with fail
  refine (set1_any HT.out m HCG.out).mono ?_
  rw [H2.out]
  rintro e w2 ⟨rfl, rfl⟩
  go_wp2_with fail
  refine (set1_any HT.out u HCG.out).mono ?_
  rw [H3.out]
  rintro e w2 ⟨rfl, rfl⟩
  go_wp2_with fail
  refine (has_any HT.out v).mono ?_
  rw [HH.out]
  rintro e w3 ⟨rfl, hb3⟩
  have HT3 := Lib.hid (HT.out.next hb3)
  have HB3 : Hid (Below w.heap.size w w3) := Lib.hid (HB.out.trans (hb3.mono HB.out.size))
  have cg3 : w3.cell? ⟨g, 0, none⟩ = some (.pointer (some ⟨t, 0, none⟩)) := (hb3.cell (p := ⟨g, 0, none⟩) (World.block_lt_of_cell? w1 _ HCG.out)).trans HCG.out
  have c1 := HT3.out.c1
  clear hb3 HT HB HCG cg hbn
  have hlen := HT3.out.vof.len
  rw [hL] at hlen
  clear hL
  go_wp2
  go_ret
  exact ⟨rfl, HB3.out⟩

set_option maxHeartbeats 4000000 in
theorem set_ok {w : World} {t N : Nat} {mb : Option Nat} {L : List Vn} {own : List UInt16} (h : Tbl w t mb N L own) (v : UInt16) (m u : UInt8) (hb : setBad N v m u = false) (hh : vhas L v = true ∨ L.length < 8) :
    Calls Try.prog 17 #[.pointer (some ⟨t, 0, none⟩), .int .u16 v.toNat, .int .u8 m.toNat, .int .u8 u.toNat] w fun e w' => e = .returned (.int .i64 0) ∧ ∃ mb', Tbl w' t mb' N (vput L ⟨v, m, u⟩) own ∧ Chg (tset t mb) w w' ∧ (∀ k, tset t mb' k → tset t mb k ∨ w.heap.size ≤ k) := by
  have HL : Hid (vhas L (Vn.mk v m u).v = true ∨ L.length < 8) := Lib.hid hh
  cases mb with
  | none =>
    obtain rfl : L = [] := h.vof
    have HH : Hid (vhas [] v = false) := Lib.hid rfl
    clear hh
    have HTG : Hid (t < w.heap.size) := Lib.hid h.lt0
    obtain ⟨w1, hw1⟩ : ∃ w1, w.alloc (.cells #[.pointer (some ⟨t, 0, none⟩)] 29) = w1 := ⟨_, rfl⟩
    obtain ⟨g, hg⟩ : ∃ g, w.heap.size = g := ⟨_, rfl⟩
    have hB : Below w.heap.size w w1 := by rw [← hw1]; exact (Below.refl w.heap.size w).alloc (Nat.le_refl _) _
    have cg : w1.cell? ⟨g, 0, none⟩ = some (.pointer (some ⟨t, 0, none⟩)) := by rw [← hw1, ← hg]; exact (Blk.new w _ _).cell 0
    have HT := Lib.hid (h.next hB)
    have HB := Lib.hid hB
    have HCG := Lib.hid cg
    obtain ⟨x, hx⟩ : ∃ x, u.toNat &&& (255 - m.toNat) = x := ⟨_, rfl⟩
    have hbn : bits BinOp.andNot IntKind.u8 (u.toNat : Int) (m.toNat : Int) = (x : Int) := by rw [u8_andNot_nat _ _ u.toNat_lt m.toNat_lt, hx]
    have HX := Lib.hid hx
    clear hB h hx
    unfold setBad at hb
    have HV : Hid (okV v = true) := Lib.hid (by cases h1 : okV v; (rw [h1] at hb; simp at hb); rfl)
    have H2 : Hid ((m.toNat &&& (255 - mask N) == 0) = true) := Lib.hid (by rw [HV.out] at hb; cases h1 : allIn N m; (rw [h1] at hb; simp at hb); exact h1)
    have H3 : Hid ((u.toNat &&& (255 - mask N) == 0) = true) := Lib.hid (by rw [HV.out, show allIn N m = true from H2.out] at hb; cases h1 : allIn N u; (rw [h1] at hb; simp at hb); exact h1)
    have hx0 : x = 0 := by
      rw [HV.out, show allIn N m = true from H2.out, show allIn N u = true from H3.out] at hb
      have : within u m = true := by simpa using hb
      unfold within at this
      rw [HX.out] at this
      simpa using this
    clear hb HX
    subst hx0
    go_enter Try.func17, Try.ntmps17
    go_wp2_with fail
    refine (canBe_any v).mono ?_
    rw [show okV v = true from HV.out]
    rintro e w2 ⟨rfl, rfl⟩
    go_wp2_with fail
    refine (set1_any HT.out m HCG.out).mono ?_
    rw [H2.out]
    rintro e w2 ⟨rfl, rfl⟩
    go_wp2_with fail
    refine (set1_any HT.out u HCG.out).mono ?_
    rw [H3.out]
    rintro e w2 ⟨rfl, rfl⟩
    go_wp2_with fail
    refine (has_any HT.out v).mono ?_
    rw [HH.out]
    rintro e w3 ⟨rfl, hb3⟩
    have HT3 := Lib.hid (HT.out.next hb3)
    have HB3 : Hid (Below w.heap.size w w3) := Lib.hid (HB.out.trans (hb3.mono HB.out.size))
    have cg3 : w3.cell? ⟨g, 0, none⟩ = some (.pointer (some ⟨t, 0, none⟩)) := (hb3.cell (p := ⟨g, 0, none⟩) (World.block_lt_of_cell? w1 _ HCG.out)).trans HCG.out
    have c1 := HT3.out.c1
    clear hb3 HT HB HCG cg hbn
    have hlen := HT3.out.vof.len
    have qN : ∀ w : World, (binOp .eql 55 (.map none) (.map none)).run Try.prog w = .ok (.bool true) w := fun w => run_eql_map_nil w _ _ _ none map_und
    have c1a : (w3.alloc (.map #[] 0)).cell? ⟨t, 1, none⟩ = some (.map none) := (World.cell?_of_block (w := w3) (Below.heap_alloc w3 _ t (HT3.out.lt t (.inl rfl)))).trans c1
    have f1a : (w3.alloc (.map #[] 0)).frozen? ⟨t, 1, none⟩ = false := (World.frozen?_of_block (w := w3) (Below.heap_alloc w3 _ t (HT3.out.lt t (.inl rfl)))).trans (HT3.out.fz 1)
    have hmm := @run_makeMap Try.prog
    obtain ⟨w4, hw4⟩ : ∃ w4, (w3.alloc (.map #[] 0)).setCell ⟨t, 1, none⟩ (.map (some w3.heap.size)) = w4 := ⟨_, rfl⟩
    have hmade := HT3.out.made
    rw [hw4] at hmade
    have HT4 := Lib.hid hmade.1
    have HC4 := Lib.hid hmade.2
    obtain ⟨b, hb⟩ : ∃ b, w3.heap.size = b := ⟨_, rfl⟩
    have hbg : g < w3.heap.size := World.block_lt_of_cell? w3 _ cg3
    have htb : t < w3.heap.size := HT3.out.lt t (.inl rfl)
    have cg4 : w4.cell? ⟨g, 0, none⟩ = some (.pointer (some ⟨t, 0, none⟩)) := (HC4.out.cell (p := ⟨g, 0, none⟩) hbg (by
      rintro (e | e)
      · have e' : g = t := e
        have := HTG.out
        omega
      · cases e)).trans cg3
    have HBL : Hid (w.heap.size ≤ w3.heap.size) := Lib.hid HB3.out.size
    rw [hb] at HT4 hw4 HBL
    have c4 := HT4.out.c1
    clear hmade hbg htb
    go_wp2_with (at_mapUpdate; refine wpList_mapUpdate_in _ rfl _ _ _ 55 rfl 23 69 key_law map_und setsR b [].length (encL []) rfl HT4.out.vof (by have := HT4.out.l8; unfold maxLen; omega) _ _ (kL v) rfl rfl (key_at v) (encS m.toNat u.toNat) [] (setsR_mk _ _) ?_; intro w5 hown5 hturn5)
    have hm5 : Vmap w5 b (vput [] ⟨v, m, u⟩) := by
      have := put_enc [] ⟨v, m, u⟩
      rw [this] at hown5
      exact Vmap.of hown5
    have htt := HT4.out.turn hm5 hturn5 (vput_le HL.out HT4.out.l8) (vput_ris _ HT4.out.ris)
    clear hown5 hturn5 hm5
    go_wp2
    go_ret
    refine ⟨rfl, some b, htt.1, ?_, ?_⟩
    · refine ((Chg.of_below HB3.out).trans (HC4.out.mono fun k _ hk => hk)).also htt.2 (fun k hk hs => ?_)
      rcases hs with e | e
      · exact .inl e
      · cases e; have := HBL.out; omega
    · rintro k (e | e)
      · exact .inl (.inl e)
      · cases e; exact .inr HBL.out
  | some b =>
    have qS : ∀ w : World, (binOp .eql 55 (.map (some b)) (.map none)).run Try.prog w = .ok (.bool false) w := fun w => run_eql_map_nil w _ _ _ (some b) map_und
    cases hhas : vhas L v
    · have HH := Lib.hid hhas
      have hl8 : L.length < 8 := by
        rcases hh with e | e
        · rw [hhas] at e; cases e
        · exact e
      clear hh hhas
      obtain ⟨w1, hw1⟩ : ∃ w1, w.alloc (.cells #[.pointer (some ⟨t, 0, none⟩)] 29) = w1 := ⟨_, rfl⟩
      obtain ⟨g, hg⟩ : ∃ g, w.heap.size = g := ⟨_, rfl⟩
      have hB : Below w.heap.size w w1 := by rw [← hw1]; exact (Below.refl w.heap.size w).alloc (Nat.le_refl _) _
      have cg : w1.cell? ⟨g, 0, none⟩ = some (.pointer (some ⟨t, 0, none⟩)) := by rw [← hw1, ← hg]; exact (Blk.new w _ _).cell 0
      have HT := Lib.hid (h.next hB)
      have HB := Lib.hid hB
      have HCG := Lib.hid cg
      obtain ⟨x, hx⟩ : ∃ x, u.toNat &&& (255 - m.toNat) = x := ⟨_, rfl⟩
      have hbn : bits BinOp.andNot IntKind.u8 (u.toNat : Int) (m.toNat : Int) = (x : Int) := by rw [u8_andNot_nat _ _ u.toNat_lt m.toNat_lt, hx]
      have HX := Lib.hid hx
      clear hB h hx
      unfold setBad at hb
      have HV : Hid (okV v = true) := Lib.hid (by cases h1 : okV v; (rw [h1] at hb; simp at hb); rfl)
      have H2 : Hid ((m.toNat &&& (255 - mask N) == 0) = true) := Lib.hid (by rw [HV.out] at hb; cases h1 : allIn N m; (rw [h1] at hb; simp at hb); exact h1)
      have H3 : Hid ((u.toNat &&& (255 - mask N) == 0) = true) := Lib.hid (by rw [HV.out, show allIn N m = true from H2.out] at hb; cases h1 : allIn N u; (rw [h1] at hb; simp at hb); exact h1)
      have hx0 : x = 0 := by
        rw [HV.out, show allIn N m = true from H2.out, show allIn N u = true from H3.out] at hb
        have : within u m = true := by simpa using hb
        unfold within at this
        rw [HX.out] at this
        simpa using this
      clear hb HX
      subst hx0
      go_enter Try.func17, Try.ntmps17
      go_wp2_with fail
      refine (canBe_any v).mono ?_
      rw [show okV v = true from HV.out]
      rintro e w2 ⟨rfl, rfl⟩
      go_wp2_with fail
      refine (set1_any HT.out m HCG.out).mono ?_
      rw [H2.out]
      rintro e w2 ⟨rfl, rfl⟩
      go_wp2_with fail
      refine (set1_any HT.out u HCG.out).mono ?_
      rw [H3.out]
      rintro e w2 ⟨rfl, rfl⟩
      go_wp2_with fail
      refine (has_any HT.out v).mono ?_
      rw [HH.out]
      rintro e w3 ⟨rfl, hb3⟩
      have HT3 := Lib.hid (HT.out.next hb3)
      have HB3 : Hid (Below w.heap.size w w3) := Lib.hid (HB.out.trans (hb3.mono HB.out.size))
      have cg3 : w3.cell? ⟨g, 0, none⟩ = some (.pointer (some ⟨t, 0, none⟩)) := (hb3.cell (p := ⟨g, 0, none⟩) (World.block_lt_of_cell? w1 _ HCG.out)).trans HCG.out
      have c1 := HT3.out.c1
      clear hb3 HT HB HCG cg hbn
      have hlen := HT3.out.vof.len
      have hl8' : ((L.length : Nat) : Int) < 8 := by omega
      go_wp2_with (at_mapUpdate; refine wpList_mapUpdate_in _ rfl _ _ _ 55 rfl 23 69 key_law map_und setsR b L.length (encL L) rfl HT3.out.vof (by have := HT3.out.l8; unfold maxLen; omega) _ _ (kL v) rfl rfl (key_at v) (encS m.toNat u.toNat) [] (setsR_mk _ _) ?_; intro w5 hown5 hturn5)
      have hm5 : Vmap w5 b (vput L ⟨v, m, u⟩) := by
        have := put_enc L ⟨v, m, u⟩
        rw [this] at hown5
        exact Vmap.of hown5
      have htt := HT3.out.turn hm5 hturn5 (vput_le HL.out HT3.out.l8) (vput_ris _ HT3.out.ris)
      clear hown5 hturn5 hm5
      go_wp2
      go_ret
      exact ⟨rfl, some b, htt.1, (Chg.of_below HB3.out).trans htt.2, fun k e => .inl e⟩
    · have HH := Lib.hid hhas
      clear hh hhas
      obtain ⟨w1, hw1⟩ : ∃ w1, w.alloc (.cells #[.pointer (some ⟨t, 0, none⟩)] 29) = w1 := ⟨_, rfl⟩
      obtain ⟨g, hg⟩ : ∃ g, w.heap.size = g := ⟨_, rfl⟩
      have hB : Below w.heap.size w w1 := by rw [← hw1]; exact (Below.refl w.heap.size w).alloc (Nat.le_refl _) _
      have cg : w1.cell? ⟨g, 0, none⟩ = some (.pointer (some ⟨t, 0, none⟩)) := by rw [← hw1, ← hg]; exact (Blk.new w _ _).cell 0
      have HT := Lib.hid (h.next hB)
      have HB := Lib.hid hB
      have HCG := Lib.hid cg
      obtain ⟨x, hx⟩ : ∃ x, u.toNat &&& (255 - m.toNat) = x := ⟨_, rfl⟩
      have hbn : bits BinOp.andNot IntKind.u8 (u.toNat : Int) (m.toNat : Int) = (x : Int) := by rw [u8_andNot_nat _ _ u.toNat_lt m.toNat_lt, hx]
      have HX := Lib.hid hx
      clear hB h hx
      unfold setBad at hb
      have HV : Hid (okV v = true) := Lib.hid (by cases h1 : okV v; (rw [h1] at hb; simp at hb); rfl)
      have H2 : Hid ((m.toNat &&& (255 - mask N) == 0) = true) := Lib.hid (by rw [HV.out] at hb; cases h1 : allIn N m; (rw [h1] at hb; simp at hb); exact h1)
      have H3 : Hid ((u.toNat &&& (255 - mask N) == 0) = true) := Lib.hid (by rw [HV.out, show allIn N m = true from H2.out] at hb; cases h1 : allIn N u; (rw [h1] at hb; simp at hb); exact h1)
      have hx0 : x = 0 := by
        rw [HV.out, show allIn N m = true from H2.out, show allIn N u = true from H3.out] at hb
        have : within u m = true := by simpa using hb
        unfold within at this
        rw [HX.out] at this
        simpa using this
      clear hb HX
      subst hx0
      go_enter Try.func17, Try.ntmps17
      go_wp2_with fail
      refine (canBe_any v).mono ?_
      rw [show okV v = true from HV.out]
      rintro e w2 ⟨rfl, rfl⟩
      go_wp2_with fail
      refine (set1_any HT.out m HCG.out).mono ?_
      rw [H2.out]
      rintro e w2 ⟨rfl, rfl⟩
      go_wp2_with fail
      refine (set1_any HT.out u HCG.out).mono ?_
      rw [H3.out]
      rintro e w2 ⟨rfl, rfl⟩
      go_wp2_with fail
      refine (has_any HT.out v).mono ?_
      rw [HH.out]
      rintro e w3 ⟨rfl, hb3⟩
      have HT3 := Lib.hid (HT.out.next hb3)
      have HB3 : Hid (Below w.heap.size w w3) := Lib.hid (HB.out.trans (hb3.mono HB.out.size))
      have cg3 : w3.cell? ⟨g, 0, none⟩ = some (.pointer (some ⟨t, 0, none⟩)) := (hb3.cell (p := ⟨g, 0, none⟩) (World.block_lt_of_cell? w1 _ HCG.out)).trans HCG.out
      have c1 := HT3.out.c1
      clear hb3 HT HB HCG cg hbn
      go_wp2_with (at_mapUpdate; refine wpList_mapUpdate_in _ rfl _ _ _ 55 rfl 23 69 key_law map_und setsR b L.length (encL L) rfl HT3.out.vof (by have := HT3.out.l8; unfold maxLen; omega) _ _ (kL v) rfl rfl (key_at v) (encS m.toNat u.toNat) [] (setsR_mk _ _) ?_; intro w5 hown5 hturn5)
      have hm5 : Vmap w5 b (vput L ⟨v, m, u⟩) := by
        have := put_enc L ⟨v, m, u⟩
        rw [this] at hown5
        exact Vmap.of hown5
      have htt := HT3.out.turn hm5 hturn5 (vput_le HL.out HT3.out.l8) (vput_ris _ HT3.out.ris)
      clear hown5 hturn5 hm5
      go_wp2
      go_ret
      exact ⟨rfl, some b, htt.1, (Chg.of_below HB3.out).trans htt.2, fun k e => .inl e⟩
end Go.Proofs.Yteiopobkbfancaa
