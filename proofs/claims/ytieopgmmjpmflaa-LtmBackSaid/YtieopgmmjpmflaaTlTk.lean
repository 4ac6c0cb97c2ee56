/- package tlv: Take, whole. -/
import Derived.Test.YtieopgmmjpmflaaTlTake
import Derived.WalkMore
namespace Go.Proofs.Ytieopgmmjpmflaa
open Go.RowKit
set_option linter.unusedVariables false
set_option linter.unusedSimpArgs false
set_option maxRecDepth 100000

/-- how many bytes the reader at a block has left -/
def leftAt (w : World) (b : Nat) : Nat := match w.cell? ⟨b, 0, none⟩ with | some (.string s) => s.size | _ => 0
theorem leftAt_of {w : World} {b : Nat} {l : List UInt8} {er : Int} (h : Rdr w b l er) : leftAt w b = l.length := by
  unfold leftAt
  rw [h.rest]
  rfl
/-- Take's memory: the reader, its box, the things so far -/
structure TkS (W : World) (b q : Nat) (L : List UInt8) (er : Int) (v : Value) (acc : List Tl) (w : World) : Prop where
  box : w.cell? ⟨q, 0, none⟩ = some (.pointer (some ⟨b, 0, none⟩))
  qb : q ≠ b
  ge : W.heap.size ≤ b ∧ W.heap.size ≤ q ∧ b < w.heap.size ∧ q < w.heap.size
  rdr : Rdr w b L er
  own : w.ownsRow W.heap.size 69 2 v acc.length (acc.flatMap tlV)
  below : Below W.heap.size W w
  box' : ∃ t cs, Blk w q t cs ∧ t ≠ 69
theorem TkS.call {W w w' : World} {b q : Nat} {L L' : List UInt8} {er er' : Int} {v : Value} {acc : List Tl} (h : TkS W b q L er v acc w) (hr : Rdr w' b L' er') (hc : Chg (only b) w w') : TkS W b q L' er' v acc w' := by
  have hqb := h.qb
  obtain ⟨g1, g2, g3, g4⟩ := h.ge
  have ho := h.own
  refine ⟨(Chg.cell hc (p := ⟨q, 0, none⟩) g4 hqb).trans h.box, hqb, ⟨g1, g2, Nat.lt_of_lt_of_le g3 hc.size, Nat.lt_of_lt_of_le g4 hc.size⟩, hr, ⟨ho.1, ?_⟩, h.below.trans (Chg.below (hc.mono (S' := only b) (fun _ _ h => h)) h.below.size (fun k hk hs => by unfold only at hs; omega)), ?_⟩
  · rcases ho.2 with hn | ⟨g, cap, cur, hv, hgb, hgg, rest⟩
    · exact .inl hn
    · refine .inr ⟨g, cap, cur, hv, hgb, (hc.block g (Array.getElem?_eq_some_iff.1 hgg).1 (fun e => ?_)).trans hgg, rest⟩
      have e' : g = b := e
      subst e'
      have := h.rdr
      unfold Rdr Blk at this
      rw [this] at hgg
      simp only [Option.some.injEq, Obj.cells.injEq] at hgg
      exact absurd hgg.2.1 (by decide)
  · obtain ⟨t, cs, hb, ht⟩ := h.box'
    exact ⟨t, cs, hb.chg hc hqb, ht⟩
theorem TkS.app {W w w' : World} {b q : Nat} {L : List UInt8} {er : Int} {v v' : Value} {acc acc' : List Tl} {o : Obj} (h : TkS W b q L er v acc w) (ho : w'.ownsRow W.heap.size 69 2 v' acc'.length (acc'.flatMap tlV)) (hg : (w.alloc o).grownBy w' v.ownBlock) : TkS W b q L er v' acc' w' := by
  obtain ⟨g1, g2, g3, g4⟩ := h.ge
  obtain ⟨t, cs, hb, ht⟩ := h.box'
  have hs : w.heap.size ≤ w'.heap.size := Nat.le_trans (by simp) hg.size
  have hq := blk_grownL (hb.alloc o) hg (own_neL h.own hb ht)
  have hr : Blk (w.alloc o) b _ _ := Blk.alloc h.rdr o
  have hbx := h.box
  rw [hb.cell] at hbx
  exact ⟨by rw [hq.cell]; exact hbx, h.qb, ⟨g1, g2, by omega, by omega⟩, blk_grownL hr hg (own_neL h.own h.rdr (by decide)), ho, (h.below.alloc h.below.size o).grown hg (by have := h.below.size; simp; omega) (fun k hk => (h.own.lt k hk).1), ⟨t, cs, hq, ht⟩⟩
/-- the things of bytes, what is behind them, or why they are none -/
def tkX (s : List UInt8) : List Tl := match tks s with | some p => p.1 | none => []
def tkR (s : List UInt8) : List UInt8 := match tks s with | some p => p.2 | none => []
def tkErr (s : List UInt8) : Nat := match tks s with | some _ => 0 | none => 3
theorem tk_none3 {s : List UInt8} (h : tks s = none) : tkX s = [] ∧ tkR s = [] ∧ tkErr s = 3 := by
  unfold tkX tkR tkErr
  rw [h]
  exact ⟨rfl, rfl, rfl⟩
theorem tk_some3 {s : List UInt8} {l : List Tl} {q : List UInt8} (h : tks s = some (l, q)) : tkX s = l ∧ tkR s = q ∧ tkErr s = 0 := by
  unfold tkX tkR tkErr
  rw [h]
  exact ⟨rfl, rfl, rfl⟩
theorem tu8_cons {w : World} {b : Nat} {x : UInt8} {r : List UInt8} (h : Rdr w b (x :: r) 0) :
    Calls Try.prog 29 #[.pointer (some ⟨b, 0, none⟩)] w fun e w' => e = .returned (.int .u8 x.toNat) ∧ Rdr w' b r 0 ∧ Chg (only b) w w' := by
  have := u8_any h
  have a : tkV 1 (x :: r) 0 = [x] := by simp [tkV]
  have b' : tkL 1 (x :: r) 0 = r := by simp [tkL]
  have c : tkE 1 (x :: r) 0 = 0 := by simp [tkE]
  rw [a, b', c] at this
  have e : num [x] = x.toNat := by simp [num]
  rw [e] at this
  exact this
theorem tu8_end {w : World} {b : Nat} {l : List UInt8} {er : Int} (h : Rdr w b l er) (he : (er = 0 ∧ l = []) ∨ er = 3) :
    Calls Try.prog 29 #[.pointer (some ⟨b, 0, none⟩)] w fun e w' => e = .returned (.int .u8 0) ∧ (∃ l', Rdr w' b l' 3) ∧ Chg (only b) w w' := by
  refine (u8_any h).mono ?_
  rintro e w' ⟨rfl, hr, hc⟩
  rcases he with ⟨rfl, rfl⟩ | rfl
  · exact ⟨by rw [show tkV 1 [] 0 = [] by simp [tkV]]; rfl, ⟨_, by rw [show tkE 1 [] 0 = 3 by simp [tkE]] at hr; exact hr⟩, hc⟩
  · exact ⟨by rw [show tkV 1 l 3 = [] by simp [tkV]]; rfl, ⟨_, by rw [show tkE 1 l 3 = 3 by simp [tkE]] at hr; exact hr⟩, hc⟩
theorem rest_ok {w : World} {b : Nat} {l : List UInt8} (h : Rdr w b l 0) :
    Calls Try.prog 33 #[.pointer (some ⟨b, 0, none⟩)] w fun e w' => e = .returned (.string ⟨l.toArray⟩) ∧ (∃ l', Rdr w' b l' 0) ∧ Chg (only b) w w' := by
  refine (rest_any h).mono ?_
  rintro e w' ⟨rfl, hr, hc⟩
  exact ⟨by rw [show tkV l.length l 0 = l by simp [tkV]], ⟨_, hr⟩, hc⟩
set_option maxHeartbeats 4000000 in
theorem tltake_own (s : List UInt8) (w : World) (hs : s.length ≤ 1000000) :
    Calls Try.prog 32 #[.string ⟨s.toArray⟩] w fun e w' => ∃ A c, e = .returned (.tuple #[.slice A (tkX s).length c, .string ⟨(tkR s).toArray⟩, .int .i64 (tkErr s : Nat)]) ∧ Els 2 tlV w' A (tkX s) ∧ (A = none → c = 0) ∧ Below w.heap.size w w' ∧ (∀ a, A = some a → w.heap.size ≤ a.block) := by
  have hmf : ∀ (fn : Fn) (first cap : Array Value) (w : World), (Instr.makeFunc fn first cap).run Try.prog w = .ok (.func fn first cap) w := fun _ _ _ _ => rfl
  have HLS := Lib.hid hs
  obtain ⟨i0, hi⟩ := info_parts infoTl
  have HIT := Lib.hid hi
  clear hi hs
  go_enter Try.func32, Try.ntmps32
  go_wp2_with fail
  go_step3
  go_wp2_with fail
  refine (of_any s).mono ?_
  rintro e w1 ⟨rfl, hr1, hb1⟩
  obtain ⟨b, hb⟩ : ∃ b, w.heap.size = b := ⟨_, rfl⟩
  obtain ⟨q, hq⟩ : ∃ q, w1.heap.size = q := ⟨_, rfl⟩
  obtain ⟨w2, hw2⟩ : ∃ w2, w1.alloc (.cells #[.pointer (some ⟨b, 0, none⟩)] 73) = w2 := ⟨_, rfl⟩
  have HS0 : Hid (TkS w b q s 0 (.slice none 0 0) [] w2) := Lib.hid (by
    have hlt := hr1.lt
    rw [hb] at hlt hr1
    subst hw2 hq
    exact ⟨(Blk.new w1 _ _).cell 0, by omega, ⟨by omega, hb1.size, by simp; omega, by simp⟩, Blk.alloc hr1 _, World.ownsRow_nil _ _ _ _, hb1.alloc hb1.size _, ⟨_, _, Blk.new w1 _ _, by decide⟩⟩)
  rw [hb]
  clear hb1 hr1
  go_wp2_with fail
  clear hq hw2 hb
  go_step3
  go_wp2_with fail
  go_loopw [7] (fun v wr => ∃ L er acc, Hid (TkS w b q L er v acc wr) ∧ Hid (acc.length + L.length ≤ s.length) ∧ Hid ((er = 0 ∧ tks s = (tks L).map (fun p => (acc ++ p.1, p.2))) ∨ (er = 3 ∧ tks s = none))) (fun _ wr => leftAt wr b)
  case atStart =>
    exact ⟨s, 0, [], HS0, Lib.hid (by simp), Lib.hid (.inl ⟨rfl, by cases tks s <;> simp⟩)⟩
  case round =>
    obtain ⟨L, er, acc, HS, HL, HI⟩ := hrel
    have box2 := HS.out.box
    rcases HI.out with ⟨rfl, h0⟩ | ⟨rfl, h0⟩
    · cases L with
      | nil =>
        have HN := Lib.hid (tk_none3 (s := s) (by rw [h0, tks_nil]; rfl))
        clear h0 HI
        go_wp2_with fail
        refine (tu8_end HS.out.rdr (.inl ⟨rfl, rfl⟩)).mono ?_
        rintro e w3 ⟨rfl, ⟨L3, hr3⟩, hc3⟩
        have HT : Hid (TkS w b q L3 3 _ acc w3) := Lib.hid (HS.out.call hr3 hc3)
        clear hr3 hc3 HS box2

        have box3 := HT.out.box
        go_wp2_with fail
        refine (err_any HT.out.rdr).mono ?_
        rintro e w' ⟨rfl, rfl⟩
        go_wp2
        rw [Exit.noGoto_ret]
        go_ret3
        refine ⟨none, 0, ?_, ?_, fun _ => rfl, HT.out.below, fun a h => by cases h⟩
        · rw [HN.out.1, HN.out.2.1, HN.out.2.2]; rfl
        · rw [HN.out.1]; exact els_nilL _ _

      | cons x r =>
        by_cases hx : x = 0
        · subst hx
          have HN := Lib.hid (tk_some3 (s := s) (l := acc) (q := r) (by rw [h0, tks_zero]; simp))
          clear h0 HI
          go_wp2_with fail
          refine (tu8_cons HS.out.rdr).mono ?_
          rintro e w3 ⟨rfl, hr3, hc3⟩
          have HT : Hid (TkS w b q r 0 _ acc w3) := Lib.hid (HS.out.call hr3 hc3)
          clear hr3 hc3 HS box2
          have box3 := HT.out.box
          have e0 : (((0 : UInt8).toNat : Int) == 0) = true := rfl
          go_wp2_with fail
          refine (err_any HT.out.rdr).mono ?_
          rintro e w' ⟨rfl, rfl⟩
          go_wp2_with fail
          refine (rest_ok HT.out.rdr).mono ?_
          rintro e w4 ⟨rfl, ⟨L4, hr4⟩, hc4⟩
          have HT4 : Hid (TkS w b q L4 0 _ acc w4) := Lib.hid (HT.out.call hr4 hc4)
          clear hr4 hc4 HT box3
          obtain ⟨A, c, hv, hE, _, hA, hO⟩ := own_fullL tlV_len HT4.out.own
          subst hv
          have HE := Lib.hid (And.intro hE (And.intro hA hO))
          clear hE hA hO
          go_wp2
          rw [Exit.noGoto_ret]
          go_ret3
          refine ⟨A, c, ?_, ?_, HE.out.2.1, HT4.out.below, fun a h => (HE.out.2.2 a h).1⟩
          · rw [HN.out.1, HN.out.2.1, HN.out.2.2]; rfl
          · rw [HN.out.1]; exact HE.out.1
        · have e0 : ((x.toNat : Int) == 0) = false := by
            have := tl_eqI x 0
            rw [show ((0 : UInt8).toNat : Int) = 0 from rfl] at this
            rw [this]; simpa using hx
          have HTV := Lib.hid (tks_rv (k := x) (r := r) hx)
          have H0 := Lib.hid h0
          have hrl := rv_len r 0
          have HRL := Lib.hid hrl
          have HLW : Hid (leftAt wr b = (x :: r).length) := Lib.hid (leftAt_of HS.out.rdr)
          obtain ⟨vv, hvv⟩ : ∃ vv, rvV r 0 = vv := ⟨_, rfl⟩
          have KV := Lib.hid (fun w q b h1 h2 h3 => @tlval_any w q b r 0 h1 h2 h3)
          rw [hvv] at KV HTV
          clear h0 HI hrl hx hvv
          go_wp2_with fail
          refine (tu8_cons HS.out.rdr).mono ?_
          rintro e w3 ⟨rfl, hr3, hc3⟩
          have HT : Hid (TkS w b q r 0 _ acc w3) := Lib.hid (HS.out.call hr3 hc3)
          clear hr3 hc3 HS box2
          have box3 := HT.out.box
          go_wp2_with fail
          refine (KV.out _ q b HT.out.qb HT.out.box HT.out.rdr).mono ?_
          rintro e w4 ⟨rfl, hr4, hc4⟩
          have HT4 : Hid (TkS w b q (rvL r 0) (rvE r 0) _ acc w4) := Lib.hid (HT.out.call hr4 hc4)
          clear hr4 hc4 HT box3 KV
          have HAL : Hid (acc.length + 1 ≤ 1000000) := Lib.hid (by have := HL.out; have := HLS.out; simp at *; omega)
          go_wp2_with (at_builtin; refine wpl_appL rfl (.tmp 16) (.tmp 21) _ rfl tlV_len tlV_one (by decide) w.heap.size _ i0 _ 24 Try.underlying29 HIT.out rfl _ acc rfl (World.ownsRow.alloc HT4.out.own _) (some ⟨w4.heap.size, 0, none⟩) 1 1 [⟨x, vv⟩] rfl rfl (fun e => by cases e) (els_oneL w4 _ ⟨x, vv⟩ _ rfl) HAL.out (by decide) (by have := HT4.out.below.size; simp; omega) ?_)
          intro v5 w5 ho5 hg5 _
          have HT5 : Hid (TkS w b q (rvL r 0) (rvE r 0) v5 (acc ++ [⟨x, vv⟩]) w5) := Lib.hid (HT4.out.app (by simpa using ho5) hg5)
          clear ho5 hg5 HT4
          go_wp2
          go_roundw
          case rel =>
            refine ⟨rvL r 0, rvE r 0, acc ++ [⟨x, vv⟩], HT5, Lib.hid ?_, Lib.hid ?_⟩
            · have := HL.out
              have := HRL.out
              simp at *
              omega
            · rcases HTV.out with ⟨a1, a2⟩ | ⟨a1, a2⟩
              · refine .inl ⟨a1, ?_⟩
                rw [H0.out, a2]
                cases tks (rvL r 0) <;> simp
              · exact .inr ⟨a1, by rw [H0.out, a2]; rfl⟩
          case measure =>
            rw [leftAt_of HT5.out.rdr, HLW.out]
            have := HRL.out
            simp only [List.length_cons]
            omega
    · have HN := Lib.hid (tk_none3 h0)
      clear h0 HI
      go_wp2_with fail
      refine (tu8_end HS.out.rdr (.inr rfl)).mono ?_
      rintro e w3 ⟨rfl, ⟨L3, hr3⟩, hc3⟩
      have HT : Hid (TkS w b q L3 3 _ acc w3) := Lib.hid (HS.out.call hr3 hc3)
      clear hr3 hc3 HS box2

      have box3 := HT.out.box
      go_wp2_with fail
      refine (err_any HT.out.rdr).mono ?_
      rintro e w' ⟨rfl, rfl⟩
      go_wp2
      rw [Exit.noGoto_ret]
      go_ret3
      refine ⟨none, 0, ?_, ?_, fun _ => rfl, HT.out.below, fun a h => by cases h⟩
      · rw [HN.out.1, HN.out.2.1, HN.out.2.2]; rfl
      · rw [HN.out.1]; exact els_nilL _ _

theorem tltake_any (s : List UInt8) (w : World) (hs : s.length ≤ 1000000) :
    Calls Try.prog 32 #[.string ⟨s.toArray⟩] w fun e w' => ∃ A c, e = .returned (.tuple #[.slice A (tkX s).length c, .string ⟨(tkR s).toArray⟩, .int .i64 (tkErr s : Nat)]) ∧ Els 2 tlV w' A (tkX s) ∧ (A = none → c = 0) ∧ Below w.heap.size w w' :=
  (tltake_own s w hs).mono fun e w' ⟨A, c, h1, h2, h3, h4, _⟩ => ⟨A, c, h1, h2, h3, h4⟩
end Go.Proofs.Ytieopgmmjpmflaa
