/- WireReads: whatever a text, and whatever is asked of it, each answer is what the document says: for every text and every row of asks, without a condition. -/
import Derived.Test.YtjcgnclhickfgaaRef
import Derived.Test.YtjcgnclhickfgaaOpen
import Derived.Test.YtjcgnclhickfgaaWakes
import Derived.OpenShut
import Derived.ShutString
import Derived.ChangeOld
import Derived.Deep.RegionLaw
import Derived.Deep.DeepCutAuto
import Derived.Deep.CutBlock
import Derived.Deep.RegionWith
import Derived.Deep.QuietTactic
import Derived.BigQuiet
namespace Go.Proofs.Ytjcgnclhickfgaa.wireReads
open Go.ChangeShapes Go.WideShapes Go.ChangeAt Go.RowKit
open Go.ChangeMaps (open_string shut_string)
set_option linter.unusedVariables false
set_option linter.unusedSimpArgs false

theorem num64 (m : List UInt8) (h : m.length ≤ 8) : IntKind.u64.wrap (num m : Int) = num m := by
  have h1 := num_lt m
  have h2 : num m < 256 ^ 8 := Nat.lt_of_lt_of_le h1 (Nat.pow_le_pow_right (by omega) h)
  exact IntWalk.u64_in _ (by omega)
/-- what the document's reader still has -/
def rl (l : List UInt8) (er : Int) : List UInt8 := if er = 0 then l else []
theorem rtV_eq (n : Int) (l : List UInt8) (er : Int) : rtV n (rl l er) er = tkV n.toNat l er := by
  unfold rtV rl tkV
  by_cases he : er = 0
  · subst he
    by_cases hn : n ≤ 0
    · have : n.toNat = 0 := by omega
      simp [hn, this]
    · by_cases hl : (l.length : Int) < n
      · have : ¬ n.toNat ≤ l.length := by omega
        simp [hl, this]
      · have : n.toNat ≤ l.length := by omega
        simp [hl, this, hn]
  · simp [he]
theorem rtL_eq (n : Int) (l : List UInt8) (er : Int) : rtL n (rl l er) er = rl (tkL n.toNat l er) (tkE n.toNat l er) := by
  unfold rtL rl tkL tkE
  by_cases he : er = 0
  · subst he
    by_cases hn : n ≤ 0
    · have : n.toNat = 0 := by omega
      simp [hn, this]
    · by_cases hl : (l.length : Int) < n
      · have h1 : ¬ n.toNat ≤ l.length := by omega
        have h2 : l.length < n.toNat := by omega
        simp [hl, h2, hn]
      · have h1 : n.toNat ≤ l.length := by omega
        have h2 : ¬ l.length < n.toNat := by omega
        simp [hl, h1, h2, hn]
  · simp [he]
theorem rtE_eq (n : Int) (l : List UInt8) (er : Int) : rtE n (rl l er) er = tkE n.toNat l er := by
  unfold rtE rl tkE
  by_cases he : er = 0
  · subst he
    by_cases hn : n ≤ 0
    · have : n.toNat = 0 := by omega
      simp [hn, this]
    · by_cases hl : (l.length : Int) < n
      · have h2 : l.length < n.toNat := by omega
        simp [hl, h2, hn]
      · have h2 : ¬ l.length < n.toNat := by omega
        simp [hl, h2]
  · simp [he]
theorem lft_eq (l : List UInt8) (er : Int) : lft l er = (rl l er).length := by unfold lft rl; split <;> simp
theorem rest_eq (l : List UInt8) (er : Int) : tkV (rl l er).length l er = tkV l.length l er ∧ rl (tkL (rl l er).length l er) (tkE (rl l er).length l er) = rl (tkL l.length l er) er ∧ tkE (rl l er).length l er = er := by
  unfold tkV tkL tkE rl
  by_cases he : er = 0
  · subst he; simp
  · simp [he]
theorem bad_eq (l : List UInt8) (er : Int) : (if er = 0 then [] else rl l er) = rl l (bdE er) := by
  unfold rl bdE
  by_cases he : er = 0
  · subst he; simp
  · simp [he]
theorem end_eq (l : List UInt8) (er : Int) : (if er = 0 then [] else rl l er) = rl l (ndE l er) ∧ ndE (rl l er) er = ndE l er := by
  unfold rl ndE
  by_cases he : er = 0
  · subst he
    by_cases hl : 0 < l.length
    · simp [hl]
    · have : l = [] := List.eq_nil_of_length_eq_zero (by omega)
      subst this; simp
  · simp [he]

/-- both readers: the program's at block b, the document's at block b2 -/
structure Two (b b2 : Nat) (w : World) (l : List UInt8) (er : Int) : Prop where
  ne : b ≠ b2
  rdr : Rdr w b l er
  ref : Blk w b2 38 #[.string ⟨(rl l er).toArray⟩, .int .i64 er]

structure Half (b b2 : Nat) (w : World) (l : List UInt8) (er : Int) (x : List UInt8) (y : Int) : Prop where
  ne : b ≠ b2
  rdr : Rdr w b l er
  ref : Blk w b2 38 #[.string ⟨x.toArray⟩, .int .i64 y]
theorem Two.half {b b2 : Nat} {w w' : World} {l l' : List UInt8} {er er' : Int} (h : Two b b2 w l er) (hr : Rdr w' b l' er') (hc : Chg (only b) w w') : Half b b2 w' l' er' (rl l er) er :=
  ⟨h.ne, hr, Blk.chg h.ref hc (fun e => h.ne e.symm)⟩
theorem Half.below {b b2 : Nat} {w w' : World} {l x : List UInt8} {er y : Int} (h : Half b b2 w l er x y) (hb : Below w.heap.size w w') : Half b b2 w' l er x y :=
  ⟨h.ne, below_rdr h.rdr hb, Blk.below h.ref hb h.ref.lt⟩
theorem Half.c0 {b b2 : Nat} {w : World} {l x : List UInt8} {er y : Int} (h : Half b b2 w l er x y) : w.cell? ⟨b2, 0, none⟩ = some (.string ⟨x.toArray⟩) := h.ref.cell 0
theorem Half.c1 {b b2 : Nat} {w : World} {l x : List UInt8} {er y : Int} (h : Half b b2 w l er x y) : w.cell? ⟨b2, 1, none⟩ = some (.int .i64 y) := h.ref.cell 1
theorem Half.two {b b2 : Nat} {w : World} {l x : List UInt8} {er y : Int} (h : Half b b2 w l er x y) : Two b b2 ((w.setCell ⟨b2, 0, none⟩ (.string ⟨(rl l er).toArray⟩)).setCell ⟨b2, 1, none⟩ (.int .i64 er)) l er := by
  refine ⟨h.ne, Blk.far (Blk.far h.rdr h.ne _) h.ne _, ?_⟩
  have := (h.ref.put 0 (.string ⟨(rl l er).toArray⟩)).put 1 (.int .i64 er)
  simpa using this
theorem Half.drew {b b2 : Nat} {w : World} {l x : List UInt8} {er y : Int} (h : Half b b2 w l er x y) : Half b b2 w.drew l er x y := ⟨h.ne, h.rdr, h.ref⟩
theorem qleft {f : FuncId} {args : Array Value} {w : World} {n : Nat} {v : Value} (h : Calls Try.prog f args (w.drewN n) fun e w' => e = .returned v ∧ w.drewN n = w') :
    Calls Try.prog f args (w.drewN n) fun e w'' => e = .returned v ∧ ∃ m, w'' = w.drewN m := h.mono fun _ _ ⟨he, hm⟩ => ⟨he, n, hm.symm⟩
theorem left_rl {w : World} {b : Nat} {l : List UInt8} {er : Int} (h : Rdr w b l er) :
    Calls Try.prog 28 #[.pointer (some ⟨b, 0, none⟩)] w fun e w' => e = .returned (.int .i64 (rl l er).length) ∧ w = w' := by
  rw [← lft_eq]; exact left_any h
theorem Two.drewN {b b2 : Nat} {w : World} {l : List UInt8} {er : Int} (h : Two b b2 w l er) (n : Nat) : Two b b2 (w.drewN n) l er := ⟨h.ne, h.rdr, h.ref⟩
theorem below_drewN {B : Nat} {a w : World} (h : Below B a w) (n : Nat) : Below B a (w.drewN n) := ⟨h.os, h.tape, h.output, h.size, h.block⟩
theorem Two.drew {b b2 : Nat} {w : World} {l : List UInt8} {er : Int} (h : Two b b2 w l er) : Two b b2 w.drew l er := ⟨h.ne, h.rdr, h.ref⟩

set_option maxRecDepth 100000 in
set_option maxHeartbeats 4000000 in
theorem walk {H : Type} {enc : TypeId × Value → H} (W : World) (base : Nat) {v0 v1 : Value} {d0 d1 : DataW H} {p0 p1 : List MemPlace}
    (o0 : Value.okWide Try.prog W .any base 9 v0) (h0 : DataW.Trod enc Try.prog W 0 (fun _ => true) true 9 v0 d0 p0) (o1 : Value.okWide Try.prog W .any base 33 v1) (h1 : DataW.Trod enc Try.prog W 0 (fun _ => true) true 33 v1 d1 p1) :
    Calls Try.prog 4 #[v0, v1] W fun e w' => e = .returned (.bool true) ∧ Below W.heap.size W w' := by
  obtain ⟨s, rfl, rfl, rfl, hs⟩ := open_string Try.underlying9 o0 h0
  obtain ⟨A, c, q, rfl, hq, _⟩ := open_asks o1 h1
  clear o0 o1 h0 h1
  obtain ⟨l, rfl⟩ : ∃ l : List UInt8, s = ⟨l.toArray⟩ := ⟨s.data.toList, by simp⟩
  by_cases hlen : 1000 < l.length
  · have h3 : decide ((1000 : Int) < (l.length : Int)) = true := by simp; omega
    go_enter Try.func4, Try.ntmps4
    go_wp2_with fail
    refine wakes_any.mono ?_
    rintro e w' ⟨rfl, hb⟩
    go_wp2
    go_ret
    exact ⟨rfl, hb⟩
  by_cases hlen2 : 100 < q.length
  · go_enter Try.func4, Try.ntmps4
    go_wp2_with fail
    refine wakes_any.mono ?_
    rintro e w' ⟨rfl, hb⟩
    go_wp2
    go_ret
    exact ⟨rfl, hb⟩
  have HQ := Lib.hid hq
  clear hq
  go_enter Try.func4, Try.ntmps4
  go_wp2_with fail
  refine (of_any l).mono ?_
  rintro e w1 ⟨rfl, h1, hb1⟩
  have hb2' : W.heap.size ≤ w1.heap.size := hb1.size
  have hlt1 : W.heap.size < w1.heap.size := Blk.lt h1
  have HT0 := Lib.hid (show Two W.heap.size w1.heap.size (w1.alloc (.cells #[.string ⟨l.toArray⟩, .int .i64 0] 38)) l 0 from ⟨by omega, Blk.alloc h1 _, by simpa [rl] using Blk.new w1 38 #[.string ⟨l.toArray⟩, .int .i64 0]⟩)
  have HB0 := Lib.hid (hb1.alloc hb1.size (.cells #[.string ⟨l.toArray⟩, .int .i64 0] 38))
  clear h1 hb1
  go_wp2_with fail
  go_loopw [7] (fun i wr => ∃ (k : Nat) (l : List UInt8) (er : Int), k ≤ q.length ∧ i = .int .i64 k ∧ Two W.heap.size w1.heap.size wr l er ∧ Below W.heap.size W wr) (fun i _ => q.length - (intOf i).toNat)
  case atStart => exact ⟨0, l, 0, Nat.zero_le _, rfl, HT0.out, HB0.out⟩
  case round =>
    clear HT0 HB0
    obtain ⟨k, l, er, hk, rfl, ht, hb⟩ := hrel
    generalize hbb : w1.heap.size = b2 at *
    clear hbb
    have HT := Lib.hid ht
    clear ht
    by_cases hlt : k < q.length
    · obtain ⟨b, off, rfl, hbA, hel⟩ := HQ.out (by omega)
      obtain ⟨hd, hn, wd, wn⟩ := hel k hlt
      have hd' := (hb.cell (p := ⟨b, off + k * 2, none⟩) hbA).trans hd
      have hnw := Lib.hid hn
      have hn' := (hb.cell (p := ⟨b, off + k * 2 + 1, none⟩) hbA).trans hn
      clear hel hd hn
      generalize q[k].1 = d at *
      generalize q[k].2 = nn at *
      go_upto_block 2 with fail
      go_cut [8, 9, 10, 11] (fun n m t u wx => ∃ (x : Int) (y l : List UInt8) (er : Int), n = .int .u64 x ∧ m = .int .u64 x ∧ t = .string ⟨y.toArray⟩ ∧ u = .string ⟨y.toArray⟩ ∧ Two W.heap.size b2 wx l er ∧ Below W.heap.size W wx)
      case first =>
        have hbnd : 0 ≤ d ∧ d ≤ 255 := by
          simp [Lit.wf, IntKind.min, IntKind.max, IntKind.signed, IntKind.bits] at wd
          omega
        have hcase : d = 0 ∨ d = 1 ∨ d = 2 ∨ d = 3 ∨ d = 4 ∨ d = 5 ∨ d = 6 ∨ 6 < d := by omega
        rcases hcase with rfl | rfl | rfl | rfl | rfl | rfl | rfl | hd6
        · go_wp2_with fail
          refine (u8_any HT.out.rdr).mono ?_
          rintro e w2 ⟨rfl, hr2, hc2⟩
          have hh2 := HT.out.half hr2 hc2
          have hb2 := hb.trans (hc2.below hb.size (fun k hk e => by unfold only at e; omega))
          have c20 := hh2.c0
          have c21 := hh2.c1
          have HH2 := Lib.hid hh2
          have HB2 := Lib.hid hb2
          clear hr2 hc2 hh2 hb2
          go_wp2_with fail
          refine (refnum_any er 1 (by omega) (by omega)).mono ?_
          rw [rtV_eq 1, rtL_eq 1, rtE_eq 1]
          rintro e w3 ⟨rfl, hb3⟩
          clear c20 c21
          have hh3 := HH2.out.below hb3
          have hb3' := HB2.out.trans (hb3.mono HB2.out.size)
          have c30 := hh3.c0
          have c31 := hh3.c1
          have f30 := hh3.ref.frozen 0
          have f31 := hh3.ref.frozen 1
          have HH3 := Lib.hid hh3
          have HB3 := Lib.hid hb3'
          clear hh3 hb3 hb3'
          go_wp2_with fail
          go_meet
          exact ⟨(num (tkV 1 l er) : Int), [], _, _, congrArg (Value.int .u64) (num64 _ (Nat.le_trans (tkV_len _ _ _) (by omega))), rfl, rfl, rfl, HH3.out.two, (HB3.out.setCell (p := ⟨b2, 0, none⟩) hb2' _).setCell (p := ⟨b2, 1, none⟩) hb2' _⟩
        · go_wp2_with fail
          refine (u16_any HT.out.rdr).mono ?_
          rintro e w2 ⟨rfl, hr2, hc2⟩
          have hh2 := HT.out.half hr2 hc2
          have hb2 := hb.trans (hc2.below hb.size (fun k hk e => by unfold only at e; omega))
          have c20 := hh2.c0
          have c21 := hh2.c1
          have HH2 := Lib.hid hh2
          have HB2 := Lib.hid hb2
          clear hr2 hc2 hh2 hb2
          go_wp2_with fail
          refine (refnum_any er 2 (by omega) (by omega)).mono ?_
          rw [rtV_eq 2, rtL_eq 2, rtE_eq 2]
          rintro e w3 ⟨rfl, hb3⟩
          clear c20 c21
          have hh3 := HH2.out.below hb3
          have hb3' := HB2.out.trans (hb3.mono HB2.out.size)
          have c30 := hh3.c0
          have c31 := hh3.c1
          have f30 := hh3.ref.frozen 0
          have f31 := hh3.ref.frozen 1
          have HH3 := Lib.hid hh3
          have HB3 := Lib.hid hb3'
          clear hh3 hb3 hb3'
          go_wp2_with fail
          go_meet
          exact ⟨(num (tkV 2 l er) : Int), [], _, _, congrArg (Value.int .u64) (num64 _ (Nat.le_trans (tkV_len _ _ _) (by omega))), rfl, rfl, rfl, HH3.out.two, (HB3.out.setCell (p := ⟨b2, 0, none⟩) hb2' _).setCell (p := ⟨b2, 1, none⟩) hb2' _⟩
        · go_wp2_with fail
          refine (u32_any HT.out.rdr).mono ?_
          rintro e w2 ⟨rfl, hr2, hc2⟩
          have hh2 := HT.out.half hr2 hc2
          have hb2 := hb.trans (hc2.below hb.size (fun k hk e => by unfold only at e; omega))
          have c20 := hh2.c0
          have c21 := hh2.c1
          have HH2 := Lib.hid hh2
          have HB2 := Lib.hid hb2
          clear hr2 hc2 hh2 hb2
          go_wp2_with fail
          refine (refnum_any er 4 (by omega) (by omega)).mono ?_
          rw [rtV_eq 4, rtL_eq 4, rtE_eq 4]
          rintro e w3 ⟨rfl, hb3⟩
          clear c20 c21
          have hh3 := HH2.out.below hb3
          have hb3' := HB2.out.trans (hb3.mono HB2.out.size)
          have c30 := hh3.c0
          have c31 := hh3.c1
          have f30 := hh3.ref.frozen 0
          have f31 := hh3.ref.frozen 1
          have HH3 := Lib.hid hh3
          have HB3 := Lib.hid hb3'
          clear hh3 hb3 hb3'
          go_wp2_with fail
          go_meet
          exact ⟨(num (tkV 4 l er) : Int), [], _, _, congrArg (Value.int .u64) (num64 _ (Nat.le_trans (tkV_len _ _ _) (by omega))), rfl, rfl, rfl, HH3.out.two, (HB3.out.setCell (p := ⟨b2, 0, none⟩) hb2' _).setCell (p := ⟨b2, 1, none⟩) hb2' _⟩
        · go_wp2_with fail
          refine (u64_any HT.out.rdr).mono ?_
          rintro e w2 ⟨rfl, hr2, hc2⟩
          have hh2 := HT.out.half hr2 hc2
          have hb2 := hb.trans (hc2.below hb.size (fun k hk e => by unfold only at e; omega))
          have c20 := hh2.c0
          have c21 := hh2.c1
          have HH2 := Lib.hid hh2
          have HB2 := Lib.hid hb2
          clear hr2 hc2 hh2 hb2
          go_wp2_with fail
          refine (refnum_any er 8 (by omega) (by omega)).mono ?_
          rw [rtV_eq 8, rtL_eq 8, rtE_eq 8]
          rintro e w3 ⟨rfl, hb3⟩
          clear c20 c21
          have hh3 := HH2.out.below hb3
          have hb3' := HB2.out.trans (hb3.mono HB2.out.size)
          have c30 := hh3.c0
          have c31 := hh3.c1
          have f30 := hh3.ref.frozen 0
          have f31 := hh3.ref.frozen 1
          have HH3 := Lib.hid hh3
          have HB3 := Lib.hid hb3'
          clear hh3 hb3 hb3'
          go_wp2_with fail
          go_meet
          exact ⟨(num (tkV 8 l er) : Int), [], _, _, rfl, rfl, rfl, rfl, HH3.out.two, (HB3.out.setCell (p := ⟨b2, 0, none⟩) hb2' _).setCell (p := ⟨b2, 1, none⟩) hb2' _⟩
        · go_wp2_with fail
          refine (text_any nn HT.out.rdr).mono ?_
          rintro e w2 ⟨rfl, hr2, hc2⟩
          have hh2 := HT.out.half hr2 hc2
          have hb2 := hb.trans (hc2.below hb.size (fun k hk e => by unfold only at e; omega))
          have n2 := (hb2.cell (p := ⟨b, off + k * 2 + 1, none⟩) hbA).trans hnw.out
          have c20 := hh2.c0
          have c21 := hh2.c1
          have HH2 := Lib.hid hh2
          have HB2 := Lib.hid hb2
          clear hr2 hc2 hh2 hb2
          go_wp2_with fail
          go_region_with (go_at_call 21; refine (reftext_any er nn).mono ?_; rw [rtV_eq nn, rtL_eq nn, rtE_eq nn]; rintro e w3 ⟨rfl, hb3⟩; have hh3 := HH2.out.drew.below hb3; have c30 := hh3.c0; have c31 := hh3.c1; have f30 := hh3.ref.frozen 0; have f31 := hh3.ref.frozen 1)
          all_goals
            have hb3' := HB2.out.drew.trans (hb3.mono HB2.out.size)
            have HH3 := Lib.hid hh3
            have HB3 := Lib.hid hb3'
            clear hh3 hb3 hb3' c30 c31 f30 f31 c20 c21 n2
            go_wp2_with fail
            go_meet
            exact ⟨0, _, _, _, rfl, rfl, rfl, rfl, HH3.out.two, (HB3.out.setCell (p := ⟨b2, 0, none⟩) hb2' _).setCell (p := ⟨b2, 1, none⟩) hb2' _⟩
        · go_wp2_with fail
          refine (rest_any HT.out.rdr).mono ?_
          rintro e w2 ⟨rfl, hr2, hc2⟩
          have hh2 := HT.out.half hr2 hc2
          have hb2 := hb.trans (hc2.below hb.size (fun k hk e => by unfold only at e; omega))
          have c20 := hh2.c0
          have c21 := hh2.c1
          have HH2 := Lib.hid hh2
          have HB2 := Lib.hid hb2
          clear hr2 hc2 hh2 hb2
          go_wp2_with fail
          refine (reftext_any er _).mono ?_
          obtain ⟨q1, q2, q3⟩ := rest_eq l er
          rw [rtV_eq, rtL_eq, rtE_eq, Int.toNat_natCast, q1, q2, q3]
          clear q1 q2 q3
          rintro e w3 ⟨rfl, hb3⟩
          clear c20 c21
          have hh3 := HH2.out.below hb3
          have hb3' := HB2.out.trans (hb3.mono HB2.out.size)
          have c30 := hh3.c0
          have c31 := hh3.c1
          have f30 := hh3.ref.frozen 0
          have f31 := hh3.ref.frozen 1
          have HH3 := Lib.hid hh3
          have HB3 := Lib.hid hb3'
          clear hh3 hb3 hb3'
          go_wp2_with fail
          go_meet
          exact ⟨0, _, _, _, rfl, rfl, rfl, rfl, HH3.out.two, (HB3.out.setCell (p := ⟨b2, 0, none⟩) hb2' _).setCell (p := ⟨b2, 1, none⟩) hb2' _⟩
        · go_wp2_with fail
          refine (bad_any HT.out.rdr).mono ?_
          rintro e w2 ⟨rfl, hr2, hc2⟩
          have hh2 := HT.out.half hr2 hc2
          have hb2 := hb.trans (hc2.below hb.size (fun k hk e => by unfold only at e; omega))
          have c20 := hh2.c0
          have c21 := hh2.c1
          have HH2 := Lib.hid hh2
          have HB2 := Lib.hid hb2
          clear hr2 hc2 hh2 hb2
          go_wp2_with fail
          refine (refbad_any er).mono ?_
          rw [bad_eq]
          rintro e w3 ⟨rfl, hb3⟩
          clear c20 c21
          have hh3 := HH2.out.below hb3
          have hb3' := HB2.out.trans (hb3.mono HB2.out.size)
          have c30 := hh3.c0
          have c31 := hh3.c1
          have f30 := hh3.ref.frozen 0
          have f31 := hh3.ref.frozen 1
          have HH3 := Lib.hid hh3
          have HB3 := Lib.hid hb3'
          clear hh3 hb3 hb3'
          go_wp2_with fail
          go_meet
          exact ⟨0, [], _, _, rfl, rfl, rfl, rfl, HH3.out.two, (HB3.out.setCell (p := ⟨b2, 0, none⟩) hb2' _).setCell (p := ⟨b2, 1, none⟩) hb2' _⟩
        · have z0 : (d == 0) = false := by simp; omega
          have z1 : (d == 1) = false := by simp; omega
          have z2 : (d == 2) = false := by simp; omega
          have z3 : (d == 3) = false := by simp; omega
          have z4 : (d == 4) = false := by simp; omega
          have z5 : (d == 5) = false := by simp; omega
          have z6 : (d == 6) = false := by simp; omega
          go_wp2_with fail
          refine (end_any HT.out.rdr).mono ?_
          rintro e w2 ⟨rfl, hr2, hc2⟩
          have hh2 := HT.out.half hr2 hc2
          have hb2 := hb.trans (hc2.below hb.size (fun k hk e => by unfold only at e; omega))
          have c20 := hh2.c0
          have c21 := hh2.c1
          have HH2 := Lib.hid hh2
          have HB2 := Lib.hid hb2
          clear hr2 hc2 hh2 hb2
          go_wp2_with fail
          refine (refend_any er).mono ?_
          obtain ⟨q1, q2⟩ := end_eq l er
          rw [q1, q2]
          clear q1 q2
          rintro e w3 ⟨rfl, hb3⟩
          clear c20 c21
          have hh3 := HH2.out.below hb3
          have hb3' := HB2.out.trans (hb3.mono HB2.out.size)
          have c30 := hh3.c0
          have c31 := hh3.c1
          have f30 := hh3.ref.frozen 0
          have f31 := hh3.ref.frozen 1
          have HH3 := Lib.hid hh3
          have HB3 := Lib.hid hb3'
          clear hh3 hb3 hb3'
          go_wp2_with fail
          go_meet
          exact ⟨0, [], _, _, rfl, rfl, rfl, rfl, HH3.out.two, (HB3.out.setCell (p := ⟨b2, 0, none⟩) hb2' _).setCell (p := ⟨b2, 1, none⟩) hb2' _⟩
      obtain ⟨x, y, l, er, rfl, rfl, rfl, rfl, ht, hbc⟩ := hcut
      have hr := ht.rdr
      have c0 : wc.cell? ⟨b2, 0, none⟩ = some (.string ⟨(rl l er).toArray⟩) := ht.ref.cell 0
      have c1 : wc.cell? ⟨b2, 1, none⟩ = some (.int .i64 er) := ht.ref.cell 1
      have HT2 := Lib.hid ht
      have HB2 := Lib.hid hbc
      have HR2 := Lib.hid hr
      clear ht hbc hr HT hb hd' hn' hnw wd wn hbA
      go_wp2_with fail
      go_quiet ((first | (go_at_call 27; exact qleft (err_any (Blk.drewN HR2.out _))) | (go_at_call 28; exact qleft (left_rl (Blk.drewN HR2.out _)))))
      clear c0 c1
      go_wp2_with fail
      go_roundw
      case rel => exact ⟨k + 1, _, _, by omega, by go_num, HT2.out.drewN _, below_drewN HB2.out _⟩
      case measure => simp [intOf]; omega
    · go_wp2_with fail
      refine wakes_any.mono ?_
      rintro e w' ⟨rfl, hbw⟩
      go_wp2
      go_ret
      exact ⟨rfl, hb.trans (hbw.mono hb.size)⟩

theorem own : ownKnob Try.prog.godebug = none := by kernel_rfl
theorem laidOut : laidOutB Try.prog = true := by kernel_rfl
set_option maxRecDepth 100000 in
theorem lifted (os : Os) (started : os.Started) (H : Type) (enc : TypeId × Value → H) :
    ReturnsInHanded {} Try.checked os 4 .any (Rows.wireReadsSpec.pre6 enc Try.prog Try.f4 Rows.wireReadsRow.domain false) (Rows.wireReadsSpec.post enc Try.prog Try.f4 false true false false) := by
  refine returnsInHanded_of_change (C := Try.checked) own started (by kernel_rfl) Try.func4
    (ChangeSpec.witness6 (enc := enc) (C := Try.checked) false ⟨#[], #[.string ByteArray.empty, .slice none 0 0], []⟩ 8 (by kernel_rfl) (by kernel_rfl) (by kernel_rfl) (by kernel_rfl)) ?_
  intro W base args ds gs before hval0 hW hcnd _
  have hval : ∀ (j : Nat) t v, Try.f4.params[j]? = some t → args[j]? = some v → Value.okWide Try.prog W .any base t v := hval0
  have hW' := hW
  obtain ⟨p, q, hA0, hV, rfl, hfz, hnd⟩ := hW
  have hA : DataW.TrodAll enc Try.prog W 0 (fun _ => true) true Try.f4.params.toList args.toList ds p := hA0
  rw [Try.params4] at hA hval
  obtain ⟨v0, vs0, d0, ds0, p0, q0, hargs, rfl, rfl, h0, r0⟩ := trodAll_cons hA
  obtain ⟨v1, vs1, d1, ds1, p1, q1, rfl, rfl, rfl, h1, r1⟩ := trodAll_cons r0
  obtain ⟨rfl, rfl, rfl⟩ := trodAll_nil r1
  obtain rfl : args = #[v0, v1] := by cases args; simp_all
  obtain ⟨rfl, rfl⟩ := trodVars_none hV
  have o0 := hval 0 9 v0 rfl rfl
  have lt0 : ∀ x ∈ p0, x.block < W.heap.size := by obtain ⟨m, hm⟩ := h0; exact DataW.trod_lt m _ _ _ hm
  have o1 := hval 1 33 v1 rfl rfl
  have lt1 : ∀ x ∈ p1, x.block < W.heap.size := by obtain ⟨m, hm⟩ := h1; exact DataW.trod_lt m _ _ _ hm
  clear hA0 hval0
  refine (walk W base o0 h0 o1 h1).mono fun e W' ⟨he, bel⟩ => ?_
  subst he
  exact ⟨_, rfl, _, _, _, [], _, [], hW', trodAll_mk1 (shut_bool Try.underlying4 _), (trodAll_cons_mk (Below.trod laidOut (by kernel_rfl) (of_decide_eq_true (by kernel_rfl)) h0 bel lt0) (trodAll_cons_mk (Below.trod laidOut (by kernel_rfl) (of_decide_eq_true (by kernel_rfl)) h1 bel lt1) trodAll_mk0)), rfl, bel.frame _, fun h => by cases h⟩

theorem over : Rows.wireReadsRow.holds Try.pinned (OpenSpec.ofChange Rows.wireReadsSpec) :=
  OpenClaim.holds_of_wide 4 Try.f4 rfl rfl rfl rfl rfl rfl rfl ⟨rfl, rfl, rfl, rfl, rfl⟩ rfl rfl rfl rfl rfl (by kernel_rfl) Try.func4 (by kernel_rfl)
    (of_decide_eq_true (by kernel_rfl)) (by unfold Func.isWrapper; first | (rw [if_pos (by decide +kernel)]; kernel_rfl) | (rw [if_neg (by decide +kernel)]; exact ⟨rfl, rfl⟩))
    (fun os started H enc _ => lifted os started H enc)

/-- THE STATEMENT -/
theorem proved : Rows.WireReadsSaid := over
end Go.Proofs.Ytjcgnclhickfgaa.wireReads
