/- Package bpdu: readFlags, readVector, read. -/
import Derived.Test.YtbkfbaloolbkdaaDoorBpImpl
namespace Go.Proofs.YtbkfbaloolbkdaaDoor
open Go.RowKit
set_option linter.unusedVariables false
set_option linter.unusedSimpArgs false
set_option maxRecDepth 100000

theorem tkb_ok {n : Nat} {l : List UInt8} (h : n ≤ l.length) : tkV n l 0 = l.take n ∧ tkL n l 0 = l.drop n ∧ tkE n l 0 = 0 :=
  ⟨by simp [tkV, h], by simp [tkL, h], by simp [tkE]; omega⟩
theorem tkb_bad {n : Nat} {l : List UInt8} {er : Int} (h : er ≠ 0) : tkV n l er = [] ∧ tkL n l er = l ∧ tkE n l er = er :=
  ⟨by simp [tkV, h], by simp [tkL, h], by simp [tkE, h]⟩
theorem tk_at (l : List UInt8) (i n : Nat) (h : i + n ≤ l.length) : tkV n (l.drop i) 0 = seg l i n ∧ tkL n (l.drop i) 0 = l.drop (i + n) ∧ tkE n (l.drop i) 0 = 0 := by
  obtain ⟨a, b, c⟩ := tkb_ok (n := n) (l := l.drop i) (by simp; omega)
  exact ⟨a, by rw [b, List.drop_drop], c⟩
/-- the error behind the flags -/
def flE (k : Nat) (e : Int) : Int := if 8 ≤ k then bdE e else e
def rvX (l : List UInt8) (e : Int) : Ve :=
  ⟨num (tkV 8 l e), num (tkV 4 (tkL 8 l e) (tkE 8 l e)), num (tkV 8 (tkL 4 (tkL 8 l e) (tkE 8 l e)) (tkE 4 (tkL 8 l e) (tkE 8 l e))),
   num (tkV 1 (tkL 8 (tkL 4 (tkL 8 l e) (tkE 8 l e)) (tkE 4 (tkL 8 l e) (tkE 8 l e))) (tkE 8 (tkL 4 (tkL 8 l e) (tkE 8 l e)) (tkE 4 (tkL 8 l e) (tkE 8 l e))))⟩
def rvL (l : List UInt8) (e : Int) : List UInt8 := tkL 1 (tkL 8 (tkL 4 (tkL 8 l e) (tkE 8 l e)) (tkE 4 (tkL 8 l e) (tkE 8 l e))) (tkE 8 (tkL 4 (tkL 8 l e) (tkE 8 l e)) (tkE 4 (tkL 8 l e) (tkE 8 l e)))
def rvE (l : List UInt8) (e : Int) : Int := tkE 1 (tkL 8 (tkL 4 (tkL 8 l e) (tkE 8 l e)) (tkE 4 (tkL 8 l e) (tkE 8 l e))) (tkE 8 (tkL 4 (tkL 8 l e) (tkE 8 l e)) (tkE 4 (tkL 8 l e) (tkE 8 l e)))
theorem rv_bad (l : List UInt8) {e : Int} (h : e ≠ 0) : rvE l e = e := by
  have k := fun n l => tkb_bad (n := n) (l := l) h
  unfold rvE
  simp only [(k _ _).2.1, (k _ _).2.2]
theorem rv_at (l : List UInt8) (i : Nat) (h : i + 21 ≤ l.length) : rvX (l.drop i) 0 = ⟨num (seg l i 8), num (seg l (i + 8) 4), num (seg l (i + 12) 8), num (seg l (i + 20) 1)⟩ ∧ rvL (l.drop i) 0 = l.drop (i + 21) ∧ rvE (l.drop i) 0 = 0 := by
  obtain ⟨a1, b1, c1⟩ := tk_at l i 8 (by omega)
  obtain ⟨a2, b2, c2⟩ := tk_at l (i + 8) 4 (by omega)
  obtain ⟨a3, b3, c3⟩ := tk_at l (i + 8 + 4) 8 (by omega)
  obtain ⟨a4, b4, c4⟩ := tk_at l (i + 8 + 4 + 8) 1 (by omega)
  refine ⟨?_, ?_, ?_⟩
  · unfold rvX; rw [a1, b1, c1, a2, b2, c2, a3, b3, c3, a4]
  · unfold rvL; rw [b1, c1, b2, c2, b3, c3, b4]
  · unfold rvE; rw [b1, c1, b2, c2, b3, c3, c4]
/-- what read comes to -/
theorem rb_fin {l l1 l2 l3 l4 l5 l6 l7 : List UInt8} {e1 e2 e3 e4 e5 e6 e7 : Int} {k : Nat} {v : Ve} (hl : 42 ≤ l.length) (h1 : tkL 2 l 0 = l1)
    (g1 : (num (tkV 2 l 0) = 17229 ∧ tkE 2 l 0 = e1) ∨ (num (tkV 2 l 0) ≠ 17229 ∧ bdE (tkE 2 l 0) = e1)) (h2 : tkL 1 l1 e1 = l2) (g2 : tkE 1 l1 e1 = e2)
    (hk : num (tkV 1 l2 e2) = k) (h3 : tkL 1 l2 e2 = l3) (g3 : flE k (tkE 1 l2 e2) = e3) (hv : rvX l3 e3 = v) (h4 : rvL l3 e3 = l4) (g4 : rvE l3 e3 = e4) (h5 : tkL 1 l4 e4 = l5) (g5 : tkE 1 l4 e4 = e5)
    (h6 : tkL 8 l5 e5 = l6) (g6 : tkE 8 l5 e5 = e6) (h7 : tkL 8 l6 e6 = l7) (g7 : tkE 8 l6 e6 = e7) :
    (bhead l = true → (⟨v, num (tkV 1 l4 e4), num (tkV 8 l5 e5), num (tkV 1 l1 e1), k % 2 == 1, k / 2 % 2 == 1, k / 4 % 2 == 1, num (tkV 8 l6 e6)⟩ : Bp) = bof l ∧ l7 = l.drop 42 ∧ e7 = 0) ∧ (bhead l = false → e7 = 4) := by
  have kb := fun n l => tkb_bad (n := n) (l := l) (show (4 : Int) ≠ 0 by decide)
  obtain ⟨a1, b1, c1⟩ := tk_at l 0 2 (by omega)
  rw [List.drop_zero] at a1 b1 c1
  rw [a1, c1] at g1
  rw [b1] at h1
  rcases g1 with ⟨hm, rfl⟩ | ⟨hm, rfl⟩
  · subst h1
    obtain ⟨a2, b2, c2⟩ := tk_at l (0 + 2) 1 (by omega)
    rw [b2] at h2
    rw [c2] at g2
    subst h2 g2
    obtain ⟨a3, b3, c3⟩ := tk_at l (0 + 2 + 1) 1 (by omega)
    rw [a3] at hk
    rw [b3] at h3
    rw [c3] at g3
    subst h3
    by_cases h8 : 8 ≤ k
    · have he3 : e3 = 4 := by rw [← g3, flE, if_pos h8]; rfl
      subst he3
      rw [rv_bad _ (by decide)] at g4
      subst g4
      rw [(kb _ _).2.2] at g5
      subst g5
      rw [(kb _ _).2.2] at g6
      subst g6
      rw [(kb _ _).2.2] at g7
      have hb : bhead l = false := by
        unfold bhead
        rw [show num (seg l 3 1) = k from hk]
        simp
        omega
      exact ⟨fun h => (by rw [hb] at h; cases h), fun _ => g7.symm⟩
    · have he3 : e3 = 0 := by rw [← g3, flE, if_neg h8]
      subst he3
      obtain ⟨a4, b4, c4⟩ := rv_at l (0 + 2 + 1 + 1) (by omega)
      rw [a4] at hv
      rw [b4] at h4
      rw [c4] at g4
      subst hv h4 g4
      obtain ⟨a5, b5, c5⟩ := tk_at l (0 + 2 + 1 + 1 + 21) 1 (by omega)
      rw [b5] at h5
      rw [c5] at g5
      subst h5 g5
      obtain ⟨a6, b6, c6⟩ := tk_at l (0 + 2 + 1 + 1 + 21 + 1) 8 (by omega)
      rw [b6] at h6
      rw [c6] at g6
      subst h6 g6
      obtain ⟨a7, b7, c7⟩ := tk_at l (0 + 2 + 1 + 1 + 21 + 1 + 8) 8 (by omega)
      rw [b7] at h7
      rw [c7] at g7
      subst h7 g7
      have hb : bhead l = true := by
        unfold bhead
        rw [show num (seg l 3 1) = k from hk, show num (seg l 0 2) = 17229 from hm]
        simp
        omega
      refine ⟨fun _ => ⟨?_, rfl, rfl⟩, fun h => by rw [hb] at h; cases h⟩
      rw [a5, a6, a2, a7, ← hk]
      rfl
  · rw [show tkE 1 l1 (bdE 0) = 4 from (kb _ _).2.2] at g2
    subst g2
    rw [(kb _ _).2.2] at g3
    have he3 : e3 = 4 := by rw [← g3, flE]; split <;> rfl
    subst he3
    rw [rv_bad _ (by decide)] at g4
    subst g4
    rw [(kb _ _).2.2] at g5
    subst g5
    rw [(kb _ _).2.2] at g6
    subst g6
    rw [(kb _ _).2.2] at g7
    have hb : bhead l = false := by
      unfold bhead
      simp
      intro h
      exact absurd h hm
    exact ⟨fun h => (by rw [hb] at h; cases h), fun _ => g7.symm⟩

theorem and_flags : ∀ k : Fin 256, (bits BinOp.and IntKind.u8 ((k.val : Nat) : Int) 1 != 0) = (k.val % 2 == 1) ∧ (bits BinOp.and IntKind.u8 ((k.val : Nat) : Int) 2 != 0) = (k.val / 2 % 2 == 1) ∧ (bits BinOp.and IntKind.u8 ((k.val : Nat) : Int) 4 != 0) = (k.val / 4 % 2 == 1) := by decide +kernel
theorem hasflag_any {w : World} {g : Nat} {t : TypeId} {a : Int} (f : Int) (h : Blk w g t #[.int .u8 a]) :
    Calls Tryd.prog 53 #[.int .u8 f, .pointer (some ⟨g, 0, none⟩)] w fun r w' => r = .returned (.bool (bits BinOp.and IntKind.u8 a f != 0)) ∧ w = w' := by
  have c0 := h.cell 0
  go_enter Tryd.func53, Tryd.ntmps53
  go_wp2
  go_ret
  exact ⟨rfl, rfl⟩
set_option maxHeartbeats 1000000 in
theorem readflags_any {W : World} {b : Nat} {l : List UInt8} {er : Int} (h : Rdr W b l er) :
    Calls Tryd.prog 35 #[.pointer (some ⟨b, 0, none⟩)] W fun r w' => r = .returned (.tuple #[.bool (num (tkV 1 l er) % 2 == 1), .bool (num (tkV 1 l er) / 2 % 2 == 1), .bool (num (tkV 1 l er) / 4 % 2 == 1)]) ∧
      Rdr w' b (tkL 1 l er) (flE (num (tkV 1 l er)) (tkE 1 l er)) ∧ Chg (only b) W w' := by
  have hmf : ∀ (fn : Fn) (first cap : Array Value) (w : World), (Instr.makeFunc fn first cap).run Tryd.prog w = .ok (.func fn first cap) w := fun _ _ _ _ => rfl
  have hk : num (tkV 1 l er) < 256 := Nat.lt_of_lt_of_le (num_lt _) (Nat.le_trans (Nat.pow_le_pow_right (by omega) (tkV_len 1 l er)) (by decide))
  have HB := Lib.hid h.lt
  have H0 := Lib.hid h
  clear h
  go_enter Tryd.func35, Tryd.ntmps35
  go_wp2_with fail
  refine (u8_any H0.out).mono ?_
  obtain ⟨k, hkk⟩ : ∃ k, num (tkV 1 l er) = k := ⟨_, rfl⟩
  obtain ⟨l1, h1⟩ : ∃ l1, tkL 1 l er = l1 := ⟨_, rfl⟩
  obtain ⟨e1, h2⟩ : ∃ e1, tkE 1 l er = e1 := ⟨_, rfl⟩
  rw [hkk, h1, h2]
  rw [hkk] at hk
  have E0 := Lib.hid hkk
  have E1 := Lib.hid h1
  have E2 := Lib.hid h2
  clear hkk h1 h2
  rintro r w1 ⟨rfl, hr1, hc1⟩
  have HC1 := Lib.hid hc1
  obtain ⟨q1, q2, q3⟩ := and_flags ⟨k, hk⟩
  dsimp only at q1 q2 q3
  have Q1 := Lib.hid q1
  have Q2 := Lib.hid q2
  have Q3 := Lib.hid q3
  obtain ⟨g, hg⟩ : ∃ g, w1.heap.size = g := ⟨_, rfl⟩
  obtain ⟨w2, hw2⟩ : ∃ w2, (w1.alloc (.cells #[.int .u8 0] 5)).setCell ⟨w1.heap.size, 0, none⟩ (.int .u8 k) = w2 := ⟨_, rfl⟩
  obtain ⟨w2', hw2'⟩ : ∃ w2, w1.alloc (.cells #[.int .u8 k] 5) = w2 := ⟨_, rfl⟩
  have HG2 : Hid (Blk w2' g 5 #[.int .u8 k]) := Lib.hid (by rw [← hw2', ← hg]; exact Blk.new _ _ _)
  have HR2 : Hid (Rdr w2' b l1 e1) := Lib.hid (by rw [← hw2']; exact Blk.alloc hr1 _)
  have HC2 : Hid (Chg (only b) W w2') := Lib.hid (by rw [← hw2']; exact HC1.out.alloc _)
  have HGB : Hid (b < g) := Lib.hid (by rw [← hg]; exact hr1.lt)
  clear hr1 hc1 hw2 w2 HC1 H0 q1 q2 q3
  have cg := HG2.out.cell 0
  by_cases h8 : 8 ≤ k
  · have hd : decide ((8 : Int) ≤ (k : Int)) = true := by simp; omega
    have hf : flE k e1 = bdE e1 := by unfold flE; rw [if_pos h8]
    have HF := Lib.hid hf
    clear h8 hf
    go_wp2_with fail
    refine (bad_any HR2.out).mono ?_
    rintro r w3 ⟨rfl, hr3, hc3⟩
    have HR3 := Lib.hid hr3
    have HG3 : Hid (Blk w3 g 5 #[.int .u8 k]) := Lib.hid (Blk.chg HG2.out hc3 (by unfold only; have := HGB.out; omega))
    have HC3 := Lib.hid (HC2.out.trans (hc3.mono (fun _ _ h => h)))
    clear hr3 hc3 cg hd HR2 HG2 HC2
    go_wp2_with fail
    refine (hasflag_any 1 HG3.out).mono ?_
    rw [Q1.out]
    rintro r w4 ⟨rfl, rfl⟩
    go_wp2_with fail
    refine (hasflag_any 2 HG3.out).mono ?_
    rw [Q2.out]
    rintro r w5 ⟨rfl, rfl⟩
    go_wp2_with fail
    refine (hasflag_any 4 HG3.out).mono ?_
    rw [Q3.out]
    rintro r w6 ⟨rfl, rfl⟩
    go_wp2
    exact bodyPost_ret (v := .tuple #[.bool (k % 2 == 1), .bool (k / 2 % 2 == 1), .bool (k / 4 % 2 == 1)]) (by simp [results, Tryd.results35, go_sem]) rfl ⟨by rw [E0.out], by rw [E0.out, E1.out, E2.out, HF.out]; exact HR3.out, HC3.out⟩
  · have hd : decide ((8 : Int) ≤ (k : Int)) = false := by simp; omega
    have hf : flE k e1 = e1 := by unfold flE; rw [if_neg h8]
    have HF := Lib.hid hf
    clear h8 hf
    have HR3 := HR2
    have HG3 := HG2
    have HC3 := HC2
    go_wp2_with fail
    refine (hasflag_any 1 HG3.out).mono ?_
    rw [Q1.out]
    rintro r w4 ⟨rfl, rfl⟩
    go_wp2_with fail
    refine (hasflag_any 2 HG3.out).mono ?_
    rw [Q2.out]
    rintro r w5 ⟨rfl, rfl⟩
    go_wp2_with fail
    refine (hasflag_any 4 HG3.out).mono ?_
    rw [Q3.out]
    rintro r w6 ⟨rfl, rfl⟩
    go_wp2
    exact bodyPost_ret (v := .tuple #[.bool (k % 2 == 1), .bool (k / 2 % 2 == 1), .bool (k / 4 % 2 == 1)]) (by simp [results, Tryd.results35, go_sem]) rfl ⟨by rw [E0.out], by rw [E0.out, E1.out, E2.out, HF.out]; exact HR3.out, HC3.out⟩
end Go.Proofs.YtbkfbaloolbkdaaDoor
