/- package maid's read: its closure, and what it reads of names' bytes. -/
import Derived.Test.YtmhhhcphdnnopaaMd
import Derived.Test.YtmhhhcphdnnopaaNext
import Derived.Deep.RegionLaw
import Derived.Deep.DeepCutAuto
namespace Go.Proofs.Ytmhhhcphdnnopaa
open Go.RowKit
set_option linter.unusedVariables false
set_option linter.unusedSimpArgs false
set_option maxRecDepth 100000

/-- a number, and what is left; a text behind its length -/
def rdU (s : List UInt8 × Int) : Nat × (List UInt8 × Int) := (num (tkV 1 s.1 s.2), (tkL 1 s.1 s.2, tkE 1 s.1 s.2))
def rdT (n : Nat) (s : List UInt8 × Int) : List UInt8 × (List UInt8 × Int) := (tkV n s.1 s.2, (tkL n s.1 s.2, tkE n s.1 s.2))
def rdN (s : List UInt8 × Int) : List UInt8 × (List UInt8 × Int) := rdT (rdU s).1 (rdU s).2
def rdA (l : List UInt8) : List UInt8 := if (rdU (l, 0)).1 = 4 then (rdN (rdU (l, 0)).2).1 else []
def rdB (l : List UInt8) : List UInt8 := if (rdU (l, 0)).1 = 4 then (rdN (rdU (rdN (rdU (l, 0)).2).2).2).1 else (rdN (rdU (rdU (l, 0)).2).2).1

theorem rdU_cons (x : UInt8) (r : List UInt8) : rdU (x :: r, 0) = (x.toNat, (r, 0)) := by
  simp [rdU, tkV, tkL, tkE, num]
theorem rdT_cut (n : Nat) (l : List UInt8) (h : n ≤ l.length) : rdT n (l, 0) = (l.take n, (l.drop n, 0)) := by
  simp [rdT, tkV, tkL, tkE, h]
theorem rdN_put (b r : List UInt8) (h : b.length < 256) : rdN (UInt8.ofNat b.length :: b ++ r, 0) = (b, (r, 0)) := by
  unfold rdN
  rw [List.cons_append, rdU_cons]
  simp only []
  rw [ofNat_toNat_small _ h, rdT_cut _ _ (by simp)]
  simp
theorem rdU_le (s : List UInt8 × Int) : (rdU s).1 ≤ 255 := by
  unfold rdU
  have h := num_lt (tkV 1 s.1 s.2)
  have h1 := tkV_len 1 s.1 s.2
  have h2 : 256 ^ (tkV 1 s.1 s.2).length ≤ 256 ^ 1 := Nat.pow_le_pow_right (by omega) h1
  simp only [Nat.pow_one] at h2
  simp only []
  omega
theorem rdT_len (n : Nat) (s : List UInt8 × Int) : (rdT n s).1.length ≤ n := tkV_len _ _ _
theorem rdN_len (s : List UInt8 × Int) : (rdN s).1.length ≤ 255 := Nat.le_trans (rdT_len _ _) (rdU_le _)
theorem rdA_len (l : List UInt8) : (rdA l).length ≤ 255 := by
  unfold rdA
  split
  · exact rdN_len _
  · simp
theorem rdB_len (l : List UInt8) : (rdB l).length ≤ 255 := by
  unfold rdB
  split <;> exact rdN_len _
theorem rd_put {a b : List UInt8} (h : mdE a b = 0) : rdA (mdV a b) = a ∧ rdB (mdV a b) = b := by
  obtain ⟨h1, h2, h3⟩ := mdE0 h
  unfold mdV mdW
  rw [if_pos h]
  generalize 48 - (mdB a b).length = k
  unfold mdB mdH
  by_cases ha : a = []
  · subst ha
    simp only [if_true, List.cons_append, List.nil_append]
    unfold rdA rdB
    rw [rdU_cons]
    simp only []
    rw [if_neg (by decide), if_neg (by decide)]
    rw [rdU_cons]
    simp only []
    have := rdN_put b (List.replicate k 0) (by simp at h3; omega)
    simp only [List.cons_append] at this
    rw [this]
    exact ⟨trivial, rfl⟩
  · rw [if_neg ha]
    simp only [List.cons_append]
    unfold rdA rdB
    rw [rdU_cons]
    simp only []
    rw [if_pos (by decide), if_pos (by decide)]
    have e1 := rdN_put a ((2 :: UInt8.ofNat b.length :: b) ++ List.replicate k 0) (by omega)
    simp only [List.cons_append, List.append_assoc] at e1 ⊢
    rw [e1]
    simp only []
    rw [rdU_cons]
    simp only []
    have e2 := rdN_put b (List.replicate k 0) (by omega)
    simp only [List.cons_append] at e2
    rw [e2]
    exact ⟨trivial, rfl⟩
/-- the names of bytes, or none, by what read answers -/
def ptA (s : List UInt8) : List UInt8 := if mdE (rdA s) (rdB s) = 0 ∧ mdV (rdA s) (rdB s) = s then rdA s else []
def ptB (s : List UInt8) : List UInt8 := if mdE (rdA s) (rdB s) = 0 ∧ mdV (rdA s) (rdB s) = s then rdB s else []
def ptE (s : List UInt8) : Int := if mdE (rdA s) (rdB s) = 0 ∧ mdV (rdA s) (rdB s) = s then 0 else 4
theorem pt_is (s : List UInt8) : Tk s (ptA s) (ptB s) (ptE s) := by
  unfold ptA ptB ptE
  by_cases h : mdE (rdA s) (rdB s) = 0 ∧ mdV (rdA s) (rdB s) = s
  · simp only [h, and_self, if_true]
    exact .inl ⟨rfl, h.1, h.2⟩
  · rw [if_neg h, if_neg h, if_neg h]
    refine .inr ⟨rfl, rfl, rfl, fun c d hc e => h ?_⟩
    obtain ⟨e1, e2⟩ := rd_put hc
    rw [e] at e1 e2
    rw [e1, e2]
    exact ⟨hc, e⟩

theorem u8m_any {w : World} {b : Nat} {s : List UInt8 × Int} (h : Rdr w b s.1 s.2) :
    Calls Try.prog 29 #[.pointer (some ⟨b, 0, none⟩)] w fun e w' => e = .returned (.int .u8 ((rdU s).1 : Nat)) ∧ Rdr w' b (rdU s).2.1 (rdU s).2.2 ∧ Chg (only b) w w' := u8_any h
theorem textm_any {w : World} {b : Nat} {s : List UInt8 × Int} (n : Nat) (h : Rdr w b s.1 s.2) :
    Calls Try.prog 31 #[.pointer (some ⟨b, 0, none⟩), .int .i64 (n : Int)] w fun e w' => e = .returned (.string ⟨(rdT n s).1.toArray⟩) ∧ Rdr w' b (rdT n s).2.1 (rdT n s).2.2 ∧ Chg (only b) w w' := by
  have := text_any (n : Int) h
  rw [show ((n : Int)).toNat = n by omega] at this
  exact this
set_option maxHeartbeats 1000000 in
theorem name_any {w : World} {q b : Nat} {s : List UInt8 × Int} (hq : q ≠ b) (hp : w.cell? ⟨q, 0, none⟩ = some (.pointer (some ⟨b, 0, none⟩))) (h : Rdr w b s.1 s.2) :
    Calls Try.prog 65 #[.pointer (some ⟨q, 0, none⟩)] w fun e w' => e = .returned (.string ⟨(rdN s).1.toArray⟩) ∧ Rdr w' b (rdN s).2.1 (rdN s).2.2 ∧ Chg (only b) w w' := by
  have hql := World.block_lt_of_cell? w _ hp
  obtain ⟨n, hn⟩ : ∃ n, (rdU s).1 = n := ⟨_, rfl⟩
  have hn255 : n ≤ 255 := by rw [← hn]; exact rdU_le s
  have KU := Lib.hid (fun w => @u8m_any w b s)
  obtain ⟨s1, hs1⟩ : ∃ s1, (rdU s).2 = s1 := ⟨_, rfl⟩
  have hN : rdN s = rdT n s1 := by unfold rdN; rw [hn, hs1]
  rw [hn, hs1] at KU
  have KT := Lib.hid (fun w => @textm_any w b s1 n)
  rw [hN]
  have hwr : IntKind.i64.wrap (n : Int) = (n : Int) := by simp [IntKind.wrap, IntKind.signed, IntKind.bits]; omega
  have hpd : w.drew.cell? ⟨q, 0, none⟩ = some (.pointer (some ⟨b, 0, none⟩)) := hp
  have HP := Lib.hid hpd
  have HR : Hid (Rdr w.drew b s.1 s.2) := Lib.hid h
  have HC : Hid (Chg (only b) w w.drew) := Lib.hid (Chg.refl _ _).drew
  have HQ := Lib.hid hq
  have HQL : Hid (q < w.drew.heap.size) := Lib.hid hql
  clear hn hs1 hN hp h hq hql
  go_enter Try.func65, Try.ntmps65
  go_wp2_with fail
  go_region_law (first
    | (go_simp; go_at_call 29; refine (KU.out _ HR.out).mono ?_; rintro r w1 ⟨rfl, hr1, hc1⟩; have hp1 := (Chg.cell hc1 (p := ⟨q, 0, none⟩) HQL.out HQ.out).trans HP.out; have HR1 := Lib.hid hr1; have HC1 := Lib.hid (HC.out.trans (hc1.mono (fun k _ hk => hk))); clear hr1 hc1)
    | (go_simp; go_at_call 31; refine (KT.out _ HR1.out).mono ?_; rintro r w2 ⟨rfl, hr2, hc2⟩; have HR2 := Lib.hid hr2; have HC2 := Lib.hid (HC1.out.trans (hc2.mono (fun k _ hk => hk))); clear hr2 hc2))
  all_goals (
    go_wp2
    go_ret
    exact ⟨rfl, HR2.out, HC2.out⟩)
end Go.Proofs.Ytmhhhcphdnnopaa
