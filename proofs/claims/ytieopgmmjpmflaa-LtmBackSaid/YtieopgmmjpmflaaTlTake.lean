/- package tlv: Take: its closure, its loop. -/
import Derived.Test.YtieopgmmjpmflaaTl
import Derived.Test.YtieopgmmjpmflaaNext
import Derived.Deep.RegionLaw
import Derived.Deep.DeepCutAuto
namespace Go.Proofs.Ytieopgmmjpmflaa
open Go.RowKit
set_option linter.unusedVariables false
set_option linter.unusedSimpArgs false
set_option maxRecDepth 100000

/-- what a number and a text behind it are, of a reader's bytes and error -/
def rvN (l : List UInt8) (er : Int) : Nat := num (tkV 2 l er)
def rvV (l : List UInt8) (er : Int) : List UInt8 := tkV (rvN l er) (tkL 2 l er) (tkE 2 l er)
def rvL (l : List UInt8) (er : Int) : List UInt8 := tkL (rvN l er) (tkL 2 l er) (tkE 2 l er)
def rvE (l : List UInt8) (er : Int) : Int := tkE (rvN l er) (tkL 2 l er) (tkE 2 l er)
theorem rvN_le (l : List UInt8) (er : Int) : rvN l er ≤ 65535 := by
  unfold rvN
  have h := num_lt (tkV 2 l er)
  have h1 := tkV_len 2 l er
  have h2 : 256 ^ (tkV 2 l er).length ≤ 256 ^ 2 := Nat.pow_le_pow_right (by omega) h1
  have h3 : (256 : Nat) ^ 2 = 65536 := by decide
  omega
theorem rv_len (l : List UInt8) (er : Int) : (rvL l er).length ≤ l.length := by
  unfold rvL tkL
  split <;> (split <;> simp <;> omega)
theorem rv_ok {l : List UInt8} (h2 : 2 ≤ l.length) (hn : num (l.take 2) ≤ (l.drop 2).length) : rvV l 0 = (l.drop 2).take (num (l.take 2)) ∧ rvL l 0 = (l.drop 2).drop (num (l.take 2)) ∧ rvE l 0 = 0 := by
  have a : tkV 2 l 0 = l.take 2 := by simp [tkV, h2]
  have b : tkL 2 l 0 = l.drop 2 := by simp [tkL, h2]
  have c : tkE 2 l 0 = 0 := by simp [tkE]; omega
  unfold rvV rvL rvE rvN
  rw [a, b, c]
  refine ⟨?_, ?_, ?_⟩
  · rw [tkV, if_pos ⟨rfl, hn⟩]
  · rw [tkL, if_pos ⟨rfl, hn⟩]
  · rw [tkE, if_neg (by omega)]
theorem rv_bad {l : List UInt8} (h : ¬ (2 ≤ l.length ∧ num (l.take 2) ≤ (l.drop 2).length)) : rvE l 0 = 3 := by
  by_cases h2 : 2 ≤ l.length
  · have a : tkV 2 l 0 = l.take 2 := by simp [tkV, h2]
    have b : tkL 2 l 0 = l.drop 2 := by simp [tkL, h2]
    have c : tkE 2 l 0 = 0 := by simp [tkE]; omega
    unfold rvE rvN
    rw [a, b, c, tkE, if_pos ⟨rfl, by omega⟩]
  · have c : tkE 2 l 0 = 3 := by simp [tkE]; omega
    unfold rvE
    rw [c, tkE, if_neg (by omega)]
theorem tks_rv {k : UInt8} {r : List UInt8} (hk : k ≠ 0) : (rvE r 0 = 0 ∧ tks (k :: r) = (tks (rvL r 0)).map (fun q => (⟨k, rvV r 0⟩ :: q.1, q.2))) ∨ (rvE r 0 = 3 ∧ tks (k :: r) = none) := by
  by_cases h : 2 ≤ r.length ∧ num (r.take 2) ≤ (r.drop 2).length
  · obtain ⟨a, b, c⟩ := rv_ok h.1 h.2
    refine .inl ⟨c, ?_⟩
    rw [tks_cons k r hk, if_neg (by omega), if_neg (by omega), a, b]
  · refine .inr ⟨rv_bad h, ?_⟩
    rw [tks_cons k r hk]
    by_cases h2 : r.length < 2
    · rw [if_pos h2]
    · rw [if_neg h2, if_pos (by omega)]
theorem tu16_any {w : World} {b : Nat} {l : List UInt8} {er : Int} (h : Rdr w b l er) :
    Calls Try.prog 47 #[.pointer (some ⟨b, 0, none⟩)] w fun e w' => e = .returned (.int .u16 (rvN l er : Nat)) ∧ Rdr w' b (tkL 2 l er) (tkE 2 l er) ∧ Chg (only b) w w' := u16_any h
theorem ttext_any {w : World} {b : Nat} {l : List UInt8} {er : Int} (n : Nat) (h : Rdr w b l er) :
    Calls Try.prog 31 #[.pointer (some ⟨b, 0, none⟩), .int .i64 (n : Int)] w fun e w' => e = .returned (.string ⟨(tkV n l er).toArray⟩) ∧ Rdr w' b (tkL n l er) (tkE n l er) ∧ Chg (only b) w w' := by
  have := text_any (n : Int) h
  rw [show ((n : Int)).toNat = n by omega] at this
  exact this
set_option maxHeartbeats 1000000 in
theorem tlval_any {w : World} {q b : Nat} {l : List UInt8} {er : Int} (hq : q ≠ b) (hp : w.cell? ⟨q, 0, none⟩ = some (.pointer (some ⟨b, 0, none⟩))) (h : Rdr w b l er) :
    Calls Try.prog 46 #[.pointer (some ⟨q, 0, none⟩)] w fun e w' => e = .returned (.string ⟨(rvV l er).toArray⟩) ∧ Rdr w' b (rvL l er) (rvE l er) ∧ Chg (only b) w w' := by
  have hql := World.block_lt_of_cell? w _ hp
  have hn255 := rvN_le l er
  have KU := Lib.hid (fun w => @tu16_any w b l er)
  have HV : Hid (rvV l er = tkV (rvN l er) (tkL 2 l er) (tkE 2 l er) ∧ rvL l er = tkL (rvN l er) (tkL 2 l er) (tkE 2 l er) ∧ rvE l er = tkE (rvN l er) (tkL 2 l er) (tkE 2 l er)) := Lib.hid ⟨rfl, rfl, rfl⟩
  rw [HV.out.1, HV.out.2.1, HV.out.2.2]
  obtain ⟨n, hn⟩ : ∃ n, rvN l er = n := ⟨_, rfl⟩
  obtain ⟨l1, hl1⟩ : ∃ l1, tkL 2 l er = l1 := ⟨_, rfl⟩
  obtain ⟨e1, he1⟩ : ∃ e1, tkE 2 l er = e1 := ⟨_, rfl⟩
  rw [hn, hl1, he1] at KU
  rw [hn, hl1, he1]
  rw [hn] at hn255
  have KT := Lib.hid (fun w => @ttext_any w b l1 e1 n)
  have hwr : IntKind.i64.wrap (n : Int) = (n : Int) := by simp [IntKind.wrap, IntKind.signed, IntKind.bits]; omega
  have hpd : w.drew.cell? ⟨q, 0, none⟩ = some (.pointer (some ⟨b, 0, none⟩)) := hp
  have HP := Lib.hid hpd
  have HR : Hid (Rdr w.drew b l er) := Lib.hid h
  have HC : Hid (Chg (only b) w w.drew) := Lib.hid (Chg.refl _ _).drew
  have HQ := Lib.hid hq
  have HQL : Hid (q < w.drew.heap.size) := Lib.hid hql
  clear hn hl1 he1 hp h hq hql HV
  go_enter Try.func46, Try.ntmps46
  go_wp2_with fail
  go_region_law (first
    | (go_simp; go_at_call 47; refine (KU.out _ HR.out).mono ?_; rintro r w1 ⟨rfl, hr1, hc1⟩; have hp1 := (Chg.cell hc1 (p := ⟨q, 0, none⟩) HQL.out HQ.out).trans HP.out; have HR1 := Lib.hid hr1; have HC1 := Lib.hid (HC.out.trans (hc1.mono (fun k _ hk => hk))); clear hr1 hc1)
    | (go_simp; go_at_call 31; refine (KT.out _ HR1.out).mono ?_; rintro r w2 ⟨rfl, hr2, hc2⟩; have HR2 := Lib.hid hr2; have HC2 := Lib.hid (HC1.out.trans (hc2.mono (fun k _ hk => hk))); clear hr2 hc2))
  all_goals (
    go_wp2
    go_ret
    exact ⟨rfl, HR2.out, HC2.out⟩)
end Go.Proofs.Ytieopgmmjpmflaa
