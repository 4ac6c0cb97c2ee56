/- Layer 16: the document's Set, May. -/
import Derived.Test.YtfdiolfelecccaaZz
import Derived.BigQuiet
import Derived.Deep.QuietTactic
namespace Go.Proofs.Ytfdiolfelecccaa
open Go.RowKit
set_option linter.unusedVariables false
set_option linter.unusedSimpArgs false
set_option maxRecDepth 100000

def acc16 (f : Nat → Bool) : Nat → Nat
  | 0 => 0
  | k + 1 => 2 * acc16 f k + (f (7 - k)).toNat
theorem acc16_lt (f : Nat → Bool) (k : Nat) : acc16 f k < 2 ^ k := by
  induction k with
  | zero => simp [acc16]
  | succ k ih =>
    have h : (f (7 - k)).toNat ≤ 1 := by cases f (7 - k) <;> decide
    rw [Nat.pow_succ]
    show 2 * acc16 f k + (f (7 - k)).toNat < _
    omega
theorem acc16_all (f : Nat → Bool) : acc16 f 8 = (setOf f).toNat := by
  unfold setOf
  rw [UInt8.toNat_ofNat', Nat.mod_eq_of_lt (set8_lt _ _ _ _ _ _ _ _)]
  simp only [acc16, set8, show 7 - 0 = 7 from rfl, show 7 - 1 = 6 from rfl, show 7 - 2 = 5 from rfl, show 7 - 3 = 4 from rfl, show 7 - 4 = 3 from rfl, show 7 - 5 = 2 from rfl, show 7 - 6 = 1 from rfl, show 7 - 7 = 0 from rfl]
  omega
theorem f8_at (f : Nat → Bool) (k : Nat) (h : k < 8) : (#[.bool (f 0), .bool (f 1), .bool (f 2), .bool (f 3), .bool (f 4), .bool (f 5), .bool (f 6), .bool (f 7)] : Array Value)[k]? = some (.bool (f k)) := by
  match k, h with
  | 0, _ => rfl
  | 1, _ => rfl
  | 2, _ => rfl
  | 3, _ => rfl
  | 4, _ => rfl
  | 5, _ => rfl
  | 6, _ => rfl
  | 7, _ => rfl
set_option maxHeartbeats 2000000 in
theorem refset16_any (f : Nat → Bool) (w : World) :
    Calls Try.prog 29 #[.agg #[.bool (f 0), .bool (f 1), .bool (f 2), .bool (f 3), .bool (f 4), .bool (f 5), .bool (f 6), .bool (f 7)]] w fun e w' => e = .returned (.int .u8 (setOf f).toNat) ∧ Below w.heap.size w w' := by
  obtain ⟨w0, hw0⟩ : ∃ w0, w.alloc (.cells #[.bool (f 0), .bool (f 1), .bool (f 2), .bool (f 3), .bool (f 4), .bool (f 5), .bool (f 6), .bool (f 7)] 81) = w0 := ⟨_, rfl⟩
  have HB0 : Hid (Below w.heap.size w w0) := Lib.hid (by rw [← hw0]; exact (Below.refl _ _).alloc (Nat.le_refl _) _)
  have HF0 : Hid (Blk w0 w.heap.size 81 #[.bool (f 0), .bool (f 1), .bool (f 2), .bool (f 3), .bool (f 4), .bool (f 5), .bool (f 6), .bool (f 7)]) := Lib.hid (by rw [← hw0]; exact Blk.new _ _ _)
  go_enter Try.func29, Try.ntmps29
  go_wp2
  try rw [hw0]
  clear hw0
  go_loopw [3, 4] (fun v i wr => ∃ k : Nat, k ≤ 8 ∧ v = .int .u8 (acc16 f k : Nat) ∧ i = .int .i64 (7 - (k : Int)) ∧ wr = w0) (fun _ i _ => (intOf i + 1).toNat)
  case atStart => exact ⟨0, Nat.zero_le _, rfl, by simp, rfl⟩
  case round =>
    obtain ⟨k, hk, rfl, rfl, rfl⟩ := hrel
    by_cases hlt : k < 8
    · obtain ⟨i, hi⟩ : ∃ i, 7 - k = i := ⟨_, rfl⟩
      have hii : (7 : Int) - k = (i : Int) := by omega
      have hi7 : i < 8 := by omega
      have c1 := (HF0.out.cell i).trans (f8_at f i hi7)
      have hi7' : (i : Int) < 8 := by omega
      have h1 := acc16_lt f k
      have h2 := acc16_lt f (k + 1)
      have h3 : 2 ^ (k + 1) ≤ 256 := Nat.pow_le_pow_right (by omega) (show k + 1 ≤ 8 by omega)
      have ha : acc16 f (k + 1) = 2 * acc16 f k + (f i).toNat := by rw [← hi]; rfl
      obtain ⟨s, hs⟩ : ∃ s, acc16 f k = s := ⟨_, rfl⟩
      rw [hs] at ha ⊢
      have hs2 : s < 128 := by
        rw [hs] at h1
        have : 2 ^ k ≤ 128 := Nat.pow_le_pow_right (by omega) (show k ≤ 7 by omega)
        omega
      have hm : (s : Int) * 2 % 256 = (s : Int) * 2 := by omega
      have hm2 : ((s : Int) * 2 + 1) % 256 = (s : Int) * 2 + 1 := by omega
      have hsl : (s : Int) < 128 := by omega
      have HA := Lib.hid ha
      have HX := Lib.hid (And.intro hii hlt)
      rw [hii]
      clear h1 h2 h3 ha hs hs2 hi hii hi7 hlt
      by_cases hb : f i = true
      · have HBB := Lib.hid hb
        rw [hb] at c1
        clear hb
        go_wp2
        go_roundw
        case rel => exact ⟨k + 1, by have := HX.out.2; omega, by rw [HA.out, HBB.out]; congr 1; simp; omega, by have := HX.out.1; congr 1 <;> omega, by first | exact rfl | trivial⟩
        case measure => have := HX.out.1; first | (simp [intOf]; done) | (simp [intOf]; omega)
      · have hb' : f i = false := by simpa using hb
        have HBB := Lib.hid hb'
        rw [hb'] at c1
        clear hb hb'
        go_wp2
        go_roundw
        case rel => exact ⟨k + 1, by have := HX.out.2; omega, by rw [HA.out, HBB.out]; congr 1; simp; omega, by have := HX.out.1; congr 1 <;> omega, by first | exact rfl | trivial⟩
        case measure => have := HX.out.1; first | (simp [intOf]; done) | (simp [intOf]; omega)
    · obtain rfl : k = 8 := by omega
      have HE := Lib.hid (acc16_all f)
      rw [HE.out]
      rw [show (7 : Int) - ((8 : Nat) : Int) = -1 by omega]
      clear hlt
      go_wp2
      go_ret
      exact ⟨rfl, HB0.out⟩
def u16c (x : UInt16) : List Value := [.int .u16 x.toNat]
theorem u16c_at {w : World} {A : Option Addr} {l : List UInt16} {i : Nat} {x : UInt16} (h : Els 1 u16c w A l) (hx : l[i]? = some x) : ∃ b off, A = some ⟨b, off, none⟩ ∧ b < w.heap.size ∧ w.cell? ⟨b, off + i, none⟩ = some (.int .u16 x.toNat) := by
  obtain ⟨hi, rfl⟩ := List.getElem?_eq_some_iff.1 hx
  obtain ⟨b, off, e, hlt, hc⟩ := h (by omega)
  refine ⟨b, off, e, hlt, ?_⟩
  have := hc i hi 0 _ rfl
  simpa using this
/-- an association as a value -/
abbrev AsV (a : As) (B : Option Addr) (c : Nat) : Value := .agg #[.int .u8 a.l.toNat, .string ⟨a.d.toArray⟩, .string ⟨a.n.toArray⟩, .int .u16 a.v.toNat, .int .u8 a.i.toNat, .slice B a.m.length c]
theorem asM_head {a : As} (h : asM a = true) : mdE a.d a.n = 0 ∧ a.l.toNat < 8 ∧ 0 < a.v.toNat ∧ a.v.toNat < 4095 ∧ (a.i = 4 ∨ a.i = 5) ∧ 0 < a.m.length ∧ a.m.length ≤ 8 ∧ ris 0 a.m = true := by
  unfold asM at h
  simp only [Bool.and_eq_true, Bool.or_eq_true, beq_iff_eq, decide_eq_true_eq] at h
  exact ⟨h.1, h.2.1, h.2.2.1.1, h.2.2.1.2, h.2.2.2.1, h.2.2.2.2.1.1, h.2.2.2.2.1.2, h.2.2.2.2.2⟩
theorem asM_all {a : As} (h : mdE a.d a.n = 0 ∧ a.l.toNat < 8 ∧ 0 < a.v.toNat ∧ a.v.toNat < 4095 ∧ (a.i = 4 ∨ a.i = 5) ∧ 0 < a.m.length ∧ a.m.length ≤ 8) : asM a = ris 0 a.m := by
  unfold asM
  rw [Bool.eq_iff_iff]
  simp only [Bool.and_eq_true, Bool.or_eq_true, beq_iff_eq, decide_eq_true_eq]
  exact ⟨fun x => x.2.2.2.2.2, fun x => ⟨h.1, h.2.1, ⟨h.2.2.1, h.2.2.2.1⟩, h.2.2.2.2.1, ⟨h.2.2.2.2.2.1, h.2.2.2.2.2.2⟩, x⟩⟩
theorem asM_no {a : As} (h : ¬ (mdE a.d a.n = 0 ∧ a.l.toNat < 8 ∧ 0 < a.v.toNat ∧ a.v.toNat < 4095 ∧ (a.i = 4 ∨ a.i = 5) ∧ 0 < a.m.length ∧ a.m.length ≤ 8)) : asM a = false := by
  rw [← Bool.not_eq_true]
  intro e
  have := asM_head e
  exact h ⟨this.1, this.2.1, this.2.2.1, this.2.2.2.1, this.2.2.2.2.1, this.2.2.2.2.2.1, this.2.2.2.2.2.2.1⟩
set_option maxHeartbeats 8000000 in
theorem refmay16_any (a : As) (B : Option Addr) (c : Nat) (w : World) (hE : Els 1 u16c w B a.m) (hd : a.d.length ≤ 1000) (hn : a.n.length ≤ 1000) :
    Calls Try.prog 48 #[AsV a B c] w fun e w' => e = .returned (.bool (asM a)) ∧ Below w.heap.size w w' := by
  have HEE := Lib.hid hE
  obtain ⟨n, hnn⟩ : ∃ n, a.m.length = n := ⟨_, rfl⟩
  have HN := Lib.hid hnn
  have KP := Lib.hid (fun w => refput_any a.d a.n w (by omega) (by omega))
  obtain ⟨V, hV⟩ : ∃ V, mdV a.d a.n = V := ⟨_, rfl⟩
  obtain ⟨E, hEE⟩ : ∃ V, mdE a.d a.n = V := ⟨_, rfl⟩
  rw [hV, hEE] at KP
  have hno := fun h => asM_no (a := a) h
  have hall := fun h => asM_all (a := a) h
  rw [hEE, hnn] at hno hall
  have HNOO := Lib.hid hno
  have HALL := Lib.hid hall
  show Calls _ _ #[.agg #[.int .u8 a.l.toNat, .string ⟨a.d.toArray⟩, .string ⟨a.n.toArray⟩, .int .u16 a.v.toNat, .int .u8 a.i.toNat, .slice B a.m.length c]] _ _
  rw [hnn]
  clear hE hd hn hnn hV hEE hno hall
  obtain ⟨o, ho⟩ : ∃ o, (Obj.cells #[.int .u8 a.l.toNat, .string ⟨a.d.toArray⟩, .string ⟨a.n.toArray⟩, .int .u16 a.v.toNat, .int .u8 a.i.toNat, .slice B n c] 37) = o := ⟨_, rfl⟩
  have HB0 : Hid (Below w.heap.size w (w.alloc o)) := Lib.hid ((Below.refl _ _).alloc (Nat.le_refl _) _)
  have HK0 : Hid (Blk (w.alloc o) w.heap.size 37 #[.int .u8 a.l.toNat, .string ⟨a.d.toArray⟩, .string ⟨a.n.toArray⟩, .int .u16 a.v.toNat, .int .u8 a.i.toNat, .slice B n c]) := Lib.hid (by rw [← ho]; exact Blk.new _ _ _)
  subst ho
  go_enter Try.func48, Try.ntmps48
  go_wp2_with fail
  refine (KP.out _).mono ?_
  rintro r_ w1 ⟨rfl, hb1⟩
  have HB1 : Hid (Below w.heap.size w w1) := Lib.hid (HB0.out.trans (hb1.mono HB0.out.size))
  have HK1 := Lib.hid (HK0.out.below hb1 HK0.out.lt)
  clear hb1 HB0 HK0 KP
  have k0 := HK1.out.cell 0
  have k3 := HK1.out.cell 3
  have k4 := HK1.out.cell 4
  have k5 := HK1.out.cell 5
  simp only [List.getElem?_toArray, List.getElem?_cons_succ, List.getElem?_cons_zero] at k0 k3 k4 k5
  by_cases h1 : E = 0
  · subst h1
    by_cases h2 : a.l.toNat < 8
    · have p2 : ¬ (7 : Int) < (a.l.toNat : Int) := by omega
      by_cases h3 : 0 < a.v.toNat
      · have p3 : ¬ (a.v.toNat : Int) < 1 := by omega
        by_cases h4 : a.v.toNat < 4095
        · have p4 : ¬ (4094 : Int) < (a.v.toNat : Int) := by omega
          by_cases h5 : a.i = 4 ∨ a.i = 5
          · by_cases h6 : 0 < n
            · have p6 : ((n : Int) == 0) = false := by rw [beq_eq_false_iff_ne]; omega
              by_cases h7 : n ≤ 8
              · have p7 : ¬ (8 : Int) < (n : Int) := by omega
                have HALL2 := Lib.hid (HALL.out ⟨rfl, h2, h3, h4, h5, h6, h7⟩)
                have HN8 := Lib.hid h7
                have hi5 : ((a.i.toNat : Int) != 4) = false ∨ (((a.i.toNat : Int) != 4) = true ∧ ((a.i.toNat : Int) != 5) = false) := by
                  rcases h5 with h5 | h5
                  · exact .inl (by rw [h5]; rfl)
                  · exact .inr ⟨by rw [h5]; rfl, by rw [h5]; rfl⟩
                clear h2 h3 h4 h5 h6 h7 HNOO HALL
                rcases hi5 with q1 | ⟨q1, q2⟩
                all_goals (
                  go_wp2
                  clear k0 k3 k4 k5
                  go_loopw [5] (fun i wr => ∃ k : Nat, k ≤ n ∧ i = .int .i64 k ∧ Hid (ris 0 (a.m.take k) = true) ∧ Hid (Blk wr w.heap.size 37 #[.int .u8 a.l.toNat, .string ⟨a.d.toArray⟩, .string ⟨a.n.toArray⟩, .int .u16 a.v.toNat, .int .u8 a.i.toNat, .slice B n c]) ∧ Hid (Below w.heap.size w wr)) (fun i _ => n - (intOf i).toNat)
                  case atStart => exact ⟨0, Nat.zero_le _, rfl, Lib.hid rfl, HK1, HB1⟩
                  case round =>
                    obtain ⟨k, hk, rfl, HZ, HK, HB⟩ := hrel
                    clear HK1 HB1
                    have k5 := HK.out.cell 5
                    simp only [List.getElem?_toArray, List.getElem?_cons_succ, List.getElem?_cons_zero] at  k5
                    by_cases hlt : k < n
                    · obtain ⟨x, hx⟩ : ∃ x, a.m[k]? = some x := ⟨_, List.getElem?_eq_getElem (by rw [HN.out]; exact hlt)⟩
                      have hki : (k : Int) < n := by omega
                      have hk8 : (n : Int) ≤ 8 := by have := HN8.out; omega
                      have hsn : ris 0 (a.m.take (k + 1)) = (decide (lst16 0 (a.m.take k) < x.toNat) && decide (x.toNat < 8192)) := by
                        obtain ⟨hk', he⟩ := List.getElem?_eq_some_iff.1 hx
                        rw [List.take_succ_eq_append_getElem hk', he, ris_app, HZ.out]
                        simp [ris]
                      have hbad : ris 0 (a.m.take (k + 1)) = false → ris 0 a.m = false := fun h => by
                        rw [← List.take_append_drop (k + 1) a.m, ris_app, h]
                        rfl
                      have HSN := Lib.hid (And.intro hsn hbad)
                      have HLT := Lib.hid hlt
                      have HX := Lib.hid hx
                      obtain ⟨b, off, rfl, hb, c0⟩ := u16c_at (HEE.out.next HB.out) hx
                      clear hx hsn hbad hb
                      by_cases e1 : 0 < x.toNat
                      · have p1 : ¬ (x.toNat : Int) < 1 := by omega
                        have d1 : decide ((x.toNat : Int) < 1) = false := by simpa using p1
                        by_cases e2 : x.toNat < 8192
                        · have p2 : ¬ (8191 : Int) < (x.toNat : Int) := by omega
                          have d2 : decide ((8191 : Int) < (x.toNat : Int)) = false := by simpa using p2
                          by_cases e3 : k = 0
                          · have HZ1 : Hid (ris 0 (a.m.take (k + 1)) = true) := Lib.hid (by
                              rw [HSN.out.1, e3]
                              simp [lst16, e1, e2])
                            have p3 : ¬ (0 : Int) < (k : Int) := by omega
                            have d3 : decide ((0 : Int) < (k : Int)) = false := by simpa using p3
                            have p3n : ¬ 0 < k := by omega
                            clear e1 e2 e3 hlt
                            go_wp2_with fail
                            go_quiet (fail)
                            go_wp2
                            go_roundw
                            case rel => exact ⟨k + 1, by have := HLT.out; omega, by go_num, HZ1, Lib.hid (Blk.drewN HK.out _), Lib.hid (below_drewN HB.out _)⟩
                            case measure => have := HLT.out; simp [intOf]; omega
                          · obtain ⟨y, hy⟩ : ∃ y, a.m[k - 1]? = some y := ⟨_, List.getElem?_eq_getElem (by rw [HN.out]; omega)⟩
                            obtain ⟨b', off', e, hb', c1⟩ := u16c_at (HEE.out.next HB.out) hy
                            obtain ⟨rfl, rfl⟩ : b' = b ∧ off' = off := by simpa using e.symm
                            have p3 : (0 : Int) < (k : Int) := by omega
                            have d3 : decide ((0 : Int) < (k : Int)) = true := by simpa using p3
                            have hl : lst16 0 (a.m.take k) = y.toNat := by
                              have := lst16_at a.m (k - 1) y hy
                              rwa [show k - 1 + 1 = k by omega] at this
                            obtain ⟨j, hj⟩ : ∃ j, k - 1 = j := ⟨_, rfl⟩
                            rw [hj] at c1
                            have hkj : (k : Int) - 1 = (j : Int) := by omega
                            have hkw : IntKind.i64.wrap ((k : Int) - 1) = (j : Int) := by rw [hkj]; simp [IntKind.wrap, IntKind.signed, IntKind.bits]; omega
                            have hjn : (j : Int) < n := by omega
                            have p3n : 0 < k := by omega
                            by_cases e4 : y.toNat < x.toNat
                            · have p4 : ¬ (x.toNat : Int) ≤ (y.toNat : Int) := by omega
                              have HZ1 : Hid (ris 0 (a.m.take (k + 1)) = true) := Lib.hid (by
                                rw [HSN.out.1, hl]
                                simp [e4, e2])
                              clear e1 e2 e3 e4 hlt hl hy hb' e hj hkw
                              go_wp2_with fail
                              go_quiet (fail)
                              go_wp2
                              go_roundw
                              case rel => exact ⟨k + 1, by have := HLT.out; omega, by go_num, HZ1, Lib.hid (Blk.drewN HK.out _), Lib.hid (below_drewN HB.out _)⟩
                              case measure => have := HLT.out; simp [intOf]; omega
                            · have p4 : (x.toNat : Int) ≤ (y.toNat : Int) := by omega
                              have HBAD : Hid (ris 0 a.m = false) := Lib.hid (HSN.out.2 (by
                                rw [HSN.out.1, hl]
                                simp [e4]))
                              clear e1 e2 e3 e4 hlt hl hy hb' e hj hkw
                              go_wp2_with fail
                              go_quiet (fail)
                              go_wp2
                              go_ret
                              exact ⟨by rw [HALL2.out, HBAD.out]; rfl, below_drewN HB.out _⟩
                        · have p2 : (8191 : Int) < (x.toNat : Int) := by omega
                          have d2 : decide ((8191 : Int) < (x.toNat : Int)) = true := by simpa using p2
                          have HBAD : Hid (ris 0 a.m = false) := Lib.hid (HSN.out.2 (by
                            rw [HSN.out.1]
                            simp [e2]))
                          clear e1 e2 hlt
                          go_wp2_with fail
                          go_quiet (fail)
                          go_wp2
                          go_ret
                          exact ⟨by rw [HALL2.out, HBAD.out]; rfl, below_drewN HB.out _⟩
                      · have p1 : (x.toNat : Int) < 1 := by omega
                        have d1 : decide ((x.toNat : Int) < 1) = true := by simpa using p1
                        have HBAD : Hid (ris 0 a.m = false) := Lib.hid (HSN.out.2 (by
                          rw [HSN.out.1]
                          simp; omega))
                        clear e1 hlt
                        go_wp2_with fail
                        go_quiet (fail)
                        go_wp2
                        go_ret
                        exact ⟨by rw [HALL2.out, HBAD.out]; rfl, below_drewN HB.out _⟩
                    · obtain rfl : k = n := by omega
                      have HR : Hid (ris 0 a.m = true) := Lib.hid (by
                        have := HZ.out
                        rwa [List.take_of_length_le (by rw [HN.out]; exact Nat.le_refl _)] at this)
                      go_wp2
                      go_ret
                      exact ⟨by rw [HALL2.out, HR.out]; rfl, HB.out⟩)
              · have p7 : (8 : Int) < (n : Int) := by omega
                have HNO := Lib.hid (HNOO.out (fun h => h7 h.2.2.2.2.2.2))
                have hi5 : ((a.i.toNat : Int) != 4) = false ∨ (((a.i.toNat : Int) != 4) = true ∧ ((a.i.toNat : Int) != 5) = false) := by
                  rcases h5 with h5 | h5
                  · exact .inl (by rw [h5]; rfl)
                  · exact .inr ⟨by rw [h5]; rfl, by rw [h5]; rfl⟩
                clear h2 h3 h4 h5 h6 h7
                rcases hi5 with q1 | ⟨q1, q2⟩
                all_goals (
                  go_wp2
                  go_ret
                  exact ⟨by rw [HNO.out]; rfl, HB1.out⟩)
            · have p6 : ((n : Int) == 0) = true := by rw [beq_iff_eq]; omega
              have HNO := Lib.hid (HNOO.out (fun h => h6 h.2.2.2.2.2.1))
              have hi5 : ((a.i.toNat : Int) != 4) = false ∨ (((a.i.toNat : Int) != 4) = true ∧ ((a.i.toNat : Int) != 5) = false) := by
                rcases h5 with h5 | h5
                · exact .inl (by rw [h5]; rfl)
                · exact .inr ⟨by rw [h5]; rfl, by rw [h5]; rfl⟩
              clear h2 h3 h4 h5 h6
              rcases hi5 with q1 | ⟨q1, q2⟩
              all_goals (
                go_wp2
                go_ret
                exact ⟨by rw [HNO.out]; rfl, HB1.out⟩)
          · have q1 : ((a.i.toNat : Int) != 4) = true := by
              simp only [bne_iff_ne, ne_eq]
              intro h
              exact h5 (.inl (UInt8.toNat_inj.1 (by show a.i.toNat = 4; omega)))
            have q2 : ((a.i.toNat : Int) != 5) = true := by
              simp only [bne_iff_ne, ne_eq]
              intro h
              exact h5 (.inr (UInt8.toNat_inj.1 (by show a.i.toNat = 5; omega)))
            have HNO := Lib.hid (HNOO.out (fun h => h5 h.2.2.2.2.1))
            clear h2 h3 h4 h5
            go_wp2
            go_ret
            exact ⟨by rw [HNO.out]; rfl, HB1.out⟩
        · have p4 : (4094 : Int) < (a.v.toNat : Int) := by omega
          have HNO := Lib.hid (HNOO.out (fun h => h4 h.2.2.2.1))
          clear h2 h3 h4
          go_wp2
          go_ret
          exact ⟨by rw [HNO.out]; rfl, HB1.out⟩
      · have p3 : (a.v.toNat : Int) < 1 := by omega
        have HNO := Lib.hid (HNOO.out (fun h => h3 h.2.2.1))
        clear h2 h3
        go_wp2
        go_ret
        exact ⟨by rw [HNO.out]; rfl, HB1.out⟩
    · have p2 : (7 : Int) < (a.l.toNat : Int) := by omega
      have HNO := Lib.hid (HNOO.out (fun h => h2 h.2.1))
      clear h2
      go_wp2
      go_ret
      exact ⟨by rw [HNO.out]; rfl, HB1.out⟩
  · have p1 : ((E : Int) != 0) = true := by simpa using h1
    have HNO := Lib.hid (HNOO.out (fun h => h1 h.1))
    clear h1
    go_wp2
    go_ret
    exact ⟨by rw [HNO.out]; rfl, HB1.out⟩
end Go.Proofs.Ytfdiolfelecccaa
