/- package cfm: when, first, Put, Head, Of. -/
import Derived.Test.YtieopgmmjpmflaaCfSpec
import Derived.Test.YtieopgmmjpmflaaTlPut
import Derived.Test.YtieopgmmjpmflaaFrameKit
import Derived.Deep.RegionHeld3
import Derived.Deep.RegionLaw
import Derived.BigQuiet
import Derived.Deep.QuietTactic
import Derived.Laws.Concat
namespace Go.Proofs.Ytieopgmmjpmflaa
open Go.RowKit
set_option linter.unusedVariables false
set_option linter.unusedSimpArgs false
set_option maxRecDepth 100000

/-- a message as a value -/
abbrev PdV (p : Pd) (A : Option Addr) (c : Nat) : Value := .agg #[.int .u8 p.l.toNat, .int .u8 p.o.toNat, .int .u8 p.g.toNat, .string ⟨p.x.toArray⟩, .slice A p.t.length c]
/-- the first of numbers that is not 0 -/
def frst : List Int → Int
  | [] => 0
  | e :: l => if e = 0 then frst l else e
theorem frst_zero : ∀ l : List Int, (∀ y ∈ l, y = 0) → frst l = 0 := by
  intro l
  induction l with
  | nil => intro _; rfl
  | cons e l ih =>
    intro h
    unfold frst
    rw [if_pos (h e (by simp))]
    exact ih (fun y hy => h y (by simp [hy]))
theorem frst_hit : ∀ (l : List Int) (k : Nat) (x : Int), l[k]? = some x → (∀ y ∈ l.take k, y = 0) → x ≠ 0 → frst l = x := by
  intro l
  induction l with
  | nil => intro k x h; simp at h
  | cons e l ih =>
    intro k x h h0 hx
    unfold frst
    cases k with
    | zero =>
      simp at h
      subst h
      rw [if_neg hx]
    | succ k =>
      simp at h
      rw [if_pos (h0 e (by simp))]
      exact ih k x h (fun y hy => h0 y (by simp [hy])) hx
def inV (e : Int) : List Value := [.int .i64 e]
theorem in_at {w : World} {A : Option Addr} {L : List Int} {x : Int} {k : Nat} (h : Els 1 inV w A L) (hx : L[k]? = some x) : ∃ b off, A = some ⟨b, off, none⟩ ∧ b < w.heap.size ∧ w.cell? ⟨b, off + k, none⟩ = some (.int .i64 x) := by
  obtain ⟨hk, rfl⟩ := List.getElem?_eq_some_iff.1 hx
  obtain ⟨b, off, e, hlt, hc⟩ := h (by omega)
  exact ⟨b, off, e, hlt, by have := hc k hk 0 _ rfl; simpa using this⟩
theorem ins_new (w : World) (t : TypeId) (l : List Int) (cs : Array Value) (h : cs = (l.map (fun e => Value.int .i64 e)).toArray) : Els 1 inV (w.alloc (.cells cs t)) (some ⟨w.heap.size, 0, none⟩) l := by
  subst h
  intro _
  refine ⟨_, 0, rfl, by simp, fun i hi j v hv => ?_⟩
  match j, hv with
  | 0, hv =>
    simp [inV] at hv
    subst hv
    rw [show 0 + i * 1 + 0 = i by omega, (Blk.new w t _).cell i]
    simp [hi]
theorem when_any (b : Bool) (e : Int) (w : World) :
    Calls Try.prog 27 #[.bool b, .int .i64 e] w fun r w' => r = .returned (.int .i64 (if b then e else 0)) ∧ w = w' := by
  cases b
  all_goals (
    go_enter Try.func27, Try.ntmps27
    go_wp2
    go_ret
    exact ⟨rfl, rfl⟩)
set_option maxHeartbeats 1000000 in
theorem first_any (A : Option Addr) (c : Nat) (l : List Int) (w : World) (hE : Els 1 inV w A l) (hl : l.length ≤ 1000000) :
    Calls Try.prog 26 #[.slice A l.length c] w fun r w' => r = .returned (.int .i64 (frst l)) ∧ w = w' := by
  have HE := Lib.hid hE
  obtain ⟨n, hn⟩ : ∃ n, l.length = n := ⟨_, rfl⟩
  have HN := Lib.hid hn
  rw [hn]
  rw [hn] at hl
  clear hE hn
  go_enter Try.func26, Try.ntmps26
  go_wp2
  go_loop [7] (fun i => ∃ k : Nat, k ≤ n ∧ i = .int .i64 k ∧ Hid (∀ y ∈ l.take k, y = 0)) (fun i => n - (intOf i).toNat)
  case atStart => exact ⟨0, Nat.zero_le _, rfl, Lib.hid (by intro y hy; simp at hy)⟩
  case round =>
    obtain ⟨k, hk, rfl, HZ⟩ := hrel
    by_cases hlt : k < n
    · obtain ⟨x, hx⟩ : ∃ x, l[k]? = some x := ⟨_, List.getElem?_eq_getElem (by rw [HN.out]; exact hlt)⟩
      obtain ⟨b, off, rfl, hb, c0⟩ := in_at HE.out hx
      have hki : (k : Int) < n := by omega
      have HX := Lib.hid hx
      by_cases h0 : x = 0
      · have HZ1 : Hid (∀ y ∈ l.take (k + 1), y = 0) := Lib.hid (by
          obtain ⟨hk', he⟩ := List.getElem?_eq_some_iff.1 hx
          rw [List.take_succ_eq_append_getElem hk', he]
          intro y hy
          rcases List.mem_append.1 hy with hy | hy
          · exact HZ.out y hy
          · rw [List.mem_singleton.1 hy]; exact h0)
        subst h0
        clear hx hb
        go_wp2
        go_round
        case rel => exact ⟨k + 1, by omega, by go_num, HZ1⟩
        case measure => simp [intOf]; omega
      · have e0 : (x != 0) = true := by simpa using h0
        have e1 : (x == 0) = false := by simpa using h0
        have HF := Lib.hid (frst_hit l k x hx HZ.out h0)
        clear hx hb h0
        go_wp2
        go_ret
        exact ⟨by rw [HF.out]; rfl, rfl⟩
    · obtain rfl : k = n := by omega
      have HF : Hid (frst l = 0) := Lib.hid (frst_zero l (by
        have := HZ.out
        rwa [List.take_of_length_le (by rw [HN.out]; omega)] at this))
      go_wp2
      go_ret
      exact ⟨by rw [HF.out]; rfl, rfl⟩
theorem pd_frst (p : Pd) : frst [if decide ((7 : Int) < (p.l.toNat : Int)) then 2 else 0, if decide ((255 : Int) < (p.x.length : Int)) then 5 else 0, (tlE p.t : Nat)] = (pdE p : Nat) := by
  unfold pdE
  by_cases h1 : 7 < p.l.toNat
  · have : (7 : Int) < (p.l.toNat : Int) := by omega
    simp [frst, h1, this]
  · have h1' : ¬ (7 : Int) < (p.l.toNat : Int) := by omega
    by_cases h2 : 255 < p.x.length
    · have : (255 : Int) < (p.x.length : Int) := by omega
      simp [frst, h1, h1', h2, this]
    · have h2' : ¬ (255 : Int) < (p.x.length : Int) := by omega
      simp only [frst, h1, h1', h2, h2', decide_false, if_false, Bool.false_eq_true, if_true]
      split
      · rename_i h; rw [h]
      · rfl
theorem byt_four (w : World) (t : TypeId) (a b c d : UInt8) : Byt (w.alloc (.cells #[.int .u8 a.toNat, .int .u8 b.toNat, .int .u8 c.toNat, .int .u8 d.toNat] t)) (some ⟨w.heap.size, 0, none⟩) [a, b, c, d] := by
  intro _
  refine ⟨_, rfl, fun j u hu => ?_⟩
  have hadd : (⟨w.heap.size, 0, none⟩ : Addr).add j = ⟨w.heap.size, j, none⟩ := by unfold Addr.add; split <;> simp_all
  rw [hadd, (Blk.new w t _).cell j]
  simpa [bvals, bval] using hu
theorem conv_four (w : World) (a b c d : UInt8) :
    (convert 58 9 (.slice (some ⟨w.heap.size, 0, none⟩) 4 4)).run Try.prog (w.alloc (.cells #[.int .u8 a.toNat, .int .u8 b.toNat, .int .u8 c.toNat, .int .u8 d.toNat] 5)) = .ok (.string ⟨#[a, b, c, d]⟩) (w.alloc (.cells #[.int .u8 a.toNat, .int .u8 b.toNat, .int .u8 c.toNat, .int .u8 d.toNat] 5)) :=
  Str.conv (l := [a, b, c, d]) ⟨some ⟨w.heap.size, 0, none⟩, 4, rfl, (fun h => nomatch h), byt_four w 5 a b c d⟩
set_option maxHeartbeats 4000000 in
theorem cfput_any (A : Option Addr) (c : Nat) (p : Pd) (w : World) (hE : Els 2 tlV w A p.t) (hl : p.t.length ≤ 5000) :
    Calls Try.prog 14 #[PdV p A c] w fun e w' => e = .returned (.tuple #[.string ⟨(pdP p).toArray⟩, .int .i64 (pdE p : Nat)]) ∧ Below w.heap.size w w' := by
  have HEA := Lib.hid hE
  have KP := Lib.hid (fun w h => tlput_any A c p.t w h (by omega))
  have HF := Lib.hid (pd_frst p)
  have HPL := Lib.hid (tlP_len p.t)
  obtain ⟨n, hn⟩ : ∃ n, p.t.length = n := ⟨_, rfl⟩
  obtain ⟨V, hV⟩ : ∃ V, tlP p.t = V := ⟨_, rfl⟩
  obtain ⟨E, hEr⟩ : ∃ E, tlE p.t = E := ⟨_, rfl⟩
  rw [hV, hEr, hn] at KP
  rw [hEr] at HF
  rw [hV, hn] at HPL
  rw [hn] at hl
  obtain ⟨q1, hq1⟩ : ∃ q, decide ((7 : Int) < (p.l.toNat : Int)) = q := ⟨_, rfl⟩
  obtain ⟨q2, hq2⟩ : ∃ q, decide ((255 : Int) < (p.x.length : Int)) = q := ⟨_, rfl⟩
  rw [hq1, hq2] at HF
  have KW1 := Lib.hid (fun w => when_any q1 2 w)
  have KW2 := Lib.hid (fun w => when_any q2 5 w)
  obtain ⟨r1, hr1⟩ : ∃ r, (if q1 then (2 : Int) else 0) = r := ⟨_, rfl⟩
  obtain ⟨r2, hr2⟩ : ∃ r, (if q2 then (5 : Int) else 0) = r := ⟨_, rfl⟩
  rw [hr1] at KW1 HF
  rw [hr2] at KW2 HF
  clear hr1 hr2
  have HV := Lib.hid hV
  have HLN := Lib.hid hl
  show Calls _ _ #[.agg #[.int .u8 p.l.toNat, .int .u8 p.o.toNat, .int .u8 p.g.toNat, .string ⟨p.x.toArray⟩, .slice A p.t.length c]] _ _
  rw [hn]
  clear hE hV hEr hn hl
  obtain ⟨o0, ho0⟩ : ∃ o, (Obj.cells #[.int .u8 p.l.toNat, .int .u8 p.o.toNat, .int .u8 p.g.toNat, .string ⟨p.x.toArray⟩, .slice A n c] 31) = o := ⟨_, rfl⟩
  have HB0 : Hid (Below w.heap.size w (w.alloc o0)) := Lib.hid ((Below.refl _ _).alloc (Nat.le_refl _) _)
  have HE0 : Hid (Els 2 tlV (w.alloc o0) A p.t) := Lib.hid (HEA.out.next HB0.out)
  have HK0 : Hid (Blk (w.alloc o0) w.heap.size 31 #[.int .u8 p.l.toNat, .int .u8 p.o.toNat, .int .u8 p.g.toNat, .string ⟨p.x.toArray⟩, .slice A n c]) := Lib.hid (by rw [← ho0]; exact Blk.new w _ _)
  have hlt := HK0.out.lt
  subst ho0
  go_enter Try.func14, Try.ntmps14
  go_wp2_with fail
  refine (KP.out _ HE0.out).mono ?_
  rintro r w1 ⟨rfl, hb1⟩
  have HB1 : Hid (Below w.heap.size w w1) := Lib.hid (HB0.out.trans (hb1.mono HB0.out.size))
  have HK1 := Lib.hid (HK0.out.below hb1 hlt)
  clear hb1 hlt HK0 HB0 HE0
  have k0 := HK1.out.cell 0
  have k3 := HK1.out.cell 3
  simp only [List.getElem?_toArray, List.getElem?_cons_succ, List.getElem?_cons_zero] at k0 k3
  have HF3 := Lib.hid (fun w h => first_any (some ⟨w1.heap.size, 0, none⟩) 3 [r1, r2, (E : Int)] w h (by simp))
  rw [HF.out] at HF3
  have HI := Lib.hid (ins_new w1 32 [r1, r2, (E : Int)] _ rfl)
  go_wp2_with fail
  refine wp_region_still_tail 10 (by kernel_rfl) (by kernel_rfl) ?_
  simp only [List.take_succ_cons, List.take_zero, List.drop_succ_cons, List.drop_zero]
  still_step
  still_step
  still_step
  still_call ((KW1.out _).mono (fun _ _ h => ⟨h.1, h.2.symm⟩))
  still_step
  still_step
  still_step
  still_step
  still_call ((KW2.out _).mono (fun _ _ h => ⟨h.1, h.2.symm⟩))
  still_step
  refine wpStill_nil ?_
  change wpList _ _ _ _ _ w1.drew
  go_wp2_with fail
  refine (HF3.out _ ?_).mono ?_
  · exact HI.out
  rintro r w2 ⟨rfl, hw2⟩
  have HB2 : Hid (Below w.heap.size w w2) := Lib.hid (by rw [← hw2]; exact (HB1.out.alloc HB1.out.size _).drew)
  have HK2 : Hid (Blk w2 w.heap.size 31 #[.int .u8 p.l.toNat, .int .u8 p.o.toNat, .int .u8 p.g.toNat, .string ⟨p.x.toArray⟩, .slice A n c]) := Lib.hid (by rw [← hw2]; exact (HK1.out.alloc _).drew)
  clear k0 k3 HK1 HB1 HI HF3 hw2
  have HP0 : Hid (pdE p = 0 → pdP p = (pdH p ++ p.x) ++ V) := Lib.hid (fun h => by unfold pdP; rw [if_pos h, HV.out])
  have HP1 : Hid (pdE p ≠ 0 → pdP p = []) := Lib.hid pd_no
  have HXL : Hid (pdE p = 0 → p.x.length ≤ 255) := Lib.hid (fun h => (pdE_ok h).2.1)
  obtain ⟨F, hF⟩ : ∃ F, pdE p = F := ⟨_, rfl⟩
  rw [hF] at HP0 HP1 HXL
  simp only [hF]
  have HFE := Lib.hid hF
  clear hF HF hq1 hq2 KW1 KW2
  by_cases h0 : F = 0
  · subst h0
    have hP := HP0.out rfl
    have hxl := HXL.out rfl
    obtain ⟨a1, ha1⟩ : ∃ a, p.l * 32 = a := ⟨_, rfl⟩
    obtain ⟨a4, ha4⟩ : ∃ a, UInt8.ofNat p.x.length = a := ⟨_, rfl⟩
    have hm : IntKind.u8.wrap ((p.l.toNat : Int) * 32) = (a1.toNat : Int) := by
      rw [← ha1, UInt8.toNat_mul]
      simp [IntKind.wrap, IntKind.signed, IntKind.bits]
    have hlen : IntKind.u8.wrap (p.x.length : Int) = (a4.toNat : Int) := by
      rw [← ha4]
      simp [IntKind.wrap, IntKind.signed, IntKind.bits]
    have hH : pdH p = [a1, p.o, p.g, a4] := by unfold pdH; rw [ha1, ha4]
    have hcv := conv_four w2 a1 p.o p.g a4
    rw [hH] at hP
    obtain ⟨M, hM⟩ : ∃ M, [a1, p.o, p.g, a4] ++ p.x = M := ⟨_, rfl⟩
    rw [hM] at hP
    have hml : M.length ≤ 260 := by rw [← hM]; simp; omega
    have hvl : V.length ≤ 7415001 := by have := HPL.out; have := HLN.out; omega
    have hd1 : ∀ w : World, (Op.stringOp .add ⟨#[a1, p.o, p.g, a4]⟩ ⟨p.x.toArray⟩).run Try.prog w = .ok (.string ⟨M.toArray⟩) w := fun w => by rw [← hM]; exact run_string_add_lists w [a1, p.o, p.g, a4] p.x (by simp) (by omega)
    have hd2 : ∀ w : World, (Op.stringOp .add ⟨M.toArray⟩ ⟨V.toArray⟩).run Try.prog w = .ok (.string ⟨(pdP p).toArray⟩) w := fun w => by rw [hP]; exact run_string_add_lists w M V (by omega) (by omega)
    obtain ⟨R, hR⟩ : ∃ R, pdP p = R := ⟨_, rfl⟩
    rw [hR] at hd2
    have HRR := Lib.hid hR
    clear hH hP hxl ha1 ha4 hM hml hvl hR
    have k0 := HK2.out.cell 0
    have k1 := HK2.out.cell 1
    have k2 := HK2.out.cell 2
    have k3 := HK2.out.cell 3
    simp only [List.getElem?_toArray, List.getElem?_cons_succ, List.getElem?_cons_zero] at k0 k1 k2 k3
    have HB3 : Hid (Below w.heap.size w (w2.alloc (.cells #[.int .u8 a1.toNat, .int .u8 p.o.toNat, .int .u8 p.g.toNat, .int .u8 a4.toNat] 5))) := Lib.hid (HB2.out.alloc HB2.out.size _)
    have HK3 : Hid (Blk (w2.alloc (.cells #[.int .u8 a1.toNat, .int .u8 p.o.toNat, .int .u8 p.g.toNat, .int .u8 a4.toNat] 5)) w.heap.size 31 #[.int .u8 p.l.toNat, .int .u8 p.o.toNat, .int .u8 p.g.toNat, .string ⟨p.x.toArray⟩, .slice A n c]) := Lib.hid (HK2.out.alloc _)
    have k3' := HK3.out.cell 3
    simp only [List.getElem?_toArray, List.getElem?_cons_succ, List.getElem?_cons_zero] at k3'
    go_wp2
    go_ret2
    exact ⟨by rw [HRR.out, HFE.out]; rfl, HB3.out⟩
  · have e0 : ((F : Int) != 0) = true := by simpa using h0
    have hP := Lib.hid (HP1.out h0)
    clear h0
    go_wp2
    go_ret2
    exact ⟨by rw [hP.out, HFE.out]; rfl, HB2.out⟩
theorem byteC (l : List UInt8) (i : Nat) (h : i < (⟨l.toArray⟩ : ByteArray).size) : (⟨l.toArray⟩ : ByteArray)[i]'h = l.getD i 0 := by
  have h' : i < l.length := h
  show l.toArray[i] = _
  rw [List.getElem_toArray, List.getD_eq_getElem?_getD, List.getElem?_eq_getElem h']
  rfl
end Go.Proofs.Ytieopgmmjpmflaa
