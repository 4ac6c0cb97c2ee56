/- Layer 11: the document's Take. -/
import Derived.Test.YtjilolehcboihaaTl
import Derived.Test.YtjilolehcboihaaTlTk
import Derived.Deep.RegionLaw
import Derived.Deep.DeepCutAuto
import Derived.BigQuiet
import Derived.Deep.QuietTactic
namespace Go.Proofs.Ytjilolehcboihaa
open Go.RowKit
set_option linter.unusedVariables false
set_option linter.unusedSimpArgs false
set_option maxRecDepth 100000

theorem tks3 {x a b : UInt8} {r : List UInt8} (hx : x ≠ 0) : tks (x :: a :: b :: r) = if r.length < a.toNat * 256 + b.toNat then none else (tks (r.drop (a.toNat * 256 + b.toNat))).map (fun q => (⟨x, r.take (a.toNat * 256 + b.toNat)⟩ :: q.1, q.2)) := by
  have hn : num [a, b] = a.toNat * 256 + b.toNat := by simp [num]
  rw [tks_cons x _ hx, if_neg (by simp)]
  simp only [List.take_succ_cons, List.take_zero, List.drop_succ_cons, List.drop_zero, hn]
theorem tks2 {x : UInt8} {r : List UInt8} (hx : x ≠ 0) (h : r.length < 2) : tks (x :: r) = none := by
  rw [tks_cons x _ hx, if_pos h]
theorem tk_more {s : List UInt8} {x : Tl} {r : List UInt8} (h : tks s = (tks r).map (fun q => (x :: q.1, q.2))) : (tkErr s = tkErr r) ∧ (tkErr r = 0 → tkX s = x :: tkX r ∧ tkR s = tkR r) ∧ (tkErr r ≠ 0 → tkX s = [] ∧ tkR s = [] ∧ tkErr s = 3) := by
  unfold tkX tkR tkErr
  rw [h]
  cases tks r with
  | none => exact ⟨rfl, fun h => by simp at h, fun _ => ⟨rfl, rfl, rfl⟩⟩
  | some p => exact ⟨rfl, fun _ => ⟨rfl, rfl⟩, fun h => by simp at h⟩
theorem tkErr_or (s : List UInt8) : tkErr s = 0 ∨ tkErr s = 3 := by
  unfold tkErr
  split <;> simp
theorem byteL (l : List UInt8) (i : Nat) (h : i < (⟨l.toArray⟩ : ByteArray).size) : (⟨l.toArray⟩ : ByteArray)[i]'h = l.getD i 0 := by
  have h' : i < l.length := h
  show l.toArray[i] = _
  rw [List.getElem_toArray, List.getD_eq_getElem?_getD, List.getElem?_eq_getElem h']
  rfl
theorem cut_end (s d : List UInt8) (i : Nat) (hi : i ≤ s.length) (hd : s.drop i = d) (w : World) :
    (Instr.slice 9 (.string ⟨s.toArray⟩) (some (.int .i64 (i : Int))) none none).run Try.prog w = .ok (.string ⟨d.toArray⟩) w := by
  rw [run_slice_string_l (P := Try.prog) (w := w) (s := ⟨s.toArray⟩) (t := 9) Try.underlying9 .i64 (i : Int) (by omega) (by show (i : Int) ≤ (s.length : Int); omega)]
  have e : (⟨s.toArray⟩ : ByteArray).extract i (⟨s.toArray⟩ : ByteArray).size = ⟨d.toArray⟩ := by
    rw [← hd]
    exact extract_drop s i
  simp only [Int.toNat_natCast, e]
theorem cut_mid (s d : List UInt8) (i j : Nat) (hij : i ≤ j) (hj : j ≤ s.length) (hd : (s.take j).drop i = d) (w : World) :
    (Instr.slice 9 (.string ⟨s.toArray⟩) (some (.int .i64 (i : Int))) (some (.int .i64 (j : Int))) none).run Try.prog w = .ok (.string ⟨d.toArray⟩) w := by
  rw [run_slice_string (w := w) 9 ⟨s.toArray⟩ _ _ _ _ Try.underlying9 (by omega) (by omega) (by show (j : Int) ≤ (s.length : Int); omega)]
  have e : (⟨s.toArray⟩ : ByteArray).extract i j = ⟨d.toArray⟩ := by
    rw [← hd]
    apply ByteArray.ext
    simp [ByteArray.data_extract, List.drop_take]
  simp only [Int.toNat_natCast, e]
theorem infoRl : (Try.prog.info? 51).map (fun i => (i.zero, i.size, i.bytes)) = some (some (.agg #[.int .u8 0, .string ⟨#[]⟩]), 2, 24) := by kernel_rfl
/-- a slice just made, of one thing, is the call's own -/
theorem own_newL (w : World) (base : Nat) (hb : base ≤ w.heap.size) (t : TypeId) (x : Tl) : (w.alloc (.cells (tlV x).toArray t)).ownsRow base t 2 (.slice (some ⟨w.heap.size, 0, none⟩) 1 1) [x].length ([x].flatMap tlV) := by
  refine ⟨by simp [tlV], .inr ⟨w.heap.size, 1, (tlV x).toArray, rfl, hb, heap_alloc_new w _, by simp, by decide, by simp [tlV], by simp [tlV]⟩⟩
/-- what the document's Take does to bytes -/
def RT (s : List UInt8) (w : World) : Prop :=
  Calls Try.prog 28 #[.string ⟨s.toArray⟩] w fun e w' => ∃ A c, e = .returned (.tuple #[.slice A (tkX s).length c, .string ⟨(tkR s).toArray⟩, .int .i64 (tkErr s : Nat)]) ∧ Els 2 tlV w' A (tkX s) ∧ (A = none → c = 0) ∧ Below w.heap.size w w'
theorem rt_nil (w : World) : RT [] w := by
  have HN := Lib.hid (tk_none3 (s := []) tks_nil)
  unfold RT
  go_enter Try.func28, Try.ntmps28
  go_wp2
  go_ret3
  refine ⟨none, 0, ?_, ?_, fun _ => rfl, Below.refl _ _⟩
  · rw [HN.out.1, HN.out.2.1, HN.out.2.2]; rfl
  · rw [HN.out.1]; exact els_nilL _ _
set_option maxHeartbeats 1000000 in
theorem rt_zero (r : List UInt8) (w : World) : RT (0 :: r) w := by
  have HN := Lib.hid (tk_some3 (s := 0 :: r) (l := []) (q := r) (tks_zero r))
  obtain ⟨s, hs⟩ : ∃ s, 0 :: r = s := ⟨_, rfl⟩
  obtain ⟨S, hS⟩ : ∃ S : ByteArray, S = ⟨s.toArray⟩ := ⟨_, rfl⟩
  have hsz : 0 < S.size := by rw [hS, ← hs]; simp [ByteArray.size]
  have b0 : S[0]'hsz = 0 := by subst hS; rw [byteL]; rw [← hs]; rfl
  have hq : (s == []) = false := by rw [← hs]; rfl
  have hq2 : (S.toList == []) = false := by rw [hS, ByteArray.toList_eq]; exact hq
  have hc : ∀ w, (Instr.slice 9 (.string S) (some (.int .i64 1)) none none).run Try.prog w = .ok (.string ⟨r.toArray⟩) w := fun w => by rw [hS]; exact cut_end s r 1 (by rw [← hs]; simp) (by rw [← hs]; rfl) w
  rw [hs] at HN
  unfold RT
  rw [hs, ← hS]
  have HSS := Lib.hid hS
  clear hs hS
  go_enter Try.func28, Try.ntmps28
  go_wp2_with fail
  go_quiet (fail)
  go_wp2
  go_ret3
  refine ⟨none, 0, ?_, ?_, fun _ => rfl, ?_⟩
  · rw [HN.out.1, HN.out.2.1, HN.out.2.2]; rfl
  · rw [HN.out.1]; exact els_nilL _ _
  · exact ⟨rfl, rfl, rfl, Nat.le_refl _, fun _ _ => rfl⟩
set_option maxHeartbeats 1000000 in
theorem rt_few (x : UInt8) (r : List UInt8) (hx : x ≠ 0) (hr : r.length < 2) (w : World) : RT (x :: r) w := by
  have HN := Lib.hid (tk_none3 (tks2 hx hr))
  obtain ⟨s, hs⟩ : ∃ s, x :: r = s := ⟨_, rfl⟩
  obtain ⟨S, hS⟩ : ∃ S : ByteArray, S = ⟨s.toArray⟩ := ⟨_, rfl⟩
  have hsz : S.size = s.length := by rw [hS]; rfl
  have hsl : s.length = r.length + 1 := by rw [← hs]; rfl
  have hs0 : 0 < S.size := by omega
  have b0 : S[0]'hs0 = x := by subst hS; rw [byteL]; rw [← hs]; rfl
  have hq : (s == []) = false := by rw [← hs]; rfl
  have hq2 : (S.toList == []) = false := by rw [hS, ByteArray.toList_eq]; exact hq
  have d3 : (S.size : Int) < 3 := by omega
  have e0 : ((x.toNat : Int) == 0) = false := by
    have := tl_eqI x 0
    rw [show ((0 : UInt8).toNat : Int) = 0 from rfl] at this
    rw [this]; simpa using hx
  rw [hs] at HN
  unfold RT
  rw [hs, ← hS]
  have HSS := Lib.hid hS
  clear hs hS hx hsz hsl hr
  go_enter Try.func28, Try.ntmps28
  go_wp2
  go_ret3
  refine ⟨none, 0, ?_, ?_, fun _ => rfl, ?_⟩
  · rw [HN.out.1, HN.out.2.1, HN.out.2.2]; rfl
  · rw [HN.out.1]; exact els_nilL _ _
  · exact ⟨rfl, rfl, rfl, Nat.le_refl _, fun _ _ => rfl⟩
set_option maxHeartbeats 1000000 in
theorem rt_over (x a b : UInt8) (r : List UInt8) (hx : x ≠ 0) (hr : r.length < a.toNat * 256 + b.toNat) (hl : r.length ≤ 1000000) (w : World) : RT (x :: a :: b :: r) w := by
  have HN := Lib.hid (tk_none3 (s := x :: a :: b :: r) (by rw [tks3 hx, if_pos hr]))
  obtain ⟨s, hs⟩ : ∃ s, x :: a :: b :: r = s := ⟨_, rfl⟩
  obtain ⟨S, hS⟩ : ∃ S : ByteArray, S = ⟨s.toArray⟩ := ⟨_, rfl⟩
  have hsz : S.size = s.length := by rw [hS]; rfl
  have hsl : s.length = r.length + 3 := by rw [← hs]; rfl
  have hs0 : 0 < S.size := by omega
  have hs1 : 1 < S.size := by omega
  have hs2 : 2 < S.size := by omega
  have b0 : S[0]'hs0 = x := by subst hS; rw [byteL]; rw [← hs]; rfl
  have b1 : S[1]'hs1 = a := by subst hS; rw [byteL]; rw [← hs]; rfl
  have b2 : S[2]'hs2 = b := by subst hS; rw [byteL]; rw [← hs]; rfl
  have hq : (s == []) = false := by rw [← hs]; rfl
  have hq2 : (S.toList == []) = false := by rw [hS, ByteArray.toList_eq]; exact hq
  have d3 : ¬ (S.size : Int) < 3 := by omega
  have ha := a.toNat_lt
  have hb := b.toNat_lt
  obtain ⟨n, hn⟩ : ∃ n : Nat, a.toNat * 256 + b.toNat = n := ⟨_, rfl⟩
  have w1 : IntKind.i64.wrap (a.toNat : Int) = (a.toNat : Int) := IntWalk.i64_in _ (by omega)
  have w2 : IntKind.i64.wrap (b.toNat : Int) = (b.toNat : Int) := IntWalk.i64_in _ (by omega)
  have w3 : IntKind.i64.wrap ((a.toNat : Int) * 256) = (a.toNat : Int) * 256 := IntWalk.i64_in _ (by omega)
  have w4 : IntKind.i64.wrap ((a.toNat : Int) * 256 + (b.toNat : Int)) = (n : Int) := by rw [IntWalk.i64_in _ (by omega)]; omega
  have d4 : (S.size : Int) < 3 + (n : Int) := by omega
  have hn6 : n ≤ 65535 := by omega
  have e0 : ((x.toNat : Int) == 0) = false := by
    have := tl_eqI x 0
    rw [show ((0 : UInt8).toNat : Int) = 0 from rfl] at this
    rw [this]; simpa using hx
  rw [hs] at HN
  unfold RT
  rw [hs, ← hS]
  have HSS := Lib.hid hS
  clear hs hS hx hsz hsl hr ha hb hn
  go_enter Try.func28, Try.ntmps28
  go_wp2_with fail
  go_quiet (fail)
  go_wp2
  go_ret3
  refine ⟨none, 0, ?_, ?_, fun _ => rfl, ?_⟩
  · rw [HN.out.1, HN.out.2.1, HN.out.2.2]; rfl
  · rw [HN.out.1]; exact els_nilL _ _
  · exact ⟨rfl, rfl, rfl, Nat.le_refl _, fun _ _ => rfl⟩
set_option maxHeartbeats 4000000 in
theorem rt_rec (x a b : UInt8) (r : List UInt8) (hx : x ≠ 0) (hr : ¬ r.length < a.toNat * 256 + b.toNat) (hl : r.length ≤ 900000) (IH : ∀ w, RT (r.drop (a.toNat * 256 + b.toNat)) w) (w : World) : RT (x :: a :: b :: r) w := by
  have HM := Lib.hid (tk_more (s := x :: a :: b :: r) (x := ⟨x, r.take (a.toNat * 256 + b.toNat)⟩) (r := r.drop (a.toNat * 256 + b.toNat)) (by rw [tks3 hx, if_neg hr]))
  obtain ⟨s, hs⟩ : ∃ s, x :: a :: b :: r = s := ⟨_, rfl⟩
  obtain ⟨S, hS⟩ : ∃ S : ByteArray, S = ⟨s.toArray⟩ := ⟨_, rfl⟩
  have hsz : S.size = s.length := by rw [hS]; rfl
  have hsl : s.length = r.length + 3 := by rw [← hs]; rfl
  have hs0 : 0 < S.size := by omega
  have hs1 : 1 < S.size := by omega
  have hs2 : 2 < S.size := by omega
  have b0 : S[0]'hs0 = x := by subst hS; rw [byteL]; rw [← hs]; rfl
  have b1 : S[1]'hs1 = a := by subst hS; rw [byteL]; rw [← hs]; rfl
  have b2 : S[2]'hs2 = b := by subst hS; rw [byteL]; rw [← hs]; rfl
  have hq : (s == []) = false := by rw [← hs]; rfl
  have hq2 : (S.toList == []) = false := by rw [hS, ByteArray.toList_eq]; exact hq
  have d3 : ¬ (S.size : Int) < 3 := by omega
  have ha := a.toNat_lt
  have hb := b.toNat_lt
  obtain ⟨n, hn⟩ : ∃ n : Nat, a.toNat * 256 + b.toNat = n := ⟨_, rfl⟩
  have w1 : IntKind.i64.wrap (a.toNat : Int) = (a.toNat : Int) := IntWalk.i64_in _ (by omega)
  have w2 : IntKind.i64.wrap (b.toNat : Int) = (b.toNat : Int) := IntWalk.i64_in _ (by omega)
  have w3 : IntKind.i64.wrap ((a.toNat : Int) * 256) = (a.toNat : Int) * 256 := IntWalk.i64_in _ (by omega)
  have w4 : IntKind.i64.wrap ((a.toNat : Int) * 256 + (b.toNat : Int)) = (n : Int) := by rw [IntWalk.i64_in _ (by omega)]; omega
  have w5 : IntKind.i64.wrap (3 + (n : Int)) = 3 + (n : Int) := IntWalk.i64_in _ (by omega)
  have d4 : ¬ (S.size : Int) < 3 + (n : Int) := by omega
  rw [hn] at IH HM hr
  obtain ⟨V, hV⟩ : ∃ V, r.take n = V := ⟨_, rfl⟩
  obtain ⟨Z, hZ⟩ : ∃ Z, r.drop n = Z := ⟨_, rfl⟩
  rw [hV, hZ] at HM
  rw [hZ] at IH
  have HXL := Lib.hid (show (tkX Z).length ≤ 900000 by
    unfold tkX
    split
    · rename_i p hp
      have := (tks_back _ Z (Nat.le_refl _) p.1 p.2 hp).2.2
      have h2 : Z.length ≤ r.length := by rw [← hZ]; simp
      omega
    · simp)
  have KI := Lib.hid IH
  have c1 : ∀ w, (Instr.slice 9 (.string S) (some (.int .i64 (3 + (n : Int)))) none none).run Try.prog w = .ok (.string ⟨Z.toArray⟩) w := fun w => by
    rw [hS, show (3 + (n : Int)) = ((3 + n : Nat) : Int) by omega]
    exact cut_end s Z (3 + n) (by omega) (by rw [← hs, Nat.add_comm 3 n]; simp only [List.drop_succ_cons]; exact hZ) w
  have c2 : ∀ w, (Instr.slice 9 (.string S) (some (.int .i64 3)) (some (.int .i64 (3 + (n : Int)))) none).run Try.prog w = .ok (.string ⟨V.toArray⟩) w := fun w => by
    rw [hS, show (3 + (n : Int)) = ((3 + n : Nat) : Int) by omega]
    exact cut_mid s V 3 (3 + n) (by omega) (by omega) (by rw [← hs, Nat.add_comm 3 n]; simp only [List.take_succ_cons, List.drop_succ_cons, List.drop_zero]; exact hV) w
  have e0 : ((x.toNat : Int) == 0) = false := by
    have := tl_eqI x 0
    rw [show ((0 : UInt8).toNat : Int) = 0 from rfl] at this
    rw [this]; simpa using hx
  rw [hs] at HM
  unfold RT
  rw [hs, ← hS]
  have HSS := Lib.hid hS
  obtain ⟨i0, hi⟩ := info_parts infoRl
  have HIT := Lib.hid hi
  have hn6 : n ≤ 65535 := by omega
  have HW := Lib.hid (And.intro w1 (And.intro w2 (And.intro w3 w4)))
  clear hs hS hx hsz hsl hr ha hb hn hV hZ IH hi
  go_enter Try.func28, Try.ntmps28
  go_wp2_with fail
  go_quiet (fail)
  obtain ⟨w5', hw5⟩ : ∃ u, w.drewN nq = u := ⟨_, rfl⟩
  have HW0 : Hid (Below w.heap.size w w5') := Lib.hid (by rw [← hw5]; exact ⟨rfl, rfl, rfl, Nat.le_refl _, fun _ _ => rfl⟩)
  rw [hw5]
  clear hw5
  go_wp2_with fail
  refine (KI.out _).mono ?_
  rintro e v1 ⟨A, c, rfl, hE, hA, hb1⟩
  have HE := Lib.hid (And.intro hE hA)
  have HB1 : Hid (Below w.heap.size w v1) := Lib.hid (HW0.out.trans (hb1.mono HW0.out.size))
  have HER := Lib.hid (tkErr_or Z)
  obtain ⟨L, hL⟩ : ∃ L, tkX Z = L := ⟨_, rfl⟩
  obtain ⟨m, hm⟩ : ∃ m, L.length = m := ⟨_, rfl⟩
  obtain ⟨Y, hY⟩ : ∃ Y, tkR Z = Y := ⟨_, rfl⟩
  obtain ⟨E, hEr⟩ : ∃ E, tkErr Z = E := ⟨_, rfl⟩
  rw [hL] at HE HXL HM
  rw [hL, hm, hY, hEr]
  rw [hY] at HM
  rw [hEr] at HM HER
  have HLm := Lib.hid hm
  clear hE hA hb1 hL hY hEr hm KI
  by_cases h0 : E = 0
  · subst h0
    obtain ⟨hx1, hx2⟩ := HM.out.2.1 rfl
    have HXX := Lib.hid (And.intro HM.out.1 (And.intro hx1 hx2))
    have HBd : Hid (Below w.heap.size w v1.drew) := Lib.hid HB1.out.drew
    have HOn := Lib.hid (own_newL v1.drew w.heap.size HB1.out.size 51 ⟨x, V⟩)
    have HEd : Hid (Els 2 tlV (v1.drew.alloc (.cells #[.int .u8 x.toNat, .string ⟨V.toArray⟩] 51)) A L) := Lib.hid (HE.out.1.next (((Below.refl _ _).drew).alloc (Nat.le_refl _) _))
    have HAc := Lib.hid HE.out.2
    have HLL : Hid (1 + m ≤ 1000000) := Lib.hid (by have := HXL.out; have := HLm.out; omega)
    clear hx1 hx2 HE
    go_wp2_with fail
    go_region_law (refine step_appL rfl (.tmp 51) (.tmp 52) 22 rfl tlV_len tlV_one (by decide) w.heap.size 51 i0 _ 24 Try.underlying22 HIT.out rfl _ [⟨x, V⟩] (by simp [Act.eval, Act.put]) HOn.out A m c L HLm.out (by simp [Act.eval, Act.put]) HAc.out HEd.out (by rw [HLm.out]; exact HLL.out) (by decide) (by have := HB1.out.size; simp; omega) ?_; intro v5 w5 ho5 hg5 _; have HO5 := Lib.hid ho5; have HB5 : Hid (Below w.heap.size w w5) := Lib.hid ((HBd.out.alloc HBd.out.size _).grown hg5 (by have := HB1.out.size; simp; omega) (by intro k hk; have := (HOn.out.lt k hk).1; exact this)); clear ho5 hg5)
    all_goals (
      obtain ⟨B, d, hv, hE, _, hA, _⟩ := own_fullL tlV_len HO5.out
      subst hv
      have HE2 := Lib.hid (And.intro hE hA)
      clear hE hA HO5
      go_wp2
      go_ret3
      refine ⟨B, d, ?_, ?_, HE2.out.2, HB5.out⟩
      · rw [HXX.out.1, HXX.out.2.1, HXX.out.2.2]; rfl
      · rw [HXX.out.2.1]; exact HE2.out.1)
  · have e3 : ((E : Int) != 0) = true := by simpa using h0
    have HXX := Lib.hid (HM.out.2.2 h0)
    have hE3 : E = 3 := by rcases HER.out with h | h <;> omega
    clear h0
    go_wp2
    go_ret3
    refine ⟨none, 0, ?_, ?_, fun _ => rfl, HB1.out⟩
    · rw [HXX.out.1, HXX.out.2.1, HXX.out.2.2]; rfl
    · rw [HXX.out.1]; exact els_nilL _ _
theorem reftake11_any : ∀ (n : Nat) (s : List UInt8), s.length ≤ n → s.length ≤ 900000 → ∀ w, RT s w := by
  intro n
  induction n with
  | zero =>
    intro s h _ w
    obtain rfl : s = [] := List.eq_nil_of_length_eq_zero (by omega)
    exact rt_nil w
  | succ n ih =>
    intro s h hl w
    match s with
    | [] => exact rt_nil w
    | x :: r =>
      by_cases hx : x = 0
      · subst hx; exact rt_zero r w
      · match r with
        | [] => exact rt_few x _ hx (by simp) w
        | [a] => exact rt_few x _ hx (by simp) w
        | a :: b :: r =>
          simp only [List.length_cons] at h hl
          by_cases hr : r.length < a.toNat * 256 + b.toNat
          · exact rt_over x a b r hx hr (by omega) w
          · exact rt_rec x a b r hx hr (by omega) (fun w => ih _ (by simp; omega) (by simp; omega) w) w
end Go.Proofs.Ytjilolehcboihaa
