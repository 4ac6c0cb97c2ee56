/- Layer 11: the law's of, same, great; the document's Find. -/
import Derived.Test.YtndmjhjicagamaaTlFind
import Derived.Deep.RegionLaw
import Derived.BigQuiet
import Derived.Deep.QuietTactic
namespace Go.Proofs.Ytndmjhjicagamaa
open Go.RowKit
set_option linter.unusedVariables false
set_option linter.unusedSimpArgs false
set_option maxRecDepth 100000

theorem tl_take_snoc {l : List Tl} {k : Nat} {x : Tl} (hx : l[k]? = some x) : l.take (k + 1) = l.take k ++ [x] := by
  obtain ⟨hk, he⟩ := List.getElem?_eq_some_iff.1 hx
  rw [List.take_succ_eq_append_getElem hk, he]
set_option maxHeartbeats 1000000 in
theorem reffind_any (A : Option Addr) (c : Nat) (l : List Tl) (q : UInt8) (w : World) (hE : Els 2 tlV w A l) (hl : l.length ≤ 1000000) :
    Calls Try.prog 12 #[.slice A l.length c, .int .u8 q.toNat] w fun e w' => e = .returned (.tuple #[.string ⟨(tlFv l q).toArray⟩, .bool (tlFb l q)]) ∧ w = w' := by
  have HE := Lib.hid hE
  obtain ⟨n, hn⟩ : ∃ n, l.length = n := ⟨_, rfl⟩
  have HN := Lib.hid hn
  rw [hn]
  rw [hn] at hl
  clear hE hn
  go_enter Try.func12, Try.ntmps12
  go_wp2
  go_loop [6] (fun i => ∃ k : Nat, k ≤ n ∧ i = .int .i64 k ∧ Hid (∀ y ∈ l.take k, y.k ≠ q)) (fun i => n - (intOf i).toNat)
  case atStart => exact ⟨0, Nat.zero_le _, rfl, Lib.hid (by intro y hy; simp at hy)⟩
  case round =>
    obtain ⟨k, hk, rfl, HZ⟩ := hrel
    by_cases hlt : k < n
    · obtain ⟨x, hx⟩ : ∃ x, l[k]? = some x := ⟨_, List.getElem?_eq_getElem (by rw [HN.out]; exact hlt)⟩
      obtain ⟨b, off, rfl, hb, c0, c1⟩ := tl_at HE.out hx
      have hki : (k : Int) < n := by omega
      have HX := Lib.hid hx
      clear hx hb
      by_cases h0 : x.k = q
      · have e0 : ((x.k.toNat : Int) == (q.toNat : Int)) = true := by rw [tl_eqI]; simpa using h0
        have HF : Hid (tlFv l q = x.v ∧ tlFb l q = true) := Lib.hid (by unfold tlFv tlFb; rw [tlF_hit HX.out HZ.out h0]; exact ⟨rfl, rfl⟩)
        clear h0
        go_wp2
        go_ret2
        exact ⟨by rw [HF.out.1, HF.out.2]; rfl, rfl⟩
      · have e0 : ((x.k.toNat : Int) == (q.toNat : Int)) = false := by rw [tl_eqI]; simpa using h0
        have HZ1 := Lib.hid (tl_take_all HX.out HZ.out h0)
        clear h0
        go_wp2
        go_round
        case rel => exact ⟨k + 1, by omega, by go_num, HZ1⟩
        case measure => simp [intOf]; omega
    · obtain rfl : k = n := by omega
      have htk : l.take k = l := List.take_of_length_le (by rw [HN.out]; omega)
      have HF : Hid (tlFv l q = [] ∧ tlFb l q = false) := Lib.hid (by
        have h0 := HZ.out
        rw [htk] at h0
        unfold tlFv tlFb
        rw [tlF_none h0]
        exact ⟨rfl, rfl⟩)
      clear htk
      go_wp2
      go_ret2
      exact ⟨by rw [HF.out.1, HF.out.2]; rfl, rfl⟩
/-- more than 30 things, or a value of more than 2,000 bytes -/
def tlG (l : List Tl) : Bool := decide (30 < l.length) || l.any (fun x => decide (2000 < x.v.length))
theorem tlG_no {l : List Tl} (h : tlG l = false) : l.length ≤ 30 ∧ ∀ x ∈ l, x.v.length ≤ 2000 := by
  unfold tlG at h
  simp only [Bool.or_eq_false_iff, decide_eq_false_iff_not, List.any_eq_false, decide_eq_true_eq] at h
  exact ⟨by omega, fun x hx => by have := h.2 x hx; omega⟩
set_option maxHeartbeats 1000000 in
theorem great_any (A : Option Addr) (c : Nat) (l : List Tl) (w : World) (hE : Els 2 tlV w A l) :
    Calls Try.prog 6 #[.slice A l.length c] w fun e w' => e = .returned (.bool (tlG l)) ∧ w = w' := by
  have HE := Lib.hid hE
  obtain ⟨n, hn⟩ : ∃ n, l.length = n := ⟨_, rfl⟩
  have HN := Lib.hid hn
  rw [hn]
  clear hE hn
  by_cases h30 : 30 < n
  · have d30 : (30 : Int) < (n : Int) := by omega
    have HG : Hid (tlG l = true) := Lib.hid (by unfold tlG; rw [HN.out]; simp [h30])
    clear h30
    go_enter Try.func6, Try.ntmps6
    go_wp2
    go_ret
    exact ⟨by rw [HG.out]; rfl, rfl⟩
  · have d30 : ¬ (30 : Int) < (n : Int) := by omega
    have H30 := Lib.hid h30
    clear h30
    go_enter Try.func6, Try.ntmps6
    go_wp2
    go_loop [3] (fun i => ∃ k : Nat, k ≤ n ∧ i = .int .i64 k ∧ Hid (∀ y ∈ l.take k, y.v.length ≤ 2000)) (fun i => n - (intOf i).toNat)
    case atStart => exact ⟨0, Nat.zero_le _, rfl, Lib.hid (by intro y hy; simp at hy)⟩
    case round =>
      obtain ⟨k, hk, rfl, HZ⟩ := hrel
      by_cases hlt : k < n
      · obtain ⟨x, hx⟩ : ∃ x, l[k]? = some x := ⟨_, List.getElem?_eq_getElem (by rw [HN.out]; exact hlt)⟩
        obtain ⟨b, off, rfl, hb, c0, c1⟩ := tl_at HE.out hx
        have hki : (k : Int) < n := by omega
        have HX := Lib.hid hx
        have HM := Lib.hid (List.mem_of_getElem? hx)
        clear hx hb
        by_cases h0 : 2000 < x.v.length
        · have d0 : (2000 : Int) < (x.v.length : Int) := by omega
          have HG : Hid (tlG l = true) := Lib.hid (by
            unfold tlG
            rw [Bool.or_eq_true]
            exact .inr (List.any_eq_true.2 ⟨x, HM.out, by simpa using h0⟩))
          clear h0
          go_wp2
          go_ret
          exact ⟨by rw [HG.out]; rfl, rfl⟩
        · have d0 : ¬ (2000 : Int) < (x.v.length : Int) := by omega
          have HZ1 : Hid (∀ y ∈ l.take (k + 1), y.v.length ≤ 2000) := Lib.hid (by
            intro y hy
            rw [tl_take_snoc HX.out] at hy
            rcases List.mem_append.1 hy with hy | hy
            · exact HZ.out y hy
            · rw [List.mem_singleton.1 hy]; omega)
          clear h0
          go_wp2
          go_round
          case rel => exact ⟨k + 1, by omega, by go_num, HZ1⟩
          case measure => simp [intOf]; omega
      · obtain rfl : k = n := by omega
        have htk : l.take k = l := List.take_of_length_le (by rw [HN.out]; omega)
        have HG : Hid (tlG l = false) := Lib.hid (by
          have h0 := HZ.out
          rw [htk] at h0
          unfold tlG
          have := H30.out
          rw [HN.out]
          simp only [Bool.or_eq_false_iff, decide_eq_false_iff_not, List.any_eq_false, decide_eq_true_eq]
          exact ⟨this, fun x hx => by have := h0 x hx; omega⟩)
        clear htk
        go_wp2
        go_ret
        exact ⟨by rw [HG.out]; rfl, rfl⟩
set_option maxHeartbeats 2000000 in
theorem same_any (A B : Option Addr) (c d : Nat) (l : List Tl) (w : World) (hE : Els 2 tlV w A l) (hF : Els 2 tlV w B l) (hl : l.length ≤ 1000000) :
    Calls Try.prog 15 #[.slice A l.length c, .slice B l.length d] w fun e w' => e = .returned (.bool true) ∧ Below w.heap.size w w' := by
  have HE := Lib.hid hE
  have HF := Lib.hid hF
  obtain ⟨n, hn⟩ : ∃ n, l.length = n := ⟨_, rfl⟩
  have HN := Lib.hid hn
  rw [hn]
  rw [hn] at hl
  clear hE hF hn
  go_enter Try.func15, Try.ntmps15
  go_wp2
  go_loopw [5] (fun i wr => ∃ k : Nat, k ≤ n ∧ i = .int .i64 k ∧ Hid (Below w.heap.size w wr)) (fun i _ => n - (intOf i).toNat)
  case atStart => exact ⟨0, Nat.zero_le _, rfl, Lib.hid (Below.refl _ _)⟩
  case round =>
    obtain ⟨k, hk, rfl, HB⟩ := hrel
    by_cases hlt : k < n
    · obtain ⟨x, hx⟩ : ∃ x, l[k]? = some x := ⟨_, List.getElem?_eq_getElem (by rw [HN.out]; exact hlt)⟩
      obtain ⟨b, off, rfl, hb, c0, c1⟩ := tl_at (HE.out.next HB.out) hx
      obtain ⟨b', off', rfl, hb', d0, d1⟩ := tl_at (HF.out.next HB.out) hx
      have hki : (k : Int) < n := by omega
      have q := fun w => run_eqTl x x w
      simp only [decide_true] at q
      clear hx hb hb'
      go_wp2_with fail
      go_quiet (fail)
      go_wp2
      go_roundw
      case rel => exact ⟨k + 1, by omega, by go_num, Lib.hid ⟨HB.out.os, HB.out.tape, HB.out.output, HB.out.size, HB.out.block⟩⟩
      case measure => simp [intOf]; omega
    · obtain rfl : k = n := by omega
      go_wp2
      go_ret
      exact ⟨rfl, HB.out⟩
set_option maxHeartbeats 2000000 in
theorem of11_any (A : Option Addr) (c : Nat) (l : List Tl) (w : World) (hE : Els 2 tlV w A l) (hl : l.length ≤ 1000000) :
    Calls Try.prog 9 #[.slice A l.length c] w fun e w' => ∃ B d, e = .returned (.slice B l.length d) ∧ Els 2 tlV w' B l ∧ (B = none → d = 0) ∧ Below w.heap.size w w' := by
  have HE := Lib.hid hE
  obtain ⟨n, hn⟩ : ∃ n, l.length = n := ⟨_, rfl⟩
  have HN := Lib.hid hn
  obtain ⟨i0, hi⟩ := info_parts infoTl
  have HIT := Lib.hid hi
  rw [hn]
  rw [hn] at hl
  have HLN := Lib.hid hl
  clear hE hn hi
  go_enter Try.func9, Try.ntmps9
  go_wp2
  go_loopw [3, 4] (fun v i wr => ∃ k : Nat, k ≤ n ∧ i = .int .i64 k ∧ Hid (wr.ownsRow w.heap.size 44 2 v (l.take k).length ((l.take k).flatMap tlV)) ∧ Hid (Below w.heap.size w wr)) (fun _ i _ => n - (intOf i).toNat)
  case atStart => exact ⟨0, Nat.zero_le _, rfl, Lib.hid (by simp only [List.take_zero]; exact World.ownsRow_nil _ _ _ _), Lib.hid (Below.refl _ _)⟩
  case round =>
    obtain ⟨k, hk, rfl, HO, HB⟩ := hrel
    by_cases hlt : k < n
    · obtain ⟨x, hx⟩ : ∃ x, l[k]? = some x := ⟨_, List.getElem?_eq_getElem (by rw [HN.out]; exact hlt)⟩
      obtain ⟨b, off, rfl, hb, c0, c1⟩ := tl_at (HE.out.next HB.out) hx
      have hki : (k : Int) < n := by omega
      have HX := Lib.hid (tl_take_snoc hx)
      obtain ⟨m, hm⟩ : ∃ m, l.take k = m := ⟨_, rfl⟩
      have hml : m.length ≤ 999999 := by rw [← hm, List.length_take]; omega
      rw [hm] at HO HX
      have HOd : Hid (wr.drew.ownsRow w.heap.size 44 2 _ m.length (m.flatMap tlV)) := Lib.hid HO.out
      have HBd : Hid (Below w.heap.size w wr.drew) := Lib.hid HB.out.drew
      have HML : Hid (m.length + 1 ≤ 1000000) := Lib.hid (by omega)
      clear hx hb hm hml HO
      go_wp2_with fail
      go_region_law (refine step_appL rfl (.tmp 11) (.tmp 23) 28 rfl tlV_len tlV_one (by decide) w.heap.size 44 i0 _ 24 Try.underlying28 HIT.out rfl _ m (by simp [Act.eval, Act.put]) (World.ownsRow.alloc HOd.out _) (some ⟨wr.heap.size, 0, none⟩) 1 1 [x] rfl (by simp [Act.eval, Act.put]) (fun e => by cases e) (els_oneL _ _ x _ rfl) HML.out (by decide) (by have := HB.out.size; simp; omega) ?_; intro v5 w5 ho5 hg5 _; have HO5 := Lib.hid ho5; have HB5 : Hid (Below w.heap.size w w5) := Lib.hid ((HBd.out.alloc HBd.out.size _).grown hg5 (by have := HB.out.size; simp; omega) (fun k hk => (HOd.out.lt k hk).1)); clear ho5 hg5)
      all_goals (
        rw [← HX.out] at HO5
        go_wp2
        go_roundw
        case rel => exact ⟨k + 1, by omega, by go_num, HO5, HB5⟩
        case measure => simp [intOf]; omega)
    · obtain rfl : k = n := by omega
      have htk : l.take k = l := List.take_of_length_le (by rw [HN.out]; omega)
      rw [htk] at HO
      obtain ⟨B, d, hv, hE, _, hA, _⟩ := own_fullL tlV_len HO.out
      subst hv
      have HE2 := Lib.hid (And.intro hE hA)
      clear hE hA htk HO
      go_wp2
      go_ret
      exact ⟨B, d, by rw [HN.out]; rfl, HE2.out.1, HE2.out.2, HB.out⟩
end Go.Proofs.Ytndmjhjicagamaa
