/- Layer 12: the law's Of, Same, great. -/
import Derived.Test.YtieopgmmjpmflaaCfTk
import Derived.Deep.RegionLaw
import Derived.BigQuiet
import Derived.Deep.QuietTactic
namespace Go.Proofs.Ytieopgmmjpmflaa
open Go.RowKit
set_option linter.unusedVariables false
set_option linter.unusedSimpArgs false
set_option maxRecDepth 100000

theorem tl_snoc12 {l : List Tl} {k : Nat} {x : Tl} (hx : l[k]? = some x) : l.take (k + 1) = l.take k ++ [x] := by
  obtain ⟨hk, he⟩ := List.getElem?_eq_some_iff.1 hx
  rw [List.take_succ_eq_append_getElem hk, he]
/-- more than 400 bytes, more than 20 things, or a value of more than 2,000 bytes -/
def pdG (p : Pd) : Bool := decide (400 < p.x.length) || decide (20 < p.t.length) || p.t.any (fun x => decide (2000 < x.v.length))
theorem pdG_no {p : Pd} (h : pdG p = false) : p.x.length ≤ 400 ∧ p.t.length ≤ 20 ∧ ∀ x ∈ p.t, x.v.length ≤ 2000 := by
  unfold pdG at h
  simp only [Bool.or_eq_false_iff, decide_eq_false_iff_not, List.any_eq_false, decide_eq_true_eq] at h
  exact ⟨by omega, by omega, fun x hx => by have := h.2 x hx; omega⟩
set_option maxHeartbeats 2000000 in
theorem same12_any (A B : Option Addr) (c d : Nat) (p : Pd) (w : World) (hE : Els 2 tlV w A p.t) (hF : Els 2 tlV w B p.t) (hl : p.t.length ≤ 1000000) :
    Calls Try.prog 11 #[PdV p A c, PdV p B d] w fun e w' => e = .returned (.bool true) ∧ Below w.heap.size w w' := by
  obtain ⟨P1, P2, P3, X, L⟩ := p
  simp only at hE hF hl
  have HEA := Lib.hid hE
  have HFA := Lib.hid hF
  show Calls _ _ #[.agg #[.int .u8 P1.toNat, .int .u8 P2.toNat, .int .u8 P3.toNat, .string ⟨X.toArray⟩, .slice A L.length c], .agg #[.int .u8 P1.toNat, .int .u8 P2.toNat, .int .u8 P3.toNat, .string ⟨X.toArray⟩, .slice B L.length d]] _ _
  obtain ⟨n, hn⟩ : ∃ n, L.length = n := ⟨_, rfl⟩
  have HN := Lib.hid hn
  rw [hn]
  rw [hn] at hl
  have HB0 : Hid (Below w.heap.size w ((w.alloc (.cells #[.int .u8 P1.toNat, .int .u8 P2.toNat, .int .u8 P3.toNat, .string ⟨X.toArray⟩, .slice A n c] 31)).alloc (.cells #[.int .u8 P1.toNat, .int .u8 P2.toNat, .int .u8 P3.toNat, .string ⟨X.toArray⟩, .slice B n d] 31))) := Lib.hid (((Below.refl _ _).alloc (Nat.le_refl _) _).alloc (by simp) _)
  have HE := Lib.hid (HEA.out.next HB0.out)
  have HF := Lib.hid (HFA.out.next HB0.out)
  have HK0 : Hid (Blk ((w.alloc (.cells #[.int .u8 P1.toNat, .int .u8 P2.toNat, .int .u8 P3.toNat, .string ⟨X.toArray⟩, .slice A n c] 31)).alloc (.cells #[.int .u8 P1.toNat, .int .u8 P2.toNat, .int .u8 P3.toNat, .string ⟨X.toArray⟩, .slice B n d] 31)) w.heap.size 31 #[.int .u8 P1.toNat, .int .u8 P2.toNat, .int .u8 P3.toNat, .string ⟨X.toArray⟩, .slice A n c]) := Lib.hid ((Blk.new w _ _).alloc _)
  have HK1 : Hid (Blk ((w.alloc (.cells #[.int .u8 P1.toNat, .int .u8 P2.toNat, .int .u8 P3.toNat, .string ⟨X.toArray⟩, .slice A n c] 31)).alloc (.cells #[.int .u8 P1.toNat, .int .u8 P2.toNat, .int .u8 P3.toNat, .string ⟨X.toArray⟩, .slice B n d] 31)) (w.heap.size + 1) 31 #[.int .u8 P1.toNat, .int .u8 P2.toNat, .int .u8 P3.toNat, .string ⟨X.toArray⟩, .slice B n d]) := Lib.hid (by
    have := Blk.new (w.alloc (.cells #[.int .u8 P1.toNat, .int .u8 P2.toNat, .int .u8 P3.toNat, .string ⟨X.toArray⟩, .slice A n c] 31)) 31 #[.int .u8 P1.toNat, .int .u8 P2.toNat, .int .u8 P3.toNat, .string ⟨X.toArray⟩, .slice B n d]
    simpa using this)
  clear hE hF hn
  go_enter Try.func11, Try.ntmps11
  go_wp2
  obtain ⟨w0, hw0⟩ : ∃ w0, ((w.alloc (.cells #[.int .u8 P1.toNat, .int .u8 P2.toNat, .int .u8 P3.toNat, .string ⟨X.toArray⟩, .slice A n c] 31)).alloc (.cells #[.int .u8 P1.toNat, .int .u8 P2.toNat, .int .u8 P3.toNat, .string ⟨X.toArray⟩, .slice B n d] 31)) = w0 := ⟨_, rfl⟩
  rw [hw0] at HB0 HE HF HK0 HK1
  try rw [hw0]
  clear hw0 HEA HFA
  go_loopw [5] (fun i wr => ∃ k : Nat, k ≤ n ∧ i = .int .i64 k ∧ Hid (Below w0.heap.size w0 wr)) (fun i _ => n - (intOf i).toNat)
  case atStart => exact ⟨0, Nat.zero_le _, rfl, Lib.hid (Below.refl _ _)⟩
  case round =>
    obtain ⟨k, hk, rfl, HB⟩ := hrel
    have k4 := (HK0.out.below HB.out HK0.out.lt).cell 4
    have j4 := (HK1.out.below HB.out HK1.out.lt).cell 4
    simp only [List.getElem?_toArray, List.getElem?_cons_succ, List.getElem?_cons_zero] at k4 j4
    by_cases hlt : k < n
    · obtain ⟨x, hx⟩ : ∃ x, L[k]? = some x := ⟨_, List.getElem?_eq_getElem (by rw [HN.out]; exact hlt)⟩
      obtain ⟨b, off, rfl, hb, c0, c1⟩ := tl_at (HE.out.next HB.out) hx
      obtain ⟨b', off', rfl, hb', d0, d1⟩ := tl_at (HF.out.next HB.out) hx
      have hki : (k : Int) < n := by omega
      have q := fun w => run_eqTl x x w
      simp only [decide_true] at q
      clear hx hb hb'
      go_wp2_with fail
      go_quiet (fail)
      go_wp2
      go_roundw
      case rel => exact ⟨k + 1, by omega, by go_num, Lib.hid ⟨HB.out.os, HB.out.tape, HB.out.output, HB.out.size, HB.out.block⟩⟩
      case measure => simp [intOf]; omega
    · obtain rfl : k = n := by omega
      go_wp2
      go_ret
      exact ⟨rfl, HB0.out.trans (HB.out.mono HB0.out.size)⟩
/-- one result: a struct in memory -/
theorem results_cell_one {P : Program} {fn : Func} {p : Tmp} {ty : TypeId} (h : fn.results = #[.cell p ty]) (tmps : Array Value) (w : World) (g : Nat) (t : TypeId) (cs : Array Value) (d : TypeDesc)
    (hp : tmps.getD p undef = .pointer (some ⟨g, 0, none⟩)) (hg : Blk w g t cs)
    (hu : P.underlying ty = some d) (hd : (match d with | .struct _ | .array _ _ => true | _ => false) = true) (hi : (P.info? ty).map (·.size) = some cs.size) :
    (results fn tmps).run P w = .ok (.agg cs) w := by
  have hp' : tmps[p]?.getD undef = .pointer (some ⟨g, 0, none⟩) := by simpa using hp
  simp [results, h, hp', asAddr, run_loadVar_row w g t ty cs (0, 0) d hg hu hd hi]
set_option maxHeartbeats 2000000 in
theorem of12_own (A : Option Addr) (c : Nat) (p : Pd) (w : World) (hE : Els 2 tlV w A p.t) (hl : p.t.length ≤ 1000000) :
    Calls Try.prog 12 #[PdV p A c] w fun e w' => ∃ B d, e = .returned (PdV p B d) ∧ Els 2 tlV w' B p.t ∧ (B = none → d = 0) ∧ Below w.heap.size w w' ∧ (∀ a, B = some a → w.heap.size ≤ a.block) ∧ (0 < p.t.length → ∃ g cs, B = some ⟨g, 0, none⟩ ∧ Blk w' g 69 cs) := by
  obtain ⟨P1, P2, P3, X, L⟩ := p
  simp only at hE hl
  simp only
  have HEA := Lib.hid hE
  show Calls _ _ #[.agg #[.int .u8 P1.toNat, .int .u8 P2.toNat, .int .u8 P3.toNat, .string ⟨X.toArray⟩, .slice A L.length c]] _ _
  obtain ⟨n, hn⟩ : ∃ n, L.length = n := ⟨_, rfl⟩
  have HN := Lib.hid hn
  obtain ⟨i0, hi⟩ := info_parts infoTl
  have HIT := Lib.hid hi
  rw [hn]
  rw [hn] at hl
  have HLN := Lib.hid hl
  have HB0 : Hid (Below w.heap.size w ((w.alloc (.cells #[.int .u8 P1.toNat, .int .u8 P2.toNat, .int .u8 P3.toNat, .string ⟨X.toArray⟩, .slice A n c] 39)).alloc (.cells #[.int .u8 0, .int .u8 0, .int .u8 0, .string ⟨#[]⟩, .slice none 0 0] 31))) := Lib.hid (((Below.refl _ _).alloc (Nat.le_refl _) _).alloc (by simp) _)
  have HE := Lib.hid (HEA.out.next HB0.out)
  have HK0 : Hid (Blk ((w.alloc (.cells #[.int .u8 P1.toNat, .int .u8 P2.toNat, .int .u8 P3.toNat, .string ⟨X.toArray⟩, .slice A n c] 39)).alloc (.cells #[.int .u8 0, .int .u8 0, .int .u8 0, .string ⟨#[]⟩, .slice none 0 0] 31)) w.heap.size 39 #[.int .u8 P1.toNat, .int .u8 P2.toNat, .int .u8 P3.toNat, .string ⟨X.toArray⟩, .slice A n c]) := Lib.hid ((Blk.new w _ _).alloc _)
  have HK1 : Hid (Blk ((w.alloc (.cells #[.int .u8 P1.toNat, .int .u8 P2.toNat, .int .u8 P3.toNat, .string ⟨X.toArray⟩, .slice A n c] 39)).alloc (.cells #[.int .u8 0, .int .u8 0, .int .u8 0, .string ⟨#[]⟩, .slice none 0 0] 31)) (w.heap.size + 1) 31 #[.int .u8 0, .int .u8 0, .int .u8 0, .string ⟨#[]⟩, .slice none 0 0]) := Lib.hid (by
    have := Blk.new (w.alloc (.cells #[.int .u8 P1.toNat, .int .u8 P2.toNat, .int .u8 P3.toNat, .string ⟨X.toArray⟩, .slice A n c] 39)) 31 #[.int .u8 0, .int .u8 0, .int .u8 0, .string ⟨#[]⟩, .slice none 0 0]
    simpa using this)
  clear hE hn hi
  go_enter Try.func12, Try.ntmps12
  go_wp2
  obtain ⟨w0, hw0⟩ : ∃ w0, ((w.alloc (.cells #[.int .u8 P1.toNat, .int .u8 P2.toNat, .int .u8 P3.toNat, .string ⟨X.toArray⟩, .slice A n c] 39)).alloc (.cells #[.int .u8 0, .int .u8 0, .int .u8 0, .string ⟨#[]⟩, .slice none 0 0] 31)) = w0 := ⟨_, rfl⟩
  rw [hw0] at HB0 HE HK0 HK1
  try rw [hw0]
  clear hw0 HEA
  go_loopw [3, 4] (fun v i wr => ∃ k : Nat, k ≤ n ∧ i = .int .i64 k ∧ Hid (wr.ownsRow w0.heap.size 69 2 v (L.take k).length ((L.take k).flatMap tlV)) ∧ Hid (Below w0.heap.size w0 wr)) (fun _ i _ => n - (intOf i).toNat)
  case atStart => exact ⟨0, Nat.zero_le _, rfl, Lib.hid (by simp only [List.take_zero]; exact World.ownsRow_nil _ _ _ _), Lib.hid (Below.refl _ _)⟩
  case round =>
    obtain ⟨k, hk, rfl, HO, HB⟩ := hrel
    have k4 := (HK0.out.below HB.out HK0.out.lt).cell 4
    simp only [List.getElem?_toArray, List.getElem?_cons_succ, List.getElem?_cons_zero] at k4
    by_cases hlt : k < n
    · obtain ⟨x, hx⟩ : ∃ x, L[k]? = some x := ⟨_, List.getElem?_eq_getElem (by rw [HN.out]; exact hlt)⟩
      obtain ⟨b, off, rfl, hb, c0, c1⟩ := tl_at (HE.out.next HB.out) hx
      have hki : (k : Int) < n := by omega
      have HX := Lib.hid (tl_snoc12 hx)
      obtain ⟨m, hm⟩ : ∃ m, L.take k = m := ⟨_, rfl⟩
      have hml : m.length ≤ 999999 := by rw [← hm, List.length_take]; omega
      rw [hm] at HO HX
      have HOd : Hid (wr.drew.ownsRow w0.heap.size 69 2 _ m.length (m.flatMap tlV)) := Lib.hid HO.out
      have HBd : Hid (Below w0.heap.size w0 wr.drew) := Lib.hid HB.out.drew
      have HML : Hid (m.length + 1 ≤ 1000000) := Lib.hid (by omega)
      clear hx hb hm hml HO
      go_wp2_with fail
      go_region_law (refine step_appL rfl (.tmp 12) (.tmp 26) 29 rfl tlV_len tlV_one (by decide) w0.heap.size 69 i0 _ 24 Try.underlying29 HIT.out rfl _ m (by simp [Act.eval, Act.put]) (World.ownsRow.alloc HOd.out _) (some ⟨wr.heap.size, 0, none⟩) 1 1 [x] rfl (by simp [Act.eval, Act.put]) (fun e => by cases e) (els_oneL _ _ x _ rfl) HML.out (by decide) (by have := HB.out.size; simp; omega) ?_; intro v5 w5 ho5 hg5 _; have HO5 := Lib.hid ho5; have HB5 : Hid (Below w0.heap.size w0 w5) := Lib.hid ((HBd.out.alloc HBd.out.size _).grown hg5 (by have := HB.out.size; simp; omega) (fun k hk => (HOd.out.lt k hk).1)); clear ho5 hg5)
      all_goals (
        rw [← HX.out] at HO5
        go_wp2
        go_roundw
        case rel => exact ⟨k + 1, by omega, by go_num, HO5, HB5⟩
        case measure => simp [intOf]; omega)
    · obtain rfl : k = n := by omega
      have htk : L.take k = L := List.take_of_length_le (by rw [HN.out]; omega)
      rw [htk] at HO
      have HKa := Lib.hid (HK0.out.below HB.out HK0.out.lt)
      have HKb := Lib.hid (HK1.out.below HB.out HK1.out.lt)
      have k0 := HKa.out.cell 0
      have k1 := HKa.out.cell 1
      have k2 := HKa.out.cell 2
      have k3 := HKa.out.cell 3
      simp only [List.getElem?_toArray, List.getElem?_cons_succ, List.getElem?_cons_zero] at k0 k1 k2 k3
      have HOW := Lib.hid HO.out
      obtain ⟨B, d, hv, hE, _, hA, hO⟩ := own_fullL tlV_len HO.out
      have HOB : Hid (0 < L.length → ∃ g cs, B = some ⟨g, 0, none⟩ ∧ Blk wr g 69 cs) := Lib.hid (fun h0 => by
        rcases HOW.out.2 with ⟨e, hn0⟩ | ⟨g, cap, cur, e, _, hg, _⟩
        · omega
        · rw [hv] at e
          injection e with e1 e2 e3
          exact ⟨g, cur, e1, hg⟩)
      subst hv
      rw [HN.out]
      have HE2 := Lib.hid (And.intro hE (And.intro hA hO))
      clear HOW
      have HBW := Lib.hid (HB0.out.trans (HB.out.mono HB0.out.size))
      have HLT := Lib.hid HK1.out.lt
      clear hE hA htk HO hO
      go_wp2_with (refine wpList_store_row rfl 31 (.tmp 2) (.tmp 37) rfl (w.heap.size + 1) rfl _ rfl 31 _ HKb.out (by kernel_rfl) rfl (by kernel_rfl) ?_)
      refine bodyPost_ret (v := .agg #[.int .u8 P1.toNat, .int .u8 P2.toNat, .int .u8 P3.toNat, .string ⟨X.toArray⟩, .slice B k d]) (results_cell_one (p := 2) (by kernel_rfl) _ _ (w.heap.size + 1) 31 _ _ rfl (Blk.row HKb.out _) Try.underlying31 rfl (by kernel_rfl)) rfl ?_
      refine ⟨B, d, ?_, ?_, HE2.out.2.1, ?_, fun a ha => by have h1 := (HE2.out.2.2 a ha).1; have h2 := HB0.out.size; omega, fun h0 => ?_⟩
      · show _ = Ending.returned (.agg #[.int .u8 P1.toNat, .int .u8 P2.toNat, .int .u8 P3.toNat, .string ⟨X.toArray⟩, .slice B L.length d])
        rw [HN.out]
      · exact els_row HE2.out.1 HKb.out trivial (fun a ha => by have h1 := (HE2.out.2.2 a ha).1; have h2 := HLT.out; omega)
      · exact below_row HBW.out (by omega) _
      · obtain ⟨g, cs, e, hb⟩ := HOB.out (by first | exact h0 | (rw [HN.out]; exact h0))
        exact ⟨g, cs, e, hb.rowFar (by have h1 := (HE2.out.2.2 _ e).1; have h2 := HLT.out; show g ≠ w.heap.size + 1; simp only at h1; omega) _⟩
theorem of12_any (A : Option Addr) (c : Nat) (p : Pd) (w : World) (hE : Els 2 tlV w A p.t) (hl : p.t.length ≤ 1000000) :
    Calls Try.prog 12 #[PdV p A c] w fun e w' => ∃ B d, e = .returned (PdV p B d) ∧ Els 2 tlV w' B p.t ∧ (B = none → d = 0) ∧ Below w.heap.size w w' :=
  (of12_own A c p w hE hl).mono fun e w' ⟨B, d, h1, h2, h3, h4, _, _⟩ => ⟨B, d, h1, h2, h3, h4⟩
end Go.Proofs.Ytieopgmmjpmflaa
