/- VectorLeast: the least path of a row is what the document says: for any row of paths, without a condition. -/
import Derived.Test.YtbcdkpjfenedmaaWakes
import Derived.Test.YtbcdkpjfenedmaaRefLeast
import Derived.Test.YtbcdkpjfenedmaaVecOpen
import Derived.Test.YtbcdkpjfenedmaaVecSeq
import Derived.Test.YtbcdkpjfenedmaaVecSort
import Derived.Test.YtbcdkpjfenedmaaApp
import Derived.OpenShut
import Derived.Deep.RegionHeld3
import Derived.Deep.DeepCutAuto
import Derived.ShutString
import Derived.ChangeOld
namespace Go.Proofs.Ytbcdkpjfenedmaa.vectorLeast
open Go.ChangeShapes Go.WideShapes Go.ChangeAt Go.RowKit
open Go.ChangeMaps (open_string shut_string)
set_option linter.unusedVariables false
set_option linter.unusedSimpArgs false

/-- the last cell of a path -/
def w4 (w : World) (b o : Nat) (x : Pa) : Prop := w.cell? ⟨b, o, none⟩ = some (.int .u8 x.i)
theorem w4.next {w w' : World} {b o : Nat} {x : Pa} (h : w4 w b o x) (hb : Below w.heap.size w w') : w4 w' b o x := (hb.cell (p := ⟨b, o, none⟩) (World.block_lt_of_cell? w _ h)).trans h

theorem infoP : (Try.prog.info? 41).map (fun i => (i.zero, i.size, i.bytes)) = some (some (.agg #[.int .u64 0, .int .u32 0, .int .u64 0, .int .u8 0, .int .u8 0]), 5, 40) := by kernel_rfl
theorem encP_one (x : Pa) : ∀ u ∈ encP x, u.oneCell' = true := by
  intro u hu
  simp only [encP, List.mem_cons, List.mem_nil_iff, or_false] at hu
  rcases hu with rfl | rfl | rfl | rfl | rfl <;> rfl
theorem keepLe {W w w' : World} (g0 g1 : Nat) (x0 : Pa) (x1 : Pa) (h0 : w.cell? ⟨g0, 0, none⟩ = some (.int .u64 x0.v.r)) (h1 : w.cell? ⟨g0, 1, none⟩ = some (.int .u32 x0.v.c)) (h2 : w.cell? ⟨g0, 2, none⟩ = some (.int .u64 x0.v.b)) (h3 : w.cell? ⟨g0, 3, none⟩ = some (.int .u8 x0.v.p)) (h4 : w.cell? ⟨g0, 4, none⟩ = some (.int .u8 x0.i)) (h5 : w.cell? ⟨g1, 0, none⟩ = some (.int .u64 x1.v.r)) (h6 : w.cell? ⟨g1, 1, none⟩ = some (.int .u32 x1.v.c)) (h7 : w.cell? ⟨g1, 2, none⟩ = some (.int .u64 x1.v.b)) (h8 : w.cell? ⟨g1, 3, none⟩ = some (.int .u8 x1.v.p)) (h9 : w.cell? ⟨g1, 4, none⟩ = some (.int .u8 x1.i)) (hB : Hid (Below W.heap.size W w)) (hb : Below w.heap.size w w') : w'.cell? ⟨g0, 0, none⟩ = some (.int .u64 x0.v.r) ∧ w'.cell? ⟨g0, 1, none⟩ = some (.int .u32 x0.v.c) ∧ w'.cell? ⟨g0, 2, none⟩ = some (.int .u64 x0.v.b) ∧ w'.cell? ⟨g0, 3, none⟩ = some (.int .u8 x0.v.p) ∧ w'.cell? ⟨g0, 4, none⟩ = some (.int .u8 x0.i) ∧ w'.cell? ⟨g1, 0, none⟩ = some (.int .u64 x1.v.r) ∧ w'.cell? ⟨g1, 1, none⟩ = some (.int .u32 x1.v.c) ∧ w'.cell? ⟨g1, 2, none⟩ = some (.int .u64 x1.v.b) ∧ w'.cell? ⟨g1, 3, none⟩ = some (.int .u8 x1.v.p) ∧ w'.cell? ⟨g1, 4, none⟩ = some (.int .u8 x1.i) ∧ Hid (Below W.heap.size W w') := by
  have hk : ∀ {g i : Nat} {v : Value}, w.cell? ⟨g, i, none⟩ = some v → w'.cell? ⟨g, i, none⟩ = some v := fun {g i v} h => (hb.cell (p := ⟨g, i, none⟩) (World.block_lt_of_cell? w _ h)).trans h
  exact ⟨hk h0, hk h1, hk h2, hk h3, hk h4, hk h5, hk h6, hk h7, hk h8, hk h9, Lib.hid (hB.out.trans (hb.mono hB.out.size))⟩

set_option maxRecDepth 100000 in
set_option maxHeartbeats 4000000 in
theorem least_law (W : World) (A : Option Addr) (c : Nat) (l : List Pa) (hl : l.length ≤ maxLen) (hE : Els 5 encP W A l) :
    Calls Try.prog 4 #[.slice A l.length c] W fun e w' => e = .returned (.bool true) ∧ Below W.heap.size W w' := by
  have HE := Lib.hid hE
  obtain ⟨n, hn⟩ : ∃ n, l.length = n := ⟨_, rfl⟩
  have HN := Lib.hid hn
  rw [hn] at hl ⊢
  unfold maxLen at hl
  clear hE hn
  by_cases h50 : 50 < n
  · have d : decide ((50 : Int) < (n : Int)) = true := by simp; omega
    clear hl
    go_enter Try.func4, Try.ntmps4
    go_wp2_with fail
    refine (wakes_any _).mono ?_
    rintro e w1 ⟨rfl, hb⟩
    have HB := Lib.hid hb
    clear hb
    go_wp2
    go_ret
    exact ⟨rfl, HB.out⟩
  · have d : decide ((50 : Int) < (n : Int)) = false := by simp; omega
    have h50' : n ≤ 50 := by omega
    obtain ⟨i0, hi, hz0, hz1, hz2⟩ := info_parts infoP
    have HI : Hid (Try.prog.info? 41 = some i0 ∧ i0.zero = some (.agg #[.int .u64 0, .int .u32 0, .int .u64 0, .int .u8 0, .int .u8 0]) ∧ i0.size = 5 ∧ i0.bytes = 40) := Lib.hid ⟨hi, hz0, hz1, hz2⟩
    clear hl h50 hi hz0 hz1 hz2
    go_enter Try.func4, Try.ntmps4
    go_wp2
    go_loopw [3, 4] (fun v i wr => ∃ k : Nat, k ≤ n ∧ i = .int .i64 k ∧ Hid (wr.ownsRow W.heap.size 41 5 v k ((l.take k).flatMap encP)) ∧ Below W.heap.size W wr) (fun _ i _ => n - (intOf i).toNat)
    case atStart => exact ⟨0, Nat.zero_le _, rfl, Lib.hid (World.ownsRow_nil _ _ _ _), Below.refl _ _⟩
    case round =>
      obtain ⟨k, hk, rfl, hO, hB⟩ := hrel
      by_cases hlt : k < n
      · have hlt' : k < l.length := by rw [HN.out]; exact hlt
        obtain ⟨b, off, rfl, hbA, hc⟩ := HE.out (by omega)
        obtain ⟨x, hx⟩ : ∃ x, l[k] = x := ⟨_, rfl⟩
        obtain ⟨x0, x1, x2, x3, x4⟩ := pcells (w := wr) (fun i h j v hv => (hB.cell (p := ⟨b, off + i * 5 + j, none⟩) hbA).trans (hc i h j v hv)) k hlt' x hx
        have HT : Hid ((l.take (k + 1)).flatMap encP = (l.take k).flatMap encP ++ encP x) := Lib.hid (by rw [List.take_succ_eq_append_getElem hlt', hx]; simp)
        have hbw : b < wr.heap.size := Nat.lt_of_lt_of_le hbA hB.size
        have HX : Hid (w4 wr.drew b (off + k * 5 + 4) x) := Lib.hid x4
        have HB := Lib.hid hB
        have HBd : Hid (Below W.heap.size W wr.drew) := Lib.hid hB.drew
        have HOd : Hid (wr.drew.ownsRow W.heap.size 41 5 u3 k ((l.take k).flatMap encP)) := Lib.hid (own_below hO.out ((Below.refl _ _).drew))
        clear hx hc hB hO
        go_wp2_with fail
        go_region_law (first
          | (refine step_append_own rfl (.tmp 19) (.tmp 32) 37 rfl W.heap.size 41 i0 (.agg #[.int .u64 0, .int .u32 0, .int .u64 0, .int .u8 0, .int .u8 0]) 5 40 Try.underlying37 HI.out.1 HI.out.2.1 HI.out.2.2.1 HI.out.2.2.2 rfl (by decide) u3 k ((l.take k).flatMap encP) (by simp [Act.eval, Act.put]) (HO5.out.alloc _) ⟨w5.heap.size, 0, none⟩ 1 1 (encP x) (by simp [Act.eval, Act.put]) rfl (cells_new _ _ _) (encP_one x) (by simp only [maxLen]; omega) (by omega) (by have := HB5.out.size; simp; omega) ?_; intro v6 w6 ho6 hg6; have HO6 : Hid (w6.ownsRow W.heap.size 41 5 v6 (k + 1) ((l.take (k + 1)).flatMap encP)) := Lib.hid (by rw [HT.out]; exact ho6); have HB6 : Hid (Below W.heap.size W w6) := Lib.hid (grown_below (HB5.out.alloc HB5.out.size _) (Nat.le_refl _) (HO5.out.alloc _) hg6); clear ho6 hg6)
          | (go_simp; go_at_call 8; refine (of_any _ x.v).mono ?_; rintro r w5 ⟨rfl, hb5⟩; have HB5 : Hid (Below W.heap.size W w5) := Lib.hid (HBd.out.trans (hb5.mono HBd.out.size)); have HO5 : Hid (w5.ownsRow W.heap.size 41 5 u3 k ((l.take k).flatMap encP)) := Lib.hid (own_below HOd.out hb5); have y4 := w4.next HX.out hb5; unfold w4 at y4; clear hb5))
        all_goals (
          go_wp2
          go_roundw
          case rel => exact ⟨k + 1, by omega, by go_num, HO6, HB6.out⟩
          case measure => simp [intOf]; omega)
      · obtain rfl : k = n := by omega
        have hO' : wr.ownsRow W.heap.size 41 5 u3 l.length (l.flatMap encP) := by
          have := hO.out
          rw [← HN.out, List.take_length] at this
          exact this
        obtain ⟨A', c', hv, hE'⟩ := own_els (k := 5) (enc := encP) (fun _ => rfl) hO'
        rw [HN.out] at hv
        subst hv
        have kL := fun (W' : World) (h : Els 5 encP W' A' l) => least_any W' A' c' l (by rw [HN.out]; omega) h
        have kR := fun (W' : World) (h : Els 5 encP W' A l) => refleast_any W' A c l (by rw [HN.out]; omega) h
        rw [HN.out] at kL kR
        obtain ⟨m, hm⟩ : ∃ m, minP l = m := ⟨_, rfl⟩
        obtain ⟨q, hq⟩ : ∃ q, (!l.isEmpty) = q := ⟨_, rfl⟩
        rw [hm, hq] at kL kR
        have heq : ∀ w, (Op.equalIn 10000 41 (PV m) (PV m)).run Try.prog w = .ok true w := fun w => by rw [run_eqP]; simp
        have HE' := Lib.hid hE'
        have HB := Lib.hid hB
        have HKL := Lib.hid kL
        have HKR := Lib.hid kR
        clear hO hO' hE' hB hm hq kL kR hlt
        go_wp2_with fail
        refine (HKL.out _ HE'.out).mono ?_
        rintro e w1 ⟨rfl, hb⟩
        have HB1 : Hid (Below W.heap.size W w1) := Lib.hid (HB.out.trans (hb.mono HB.out.size))
        clear hb HB HE'
        go_wp2_with fail
        refine (HKR.out _ (HE.out.next ((HB1.out.alloc HB1.out.size _).mono (Nat.le_refl _)))).mono ?_
        rintro e w2 ⟨rfl, hb⟩
        have HP2 : Hid (PA w2 w1.heap.size m) := Lib.hid ((PA.new w1 m).next hb)
        have HB2 : Hid (Below W.heap.size W w2) := Lib.hid ((HB1.out.alloc HB1.out.size _).trans (hb.mono (by have := HB1.out.size; simp; omega)))
        clear hb HB1
        go_wp2_with fail
        obtain ⟨g5, hg5⟩ : ∃ g, w1.heap.size = g := ⟨_, rfl⟩
        obtain ⟨g7, hg7⟩ : ∃ g, w2.heap.size = g := ⟨_, rfl⟩
        obtain ⟨V, hV⟩ : ∃ V, w2.alloc (.cells #[.int .u64 m.v.r, .int .u32 m.v.c, .int .u64 m.v.b, .int .u8 m.v.p, .int .u8 m.i] 39) = V := ⟨_, rfl⟩
        have hP : PA V g5 m := by rw [← hV, ← hg5]; exact HP2.out.alloc _
        have hR : PR V g7 m := by rw [← hV, ← hg7]; exact PR.new w2 m
        have hB : Below W.heap.size W V := by rw [← hV]; exact HB2.out.alloc HB2.out.size _
        rw [hV, hg5, hg7]
        clear hV hg5 hg7 HP2 HB2 HKL HKR
        obtain ⟨x0, x1, x2, x3, x4⟩ := hP.cells
        obtain ⟨y0, y1, y2, y3, y4⟩ := hR.cells
        have HBd : Hid (Below W.heap.size W V.drew) := Lib.hid hB.drew
        clear hP hR hB
        go_region_held3 (fun w_ => w_.cell? ⟨g5, 0, none⟩ = some (.int .u64 m.v.r) ∧ w_.cell? ⟨g5, 1, none⟩ = some (.int .u32 m.v.c) ∧ w_.cell? ⟨g5, 2, none⟩ = some (.int .u64 m.v.b) ∧ w_.cell? ⟨g5, 3, none⟩ = some (.int .u8 m.v.p) ∧ w_.cell? ⟨g5, 4, none⟩ = some (.int .u8 m.i) ∧ w_.cell? ⟨g7, 0, none⟩ = some (.int .u64 m.v.r) ∧ w_.cell? ⟨g7, 1, none⟩ = some (.int .u32 m.v.c) ∧ w_.cell? ⟨g7, 2, none⟩ = some (.int .u64 m.v.b) ∧ w_.cell? ⟨g7, 3, none⟩ = some (.int .u8 m.v.p) ∧ w_.cell? ⟨g7, 4, none⟩ = some (.int .u8 m.i) ∧ Hid (Below W.heap.size W w_)) (go_keep)
          (first
            | (go_at_call 8; (with_reducible refine (of_any _ m.v).mono ?_); rintro r w_ ⟨rfl, hb_⟩; obtain ⟨k0, k1, k2, k3, k4, k5, k6, k7, k8, k9, k10⟩ := keepLe (g5) (g7)  (m) (m) (by assumption) (by assumption) (by assumption) (by assumption) (by assumption) (by assumption) (by assumption) (by assumption) (by assumption) (by assumption) (by assumption) hb_; clear hb_)
            | (go_at_call 12; (with_reducible refine (wakes_any _).mono ?_); rintro r w_ ⟨rfl, hb_⟩; obtain ⟨k0, k1, k2, k3, k4, k5, k6, k7, k8, k9, k10⟩ := keepLe (g5) (g7)  (m) (m) (by assumption) (by assumption) (by assumption) (by assumption) (by assumption) (by assumption) (by assumption) (by assumption) (by assumption) (by assumption) (by assumption) hb_; clear hb_))
        all_goals (
          go_wp2
          go_ret
          exact ⟨rfl, Hid.out (by assumption)⟩)

set_option maxRecDepth 100000 in
set_option maxHeartbeats 4000000 in
theorem walk {H : Type} {enc : TypeId × Value → H} (W : World) (base : Nat) {v0 : Value} {d0 : DataW H} {p0 : List MemPlace}
    (o0 : Value.okWide Try.prog W .any base 36 v0) (h0 : DataW.Trod enc Try.prog W 0 (fun _ => true) true 36 v0 d0 p0) :
    Calls Try.prog 4 #[v0] W fun e w' => e = .returned (.bool true) ∧ Below W.heap.size W w' := by
  obtain ⟨A, c, l, rfl, hl, _, _, hE⟩ := open_els 5 encP Pa.ok Try.underlying36 (e := 39) (by kernel_rfl) (by omega)
    (fun cs fuel x hl h => pa_trod Try.underlying39 ⟨rfl, rfl⟩ ⟨rfl, rfl⟩ (by kernel_rfl) Try.underlying25 ⟨rfl, rfl, rfl, rfl⟩ ⟨rfl, rfl, rfl, rfl⟩ (hl.trans (by kernel_rfl)) h) o0 h0
  exact least_law W A c l hl hE

theorem own : ownKnob Try.prog.godebug = none := by kernel_rfl
theorem laidOut : laidOutB Try.prog = true := by kernel_rfl
set_option maxRecDepth 100000 in
theorem lifted (os : Os) (started : os.Started) (H : Type) (enc : TypeId × Value → H) :
    ReturnsInHanded {} Try.checked os 4 .any (Rows.vectorLeastSpec.pre6 enc Try.prog Try.f4 Rows.vectorLeastRow.domain false) (Rows.vectorLeastSpec.post enc Try.prog Try.f4 false true false false) := by
  refine returnsInHanded_of_change (C := Try.checked) own started (by kernel_rfl) Try.func4
    (ChangeSpec.witness6 (enc := enc) (C := Try.checked) false ⟨#[], #[.slice none 0 0], []⟩ 8 (by kernel_rfl) (by kernel_rfl) (by kernel_rfl) (by kernel_rfl)) ?_
  intro W base args ds gs before hval0 hW hcnd _
  have hval : ∀ (j : Nat) t v, Try.f4.params[j]? = some t → args[j]? = some v → Value.okWide Try.prog W .any base t v := hval0
  have hW' := hW
  obtain ⟨p, q, hA0, hV, rfl, hfz, hnd⟩ := hW
  have hA : DataW.TrodAll enc Try.prog W 0 (fun _ => true) true Try.f4.params.toList args.toList ds p := hA0
  rw [Try.params4] at hA hval
  obtain ⟨v0, vs0, d0, ds0, p0, q0, hargs, rfl, rfl, h0, r0⟩ := trodAll_cons hA
  obtain ⟨rfl, rfl, rfl⟩ := trodAll_nil r0
  obtain rfl : args = #[v0] := by cases args; simp_all
  obtain ⟨rfl, rfl⟩ := trodVars_none hV
  have o0 := hval 0 36 v0 rfl rfl
  have lt0 : ∀ x ∈ p0, x.block < W.heap.size := by obtain ⟨m, hm⟩ := h0; exact DataW.trod_lt m _ _ _ hm
  clear hA0 hval0
  refine (walk W base o0 h0).mono fun e W' ⟨he, bel⟩ => ?_
  subst he
  exact ⟨_, rfl, _, _, _, [], _, [], hW', trodAll_mk1 (shut_bool Try.underlying4 _), (trodAll_cons_mk (Below.trod laidOut (by kernel_rfl) (of_decide_eq_true (by kernel_rfl)) h0 bel lt0) trodAll_mk0), rfl, bel.frame _, fun h => by cases h⟩

theorem over : Rows.vectorLeastRow.holds Try.pinned (OpenSpec.ofChange Rows.vectorLeastSpec) :=
  OpenClaim.holds_of_wide 4 Try.f4 rfl rfl rfl rfl rfl rfl rfl ⟨rfl, rfl, rfl, rfl, rfl⟩ rfl rfl rfl rfl rfl (by kernel_rfl) Try.func4 (by kernel_rfl)
    (of_decide_eq_true (by kernel_rfl)) (by unfold Func.isWrapper; first | (rw [if_pos (by decide +kernel)]; kernel_rfl) | (rw [if_neg (by decide +kernel)]; exact ⟨rfl, rfl⟩))
    (fun os started H enc _ => lifted os started H enc)

/-- THE STATEMENT -/
theorem proved : Rows.VectorLeastSaid := over
end Go.Proofs.Ytbcdkpjfenedmaa.vectorLeast
