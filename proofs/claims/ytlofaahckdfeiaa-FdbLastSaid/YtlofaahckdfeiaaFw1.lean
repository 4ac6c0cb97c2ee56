/- Package fdb: the small functions; slices.IndexFunc at entries. -/
import Derived.Test.YtlofaahckdfeiaaFmap
import Derived.Laws.BitsAllLaws
import Derived.IntWalk
import Derived.BigQuiet
import Derived.Deep.QuietTactic
import Derived.StillTailTactics
import Derived.Shelf.Abstract
namespace Go.Proofs.Ytlofaahckdfeiaa
open Go.RowKit
set_option linter.unusedVariables false
set_option linter.unusedSimpArgs false
set_option maxRecDepth 100000

abbrev eV (e : En) : Value := .agg #[.int .u16 e.k.v.toNat, .int .u8 e.k.m.a.toNat, .int .u8 e.k.m.b.toNat, .int .u8 e.k.m.c.toNat, .int .u8 e.k.m.d.toNat, .int .u8 e.k.m.e.toNat, .int .u8 e.k.m.f.toNat, .int .u8 e.p.toNat, .int .i64 (e.a : Nat)]
abbrev mV (m : Mc) : Value := .agg #[.int .u8 m.a.toNat, .int .u8 m.b.toNat, .int .u8 m.c.toNat, .int .u8 m.d.toNat, .int .u8 m.e.toNat, .int .u8 m.f.toNat]
theorem run_eqPl (k l : Pl) (w : World) : (Op.equalIn 10000 71 (kV k) (kV l)).run Try.prog w = .ok (decide (k = l)) w := by
  have h0 := run_equalIn_int (P := Try.prog) w 9998 23 .u16 .u16 (k.v.toNat : Int) (l.v.toNat : Int) Try.underlying23
  rw [u16_eqI] at h0
  have h1 := run_eqM9 k.m l.m w
  rw [run_equalIn_struct w 9999 71 _ _ (by rw [Program.fieldsOf, Try.underlying71]) (by kernel_rfl)]
  simp only [Program.fieldsOf, Try.underlying71]
  have hall : decide (k = l) = (decide (k.v = l.v) && (decide (k.m = l.m) && true)) := by rw [pl_eq, Bool.and_true]
  rw [hall]
  refine eqs_step (by decide) (by kernel_rfl) (by kernel_rfl) h0 ?_
  refine eqs_step (by decide) (by kernel_rfl) (by kernel_rfl) h1 ?_
  exact eqs_nil
set_option maxHeartbeats 1000000 in
theorem isOf_any (w : World) (k : Pl) (e : En) : Calls Try.prog 30 #[kV k, eV e] w fun x w' => x = .returned (.bool (decide (k = e.k))) ∧ Gro w w' := by
  have heq := fun w => run_eqPl k e.k w
  go_enter Try.func30, Try.ntmps30
  go_wp2
  go_ret
  exact ⟨rfl, ((Gro.refl w).alloc _).alloc _⟩
set_option maxHeartbeats 1000000 in
theorem tick1_any (w : World) (e : En) : Calls Try.prog 25 #[eV e] w fun x w' => x = .returned (.bool (decide (e.a = 40))) ∧ Gro w w' := by
  go_enter Try.func25, Try.ntmps25
  go_wp2
  go_ret
  refine ⟨ret_ (congrArg Value.bool ?_), (Gro.refl w).alloc _⟩
  rw [Bool.eq_iff_iff]
  simp
  omega
def pbit (ports p : UInt8) : Bool := ports.toNat / 2 ^ p.toNat % 2 == 1
theorem pbit_run (s p : UInt8) : (bits BinOp.and IntKind.u8 ((s.toNat : Int) / 2 ^ min p.toNat 8) 1 == 1) = pbit s p := by
  have hs : s.toNat < 256 := s.toNat_lt
  have e : ((s.toNat : Int) / 2 ^ min p.toNat 8) = ((s.toNat / 2 ^ min p.toNat 8 : Nat) : Int) := by simp
  have hlt : s.toNat / 2 ^ min p.toNat 8 < 256 := Nat.lt_of_le_of_lt (Nat.div_le_self _ _) hs
  rw [e]
  have := u8_and_nat (s.toNat / 2 ^ min p.toNat 8) 1 hlt (by decide)
  rw [show ((1 : Nat) : Int) = 1 from rfl] at this
  rw [this, nat_mask1]
  unfold pbit
  rcases Nat.lt_or_ge p.toNat 8 with h | h
  · rw [Nat.min_eq_left (by omega)]
    rw [Bool.eq_iff_iff]; simp only [beq_iff_eq]; omega
  · rw [Nat.min_eq_right h]
    have e1 : s.toNat / 2 ^ 8 = 0 := Nat.div_eq_of_lt (by simpa using hs)
    have e2 : s.toNat / 2 ^ p.toNat = 0 := Nat.div_eq_of_lt (Nat.lt_of_lt_of_le (show s.toNat < 2 ^ 8 by simpa using hs) (Nat.pow_le_pow_right (by decide) h))
    rw [e1, e2]
    rfl
set_option maxHeartbeats 1000000 in
theorem flush1_any (w : World) (e : En) (s : UInt8) (g : Nat) (hc : w.cell? ⟨g, 0, none⟩ = some (.int .u8 s.toNat)) : Calls Try.prog 26 #[eV e, .pointer (some ⟨g, 0, none⟩)] w fun x w' => x = .returned (.bool (pbit s e.p)) ∧ Gro w w' := by
  have hne : g ≠ w.heap.size := by have := World.block_lt_of_cell? w _ hc; simp at this; omega
  have hc' : (w.alloc (.cells #[.int .u16 e.k.v.toNat, .int .u8 e.k.m.a.toNat, .int .u8 e.k.m.b.toNat, .int .u8 e.k.m.c.toNat, .int .u8 e.k.m.d.toNat, .int .u8 e.k.m.e.toNat, .int .u8 e.k.m.f.toNat, .int .u8 e.p.toNat, .int .i64 (e.a : Nat)] 64)).cell? ⟨g, 0, none⟩ = some (.int .u8 s.toNat) := Lib.cell?_alloc_some _ hc
  go_enter Try.func26, Try.ntmps26
  go_wp2
  go_ret
  exact ⟨ret_ (congrArg Value.bool (pbit_run s e.p)), (Gro.refl w).alloc _⟩
def okVid (v : UInt16) : Bool := decide (1 ≤ v.toNat) && decide (v.toNat ≤ 4094)
set_option maxHeartbeats 1000000 in
theorem canBe_any (w : World) (v : UInt16) : Calls Try.prog 28 #[.int .u16 v.toNat] w fun e w' => e = .returned (.bool (okVid v)) ∧ Gro w w' := by
  go_enter Try.func28, Try.ntmps28
  go_wp2
  all_goals go_ret
  all_goals refine ⟨ret_ (congrArg Value.bool ?_), Gro.refl _⟩
  all_goals (simp only [okVid])
  all_goals (rw [Bool.eq_iff_iff]; simp; omega)
def grp (m : Mc) : Bool := m.a.toNat % 2 == 1
set_option maxHeartbeats 1000000 in
theorem group_any (w : World) (m : Mc) : Calls Try.prog 33 #[mV m] w fun e w' => e = .returned (.bool (grp m)) ∧ Gro w w' := by
  have hb : (bits BinOp.and IntKind.u8 (m.a.toNat : Int) 1 == 1) = grp m := by
    have := u8_and_nat m.a.toNat 1 m.a.toNat_lt (by decide)
    rw [show ((1 : Nat) : Int) = 1 from rfl] at this
    rw [this, nat_mask1]
    unfold grp
    rw [Bool.eq_iff_iff]; simp only [beq_iff_eq]; omega
  go_enter Try.func33, Try.ntmps33
  go_wp2
  go_ret
  exact ⟨rfl, (Gro.refl w).alloc _⟩
/-- the first one that is told -/
def idxV (p : En → Bool) (d : List En) : Int := match d.findIdx? p with | some k => (k : Int) | none => -1
theorem isAggE (w : World) : (isAgg 64).run Try.prog w = .ok true w := by kernel_rfl
theorem sizeE (w : World) : (Go.sizeOf 64).run Try.prog w = .ok 9 w := by kernel_rfl
theorem Els.at9 {w : World} {A : Option Addr} {d : List En} (h : Els 9 enV w A d) {k : Nat} (hk : k < d.length) : ∃ b off, A = some ⟨b, off, none⟩ ∧ ∀ j u, (enV d[k])[j]? = some u → w.cell? ⟨b, off + k * 9 + j, none⟩ = some u := by
  obtain ⟨b, off, e, _, hc⟩ := h (by omega)
  exact ⟨b, off, e, fun j u hu => hc k hk j u hu⟩
theorem cells9 {w : World} {b i : Nat} {x : En} (h : ∀ j u, (enV x)[j]? = some u → w.cell? ⟨b, i + j, none⟩ = some u) :
    w.cell? ⟨b, i, none⟩ = some (.int .u16 x.k.v.toNat) ∧ w.cell? ⟨b, i + 1, none⟩ = some (.int .u8 x.k.m.a.toNat) ∧ w.cell? ⟨b, i + 2, none⟩ = some (.int .u8 x.k.m.b.toNat) ∧ w.cell? ⟨b, i + 3, none⟩ = some (.int .u8 x.k.m.c.toNat) ∧ w.cell? ⟨b, i + 4, none⟩ = some (.int .u8 x.k.m.d.toNat) ∧ w.cell? ⟨b, i + 5, none⟩ = some (.int .u8 x.k.m.e.toNat) ∧ w.cell? ⟨b, i + 6, none⟩ = some (.int .u8 x.k.m.f.toNat) ∧ w.cell? ⟨b, i + 7, none⟩ = some (.int .u8 x.p.toNat) ∧ w.cell? ⟨b, i + 8, none⟩ = some (.int .i64 (x.a : Nat)) :=
  ⟨h 0 _ rfl, h 1 _ rfl, h 2 _ rfl, h 3 _ rfl, h 4 _ rfl, h 5 _ rfl, h 6 _ rfl, h 7 _ rfl, h 8 _ rfl⟩
theorem Els.gro {α : Type} {k : Nat} {enc : α → List Value} {w w' : World} {A : Option Addr} {l : List α} (h : Els k enc w A l) (hg : Gro w w') : Els k enc w' A l := h.next hg.below
set_option maxHeartbeats 2000000 in
theorem idx_any (w : World) (gf : Nat) (bd lb : Array Value) (eg : ∀ args w, (callFunc gf args).run Try.prog w = .ok (.enter gf args) w) (p : En → Bool) (d : List En) (A : Option Addr) (c : Nat) (hd : d.length ≤ 1000)
    (hE : Els 9 enV w A d) (hp : ∀ (W : World) (x : En), Gro w W → Calls Try.prog gf (bd ++ #[eV x] ++ lb) W fun e w' => e = .returned (.bool (p x)) ∧ Gro W w') :
    Calls Try.prog 35 #[.slice A d.length c, .func (.func gf) bd lb] w fun e w' => e = .returned (.int .i64 (idxV p d)) ∧ Gro w w' := by
  have HE := Lib.hid hE
  have HP := Lib.hid hp
  obtain ⟨n, hn⟩ : ∃ n, d.length = n := ⟨_, rfl⟩
  have HN := Lib.hid hn
  rw [hn] at hd
  rw [hn]
  clear hn hE hp
  go_enter Try.func35, Try.ntmps35
  go_wp2
  go_loopw [5, 8] (fun _ i wr => ∃ k : Nat, k ≤ n ∧ i = .int .i64 k ∧ Hid (Gro w wr) ∧ Hid (∀ j (h : j < d.length), j < k → p d[j] = false)) (fun _ i _ => n - (intOf i).toNat)
  case atStart => exact ⟨0, Nat.zero_le _, rfl, Lib.hid (Gro.refl w), Lib.hid (fun j h hj => absurd hj (Nat.not_lt_zero _))⟩
  case round =>
    obtain ⟨k, hk, rfl, HG, HF⟩ := hrel
    by_cases hlt : k < n
    · have hkd : k < d.length := by rw [HN.out]; exact hlt
      have hltz : (k : Int) < (n : Int) := by omega
      obtain ⟨b, off, rfl, hcell⟩ := (HE.out.gro HG.out).at9 hkd
      obtain ⟨x, hx⟩ : ∃ x, d[k] = x := ⟨_, rfl⟩
      rw [hx] at hcell
      obtain ⟨e0, e1, e2, e3, e4, e5, e6, e7, e8⟩ := cells9 hcell
      have HX := Lib.hid hx
      have hcall := HP.out wr x HG.out
      clear hcell hx
      cases hq : p x with
      | true =>
        rw [hq] at hcall
        have HQ := Lib.hid hq
        clear hq
        go_wp2_with (go_at_fn gf; refine hcall.mono ?_; rintro e w' ⟨rfl, hb'⟩)
        go_ret
        refine ⟨ret_ (congrArg (Value.int .i64) ?_), HG.out.trans hb'⟩
        unfold idxV
        have : d.findIdx? p = some k := by
          rw [List.findIdx?_eq_some_iff_getElem]
          exact ⟨by rw [HN.out]; exact hlt, by rw [HX.out]; exact HQ.out, fun j hj => by simpa using HF.out j (by rw [HN.out]; omega) hj⟩
        rw [this]
      | false =>
        rw [hq] at hcall
        have HQ := Lib.hid hq
        clear hq
        go_wp2_with (go_at_fn gf; refine hcall.mono ?_; rintro e w' ⟨rfl, hb'⟩)
        go_roundw
        case rel =>
          exact ⟨k + 1, by omega, by go_num, Lib.hid (HG.out.trans hb'), Lib.hid (fun j h hj => by
            rcases Nat.lt_or_ge j k with h1 | h1
            · exact HF.out j h h1
            · obtain rfl : j = k := by omega
              rw [HX.out]; exact HQ.out)⟩
        case measure => simp [intOf]; omega
    · obtain rfl : k = n := by omega
      clear hk hlt
      go_wp2
      go_ret
      refine ⟨ret_ (congrArg (Value.int .i64) ?_), HG.out⟩
      unfold idxV
      have : d.findIdx? p = none := by
        rw [List.findIdx?_eq_none_iff]
        intro x hx
        obtain ⟨j, hj, rfl⟩ := List.mem_iff_getElem.1 hx
        simpa using HF.out j hj (by rw [← HN.out]; exact hj)
      rw [this]
end Go.Proofs.Ytlofaahckdfeiaa
