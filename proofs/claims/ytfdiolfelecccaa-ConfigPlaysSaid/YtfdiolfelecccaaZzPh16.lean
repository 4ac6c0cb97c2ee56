/- Layer 16, the program: slices.IndexFunc, slices.ContainsFunc at associations; the closure of AddAssoc. -/
import Derived.Test.YtfdiolfelecccaaZzPg16
namespace Go.Proofs.Ytfdiolfelecccaa
open Go.RowKit
open Go.Sort (grow)
set_option linter.unusedVariables false
set_option linter.unusedSimpArgs false
set_option maxRecDepth 100000

/-- a function value that tells of associations -/
structure ClA (w : World) (f : Value) (p : AsX → Bool) (E : List AsX) : Prop where
  is : ∃ gf bd lb, f = .func (.func gf) bd lb ∧ (∀ args w, (callFunc gf args).run Try.prog w = .ok (.enter gf args) w) ∧ ∀ (W : World) (x : AsX), x ∈ E → Gro w W → Calls Try.prog gf (bd ++ #[.agg #[.int .u8 x.a.l.toNat, .string ⟨x.a.d.toArray⟩, .string ⟨x.a.n.toArray⟩, .int .u16 x.a.v.toNat, .int .u8 x.a.i.toNat, .slice x.b x.a.m.length x.c]] ++ lb) W fun e w' => e = .returned (.bool (p x)) ∧ Gro W w'
theorem ClA.gro {w w' : World} {f : Value} {p : AsX → Bool} {E : List AsX} (h : ClA w f p E) (hg : Gro w w') : ClA w' f p E := by
  obtain ⟨gf, bd, lb, e, eg, hp⟩ := h.is
  exact ⟨gf, bd, lb, e, eg, fun W x hx hW => hp W x hx (hg.trans hW)⟩
def idxA (p : AsX → Bool) (d : List AsX) : Int := match d.findIdx? p with | some k => (k : Int) | none => -1
set_option maxHeartbeats 2000000 in
theorem idxA_any (w : World) (f : Value) (p : AsX → Bool) (d : List AsX) (A : Option Addr) (c : Nat) (hd : d.length ≤ 1000) (hE : Els 6 asE w A d) (hf : ClA w f p d) :
    Calls Try.prog 52 #[.slice A d.length c, f] w fun e w' => e = .returned (.int .i64 (idxA p d)) ∧ Gro w w' := by
  obtain ⟨gf, bd, lb, rfl, eg, hp⟩ := hf.is
  have HE := Lib.hid hE
  have HP := Lib.hid hp
  obtain ⟨n, hn⟩ : ∃ n, d.length = n := ⟨_, rfl⟩
  have HN := Lib.hid hn
  rw [hn] at hd
  rw [hn]
  clear hn hE hp hf
  go_enter Try.func52, Try.ntmps52
  go_wp2
  go_loopw [5, 8] (fun _ i wr => ∃ k : Nat, k ≤ n ∧ i = .int .i64 k ∧ Hid (Gro w wr) ∧ Hid (∀ j (h : j < d.length), j < k → p d[j] = false)) (fun _ i _ => n - (intOf i).toNat)
  case atStart => exact ⟨0, Nat.zero_le _, rfl, Lib.hid (Gro.refl w), Lib.hid (fun j h hj => absurd hj (Nat.not_lt_zero _))⟩
  case round =>
    obtain ⟨k, hk, rfl, HG, HF⟩ := hrel
    by_cases hlt : k < n
    · have hkd : k < d.length := by rw [HN.out]; exact hlt
      have hltz : (k : Int) < (n : Int) := by omega
      obtain ⟨x, hx⟩ : ∃ x, d[k] = x := ⟨_, rfl⟩
      have hx' : d[k]? = some x := by rw [List.getElem?_eq_getElem hkd, hx]
      obtain ⟨b, off, rfl, _, e0, e1, e2, e3, e4, e5⟩ := as_at (HE.out.groP HG.out) hx'
      have HX := Lib.hid hx
      have hcall := HP.out wr x (List.mem_of_getElem? hx') HG.out
      clear hx hx'
      cases hq : p x with
      | true =>
        rw [hq] at hcall
        have HQ := Lib.hid hq
        clear hq
        go_wp2_with (go_at_fn gf; refine hcall.mono ?_; rintro e w' ⟨rfl, hb'⟩)
        go_ret
        refine ⟨ret_ (congrArg (Value.int .i64) ?_), HG.out.trans hb'⟩
        unfold idxA
        have : d.findIdx? p = some k := by
          rw [List.findIdx?_eq_some_iff_getElem]
          exact ⟨by rw [HN.out]; exact hlt, by rw [HX.out]; exact HQ.out, fun j hj => by simpa using HF.out j (by rw [HN.out]; omega) hj⟩
        rw [this]
      | false =>
        rw [hq] at hcall
        have HQ := Lib.hid hq
        clear hq
        go_wp2_with (go_at_fn gf; refine hcall.mono ?_; rintro e w' ⟨rfl, hb'⟩)
        go_roundw
        case rel =>
          exact ⟨k + 1, by omega, by go_num, Lib.hid (HG.out.trans hb'), Lib.hid (fun j h hj => by
            rcases Nat.lt_or_ge j k with h1 | h1
            · exact HF.out j h h1
            · obtain rfl : j = k := by omega
              rw [HX.out]; exact HQ.out)⟩
        case measure => simp [intOf]; omega
    · obtain rfl : k = n := by omega
      clear hk hlt
      go_wp2
      go_ret
      refine ⟨ret_ (congrArg (Value.int .i64) ?_), HG.out⟩
      unfold idxA
      have : d.findIdx? p = none := by
        rw [List.findIdx?_eq_none_iff]
        intro x hx
        obtain ⟨j, hj, rfl⟩ := List.mem_iff_getElem.1 hx
        simpa using HF.out j hj (by rw [← HN.out]; exact hj)
      rw [this]
theorem idxA_ge (p : AsX → Bool) (d : List AsX) : decide (0 ≤ idxA p d) = d.any p := by
  unfold idxA
  cases h : d.findIdx? p with
  | none =>
    rw [List.findIdx?_eq_none_iff] at h
    simp only
    rw [Bool.eq_iff_iff, List.any_eq_true]
    simp only [decide_eq_true_eq]
    constructor
    · intro h'; omega
    · rintro ⟨x, hx, hp⟩
      have := h x hx
      rw [hp] at this
      simp at this
  | some k =>
    rw [List.findIdx?_eq_some_iff_getElem] at h
    obtain ⟨hk, h1, _⟩ := h
    rw [Bool.eq_iff_iff, List.any_eq_true]
    simp only [decide_eq_true_eq]
    exact ⟨fun _ => ⟨d[k], List.getElem_mem hk, h1⟩, fun _ => by omega⟩
set_option maxHeartbeats 1000000 in
theorem contA_any (w : World) (f : Value) (p : AsX → Bool) (d : List AsX) (A : Option Addr) (c : Nat) (hd : d.length ≤ 1000) (hE : Els 6 asE w A d) (hf : ClA w f p d) :
    Calls Try.prog 38 #[.slice A d.length c, f] w fun e w' => e = .returned (.bool (d.any p)) ∧ Gro w w' := by
  have K := Lib.hid (idxA_any w f p d A c hd hE hf)
  have HA := Lib.hid (idxA_ge p d)
  obtain ⟨n, hn⟩ : ∃ n, d.length = n := ⟨_, rfl⟩
  obtain ⟨i, hi⟩ : ∃ i, idxA p d = i := ⟨_, rfl⟩
  obtain ⟨q, hq⟩ : ∃ q, d.any p = q := ⟨_, rfl⟩
  rw [hn, hi] at K
  rw [hi, hq] at HA
  rw [hn, hq]
  obtain ⟨gf, bd, lb, rfl, _⟩ := hf.is
  clear hn hi hq hd hE hf
  go_enter Try.func38, Try.ntmps38
  go_wp2_with fail
  refine K.out.mono ?_
  rintro e w1 ⟨rfl, hg⟩
  have HG := Lib.hid hg
  clear hg K
  go_wp2
  go_ret
  refine ⟨ret_ (congrArg Value.bool ?_), HG.out⟩
  first | exact HA.out | (rw [← HA.out]; simp)
theorem eg_names : ∀ args w, (callFunc 36 args).run Try.prog w = .ok (.enter 36 args) w := enters_of Try.func36 (by kernel_rfl) rfl
set_option maxHeartbeats 2000000 in
theorem names1_any (w : World) (y : AsX) (a : As) (B : Option Addr) (c g : Nat) (hg : Blk w g 50 #[.int .u8 a.l.toNat, .string ⟨a.d.toArray⟩, .string ⟨a.n.toArray⟩, .int .u16 a.v.toNat, .int .u8 a.i.toNat, .slice B a.m.length c]) :
    Calls Try.prog 36 #[.agg #[.int .u8 y.a.l.toNat, .string ⟨y.a.d.toArray⟩, .string ⟨y.a.n.toArray⟩, .int .u16 y.a.v.toNat, .int .u8 y.a.i.toNat, .slice y.b y.a.m.length y.c], .pointer (some ⟨g, 0, none⟩)] w fun e w' => e = .returned (.bool (y.a.d == a.d && y.a.n == a.n)) ∧ Gro w w' := by
  obtain ⟨W, hW⟩ : ∃ W, (w.alloc (.cells #[.int .u8 y.a.l.toNat, .string ⟨y.a.d.toArray⟩, .string ⟨y.a.n.toArray⟩, .int .u16 y.a.v.toNat, .int .u8 y.a.i.toNat, .slice y.b y.a.m.length y.c] 50)) = W := ⟨_, rfl⟩
  have HG : Hid (Gro w W) := Lib.hid (by rw [← hW]; exact (Gro.refl w).alloc _)
  have HX := Blk.new w 50 #[.int .u8 y.a.l.toNat, .string ⟨y.a.d.toArray⟩, .string ⟨y.a.n.toArray⟩, .int .u16 y.a.v.toNat, .int .u8 y.a.i.toNat, .slice y.b y.a.m.length y.c]
  rw [hW] at HX
  have HA := HG.out.blk hg
  have x1 := HX.cell 1
  have x2 := HX.cell 2
  simp only [List.getElem?_toArray, List.getElem?_cons_succ, List.getElem?_cons_zero] at x1 x2
  have a1 := HA.cell 1
  have a2 := HA.cell 2
  simp only [List.getElem?_toArray, List.getElem?_cons_succ, List.getElem?_cons_zero] at a1 a2
  clear hg HX HA
  obtain ⟨d1, hd1⟩ : ∃ l, y.a.d = l := ⟨_, rfl⟩
  obtain ⟨n1, hn1⟩ : ∃ l, y.a.n = l := ⟨_, rfl⟩
  rw [hd1, hn1] at hW
  rw [hd1] at x1
  rw [hn1] at x2
  rw [hd1, hn1]
  clear hd1 hn1
  by_cases e1 : d1 = a.d
  · have q1 : ((⟨d1.toArray⟩ : ByteArray).toList == (⟨a.d.toArray⟩ : ByteArray).toList) = true := by rw [str_eqP, e1]; simp
    have q1' : (d1 == a.d) = true := by rw [e1]; simp
    rw [q1']
    by_cases e2 : n1 = a.n
    · have q2 : ((⟨n1.toArray⟩ : ByteArray).toList == (⟨a.n.toArray⟩ : ByteArray).toList) = true := by rw [str_eqP, e2]; simp
      have q2' : (n1 == a.n) = true := by rw [e2]; simp
      rw [q2']
      clear e1 e2
      go_enter Try.func36, Try.ntmps36
      go_wp2
      go_ret
      exact ⟨rfl, HG.out⟩
    · have q2 : ((⟨n1.toArray⟩ : ByteArray).toList == (⟨a.n.toArray⟩ : ByteArray).toList) = false := by rw [str_eqP]; simpa using e2
      have q2' : (n1 == a.n) = false := by simpa using e2
      rw [q2']
      clear e1 e2
      go_enter Try.func36, Try.ntmps36
      go_wp2
      go_ret
      exact ⟨rfl, HG.out⟩
  · have q1 : ((⟨d1.toArray⟩ : ByteArray).toList == (⟨a.d.toArray⟩ : ByteArray).toList) = false := by rw [str_eqP]; simpa using e1
    have q1' : (d1 == a.d) = false := by simpa using e1
    rw [q1']
    clear e1
    go_enter Try.func36, Try.ntmps36
    go_wp2
    go_ret
    exact ⟨rfl, HG.out⟩
theorem cla_names {w : World} {a : As} {B : Option Addr} {c g : Nat} (L : List AsX) (hg : Blk w g 50 #[.int .u8 a.l.toNat, .string ⟨a.d.toArray⟩, .string ⟨a.n.toArray⟩, .int .u16 a.v.toNat, .int .u8 a.i.toNat, .slice B a.m.length c]) : ClA w (.func (.func 36) #[] #[.pointer (some ⟨g, 0, none⟩)]) (fun y => y.a.d == a.d && y.a.n == a.n) L :=
  ⟨_, #[], _, rfl, eg_names, fun W x _ hW => names1_any W x a B c g (hW.blk hg)⟩
end Go.Proofs.Ytfdiolfelecccaa
