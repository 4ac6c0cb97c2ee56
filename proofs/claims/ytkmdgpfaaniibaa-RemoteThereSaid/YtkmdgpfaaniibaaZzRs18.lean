/- Layer 18: the law's rising; own rows of numbers. -/
import Derived.Test.YtkmdgpfaaniibaaZzLaw18
namespace Go.Proofs.Ytkmdgpfaaniibaa
open Go.RowKit
set_option linter.unusedVariables false
set_option linter.unusedSimpArgs false
set_option maxRecDepth 100000

theorem infoU16 : (Try.prog.info? 22).map (fun i => (i.zero, i.size, i.bytes)) = some (some (.int .u16 0), 1, 2) := by kernel_rfl
theorem info_parts18 {P : Program} {t : TypeId} {z : Value} {s n : Nat} (h : (P.info? t).map (fun i => (i.zero, i.size, i.bytes)) = some (some z, s, n)) : ∃ i, P.info? t = some i ∧ i.zero = some z ∧ i.size = s ∧ i.bytes = n := by
  cases hi : P.info? t with
  | none => rw [hi] at h; cases h
  | some i =>
    rw [hi] at h
    simp only [Option.map_some, Option.some.injEq, Prod.mk.injEq] at h
    exact ⟨i, rfl, h.1, h.2.1, h.2.2⟩
theorem els_one18 {α : Type} {k : Nat} {en : α → List Value} (w : World) (t : TypeId) (x : α) (cs : Array Value) (h : cs = (en x).toArray) : Els k en (w.alloc (.cells cs t)) (some ⟨w.heap.size, 0, none⟩) [x] := by
  subst h
  intro _
  refine ⟨_, 0, rfl, by simp, fun i hi j v hv => ?_⟩
  obtain rfl : i = 0 := by simpa using hi
  have := (Blk.new w t (en x).toArray).cell j
  rw [show 0 + 0 * k + j = j by omega, this]
  simpa using hv
/-- a row of one's own of numbers -/
def Ow (w : World) (base : Nat) (v : Value) (L : List UInt16) : Prop := w.ownsRow base 22 1 v L.length (L.flatMap u16c)
theorem Ow.nil (w : World) (base : Nat) : Ow w base (.slice none 0 0) [] := World.ownsRow_nil _ _ _ _
theorem Ow.below {w w' : World} {base : Nat} {v : Value} {L : List UInt16} (h : Ow w base v L) (hb : Below w.heap.size w w') : Ow w' base v L := own_below h hb
theorem Ow.full {w : World} {base : Nat} {v : Value} {L : List UInt16} (h : Ow w base v L) : ∃ A c, v = .slice A L.length c ∧ Els 1 u16c w A L ∧ L.length ≤ c ∧ (A = none → c = 0) ∧ ∀ a, A = some a → base ≤ a.block ∧ a.block < w.heap.size := own_fullL u16c_len h
theorem Ow.grown {w0 w w' : World} {base : Nat} {v : Value} {L : List UInt16} (h : Ow w base v L) (hB : Below base w0 w) (hz : base ≤ w0.heap.size) (hg : w.grownBy w' v.ownBlock) : Below base w0 w' := grown_below hB hz h hg
theorem Ow.keep {w w' : World} {base : Nat} {v : Value} {L : List UInt16} (h : Ow w base v L) (hg : ∀ k, v.ownBlock = some k → w'.heap[k]? = w.heap[k]?) : Ow w' base v L := by
  refine ⟨h.1, ?_⟩
  rcases h.2 with hn | ⟨g, cap, cur, hv, hb, hgb, rest⟩
  · exact .inl hn
  · exact .inr ⟨g, cap, cur, hv, hb, (hg g (by rw [hv]; rfl)).trans hgb, rest⟩
def risN (os : List UInt16) (n : Nat) : List UInt16 := (List.range n).flatMap (fun n => os.filter (fun x => x.toNat == n))
theorem risN_succ (os : List UInt16) (n : Nat) : risN os (n + 1) = risN os n ++ os.filter (fun x => x.toNat == n) := by
  unfold risN
  rw [List.range_succ, List.flatMap_append]
  simp
theorem filter_take18 {α : Type} {p : α → Bool} {l : List α} {k : Nat} {x : α} (hx : l[k]? = some x) : (l.take (k + 1)).filter p = (l.take k).filter p ++ (if p x then [x] else []) := by
  obtain ⟨hk, he⟩ := List.getElem?_eq_some_iff.1 hx
  rw [List.take_succ_eq_append_getElem hk, he, List.filter_append]
  cases h : p x <;> simp [h]
theorem risN_len (os : List UInt16) (n : Nat) : (risN os n).length ≤ n * os.length := by
  induction n with
  | zero => simp [risN]
  | succ n ih =>
    rw [risN_succ, List.length_append, Nat.succ_mul]
    have := List.length_filter_le (fun x => x.toNat == n) os
    omega
set_option maxHeartbeats 4000000 in
theorem rising18_any (A : Option Addr) (c : Nat) (os : List UInt16) (w : World) (ho : os.length ≤ 20) (hE : Els 1 u16c w A os) :
    Calls Try.prog 11 #[.slice A os.length c] w fun e w' => ∃ B d, e = .returned (.slice B (risen os).length d) ∧ Els 1 u16c w' B (risen os) ∧ (∀ a, B = some a → w.heap.size ≤ a.block) ∧ Below w.heap.size w w' := by
  have HE := Lib.hid hE
  obtain ⟨n, hn⟩ : ∃ n, os.length = n := ⟨_, rfl⟩
  have HN := Lib.hid hn
  rw [hn] at ho ⊢
  clear hE hn
  have hn20 : (n : Int) ≤ 20 := by omega
  have HO20 := Lib.hid ho
  obtain ⟨i0, hi⟩ := info_parts18 infoU16
  have HIT := Lib.hid hi
  clear hi ho
  go_enter Try.func11, Try.ntmps11
  go_wp2
  go_loopw [4, 3] (fun i v wr => ∃ N : Nat, N ≤ 8192 ∧ i = .int .i64 N ∧ Hid (Ow wr w.heap.size v (risN os N)) ∧ Hid (Below w.heap.size w wr)) (fun i _ _ => 8192 - (intOf i).toNat)
  case atStart => exact ⟨0, Nat.zero_le _, rfl, Lib.hid (Ow.nil _ _), Lib.hid (Below.refl _ _)⟩
  case round =>
    obtain ⟨N, hN, rfl, HO, HB⟩ := hrel
    obtain ⟨wo, rfl⟩ : ∃ wo, wo = wr := ⟨_, rfl⟩
    by_cases hlt : N < 8192
    · have hNi : (N : Int) < 8192 := by omega
      have HLT := Lib.hid hlt
      clear hlt
      go_wp2
      go_loopw [5, 3] (fun i v wr => ∃ k : Nat, k ≤ n ∧ i = .int .i64 k ∧ Hid (Ow wr w.heap.size v (risN os N ++ (os.take k).filter (fun x => x.toNat == N))) ∧ Hid (Below w.heap.size w wr)) (fun i _ _ => n - (intOf i).toNat)
      case atStart => exact ⟨0, Nat.zero_le _, rfl, Lib.hid (by simpa using HO.out), HB⟩
      case round =>
        obtain ⟨k, hk, rfl, HO2, HB2⟩ := hrel
        by_cases hkt : k < n
        · obtain ⟨x, hx⟩ : ∃ x, os[k]? = some x := ⟨_, List.getElem?_eq_getElem (by rw [HN.out]; exact hkt)⟩
          have hki : (k : Int) < n := by omega
          have hni : (n : Int) ≤ 20 := hn20
          obtain ⟨b1, o1, rfl, hb1, c1⟩ := u16c_at (HE.out.next HB2.out) hx
          have HX := Lib.hid hx
          have HKT := Lib.hid hkt
          have hwx : IntKind.i64.wrap (x.toNat : Int) = (x.toNat : Int) := by have := x.toNat_lt; simp [IntKind.wrap, IntKind.signed, IntKind.bits]; omega
          clear hx hkt
          by_cases hq : x.toNat = N
          · obtain rfl : N = x.toNat := hq.symm
            have d1 : ((x.toNat : Int) == (x.toNat : Int)) = true := by simp
            have HF : Hid (risN os x.toNat ++ (os.take (k + 1)).filter (fun y => y.toNat == x.toNat) = (risN os x.toNat ++ (os.take k).filter (fun y => y.toNat == x.toNat)) ++ [x]) := Lib.hid (by rw [filter_take18 HX.out]; simp)
            have hle : (risN os x.toNat ++ (os.take k).filter (fun y => y.toNat == x.toNat)).length ≤ 200000 := by
              rw [List.length_append]
              have h1 := risN_len os x.toNat
              have h2 := List.length_filter_le (fun y => y.toNat == x.toNat) (os.take k)
              rw [List.length_take] at h2
              have h3 : x.toNat * os.length ≤ 8192 * 20 := Nat.mul_le_mul (by have := HLT.out; omega) (by rw [HN.out]; exact HO20.out)
              have := HKT.out
              have := HO20.out
              omega
            obtain ⟨L, hL⟩ : ∃ L, risN os x.toNat ++ (os.take k).filter (fun y => y.toNat == x.toNat) = L := ⟨_, rfl⟩
            rw [hL] at HO2 HF hle
            have HLE := Lib.hid hle
            clear hL hle
            go_wp2_with (at_builtin; refine wpl_appL rfl (.tmp 23) (.tmp 28) _ rfl u16c_len u16c_one (by decide) w.heap.size _ i0 _ 2 Try.underlying25 HIT.out rfl _ L rfl (World.ownsRow.alloc HO2.out _) (some ⟨wr.heap.size, 0, none⟩) 1 1 [x] rfl rfl (fun e => by cases e) (els_one18 wr _ x _ rfl) (by have := HLE.out; simp; omega) (by decide) (by have := HB2.out.size; simp; omega) ?_)
            intro v5 w5 ho5 hg5 _
            have HO5 : Hid (Ow w5 w.heap.size v5 (L ++ [x])) := Lib.hid (by unfold Ow; simpa using ho5)
            have HB5 : Hid (Below w.heap.size w w5) := Lib.hid ((HB2.out.alloc HB2.out.size _).grown hg5 (by have := HB2.out.size; simp; omega) (fun j hj => (World.ownsRow.lt HO2.out j hj).1))
            clear ho5 hg5
            go_wp2
            go_roundw
            case rel => exact ⟨k + 1, by have := HKT.out; omega, by go_num, Lib.hid (by rw [HF.out]; exact HO5.out), HB5⟩
            case measure => have := HKT.out; simp [intOf]; omega
          · have d1 : ¬ (x.toNat : Int) = (N : Int) := by omega
            have HF : Hid (risN os N ++ (os.take (k + 1)).filter (fun x => x.toNat == N) = risN os N ++ (os.take k).filter (fun x => x.toNat == N)) := Lib.hid (by rw [filter_take18 HX.out]; simp [hq])
            clear hq
            go_wp2
            go_roundw
            case rel => exact ⟨k + 1, by have := HKT.out; omega, by go_num, Lib.hid (by rw [HF.out]; exact HO2.out), HB2⟩
            case measure => have := HKT.out; simp [intOf]; omega
        · obtain rfl : k = n := by omega
          go_wp2
          go_roundw
          case rel => exact ⟨N + 1, by have := HLT.out; omega, by go_num, Lib.hid (by
            have h := HO2.out
            rw [List.take_of_length_le (by rw [HN.out]; exact Nat.le_refl _)] at h
            rw [risN_succ]
            exact h), HB2⟩
          case measure => have := HLT.out; simp [intOf]; omega
    · obtain rfl : N = 8192 := by omega
      have h : Ow wo w.heap.size _ (risen os) := HO.out
      obtain ⟨B, d, rfl, hE5, _, _, hA5⟩ := h.full
      have HE5 := Lib.hid (And.intro hE5 hA5)
      clear hE5 hA5 h HO
      obtain ⟨r, hr⟩ : ∃ r, (risen os).length = r := ⟨_, rfl⟩
      rw [hr]
      have HR := Lib.hid hr
      clear hr
      go_wp2
      go_ret
      exact ⟨B, d, by rw [HR.out]; rfl, HE5.out.1, fun a ha => (HE5.out.2 a ha).1, HB.out⟩
end Go.Proofs.Ytkmdgpfaaniibaa
