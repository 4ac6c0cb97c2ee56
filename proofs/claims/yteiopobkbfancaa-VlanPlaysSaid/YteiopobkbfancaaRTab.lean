/- Layer 7: the document's table: as a value; Has, Find, Members. -/
import Derived.Test.YteiopobkbfancaaVw5
import Derived.Test.YteiopobkbfancaaApp
import Derived.IntWalk
import Derived.Deep.DeepCutAuto
namespace Go.Proofs.Yteiopobkbfancaa
open Go.RowKit
set_option linter.unusedVariables false
set_option linter.unusedSimpArgs false
set_option maxRecDepth 100000

/-- a VLAN, as a row's element -/
def encN (x : Vn) : List Value := [.int .u16 x.v.toNat, .int .u8 x.m.toNat, .int .u8 x.u.toNat]
theorem encN_len (x : Vn) : (encN x).length = 3 := rfl
theorem encN_pos (x : Vn) : 0 < (encN x).length := Nat.zero_lt_succ _
/-- the cells of the document's table -/
structure DTV (cs : Array Value) (N : Nat) (A : Option Addr) (c : Nat) (L : List Vn) (own : List UInt16) : Prop where
  sz : cs.size = 10
  c0 : cs[0]? = some (.int .i64 N)
  c1 : cs[1]? = some (.slice A L.length c)
  own8 : own.length = 8
  co : ∀ i x, own[i]? = some x → cs[2 + i]? = some (.int .u16 x.toNat)
  one : cs.all (·.oneCell') = true
theorem all_set {cs : Array Value} {i : Nat} {u : Value} (h : cs.all (·.oneCell') = true) (hu : u.oneCell' = true) : (cs.setIfInBounds i u).all (·.oneCell') = true := by
  rw [Array.all_eq_true] at h ⊢
  intro j hj
  rw [Array.getElem_setIfInBounds (by simpa using hj)]
  split
  · exact hu
  · exact h j (by simpa using hj)
theorem DTV.setL {cs : Array Value} {N : Nat} {A A' : Option Addr} {c c' : Nat} {L L' : List Vn} {own : List UInt16} (h : DTV cs N A c L own) : DTV (cs.setIfInBounds 1 (.slice A' L'.length c')) N A' c' L' own := by
  have hz := h.sz
  refine ⟨by simp [hz], ?_, ?_, h.own8, fun i x hi => ?_, all_set h.one rfl⟩
  · rw [Array.getElem?_setIfInBounds_ne (by omega)]; exact h.c0
  · rw [Array.getElem?_setIfInBounds_self_of_lt (by omega)]
  · rw [Array.getElem?_setIfInBounds_ne (by omega)]; exact h.co i x hi
theorem DTV.setOwn {cs : Array Value} {N : Nat} {A : Option Addr} {c : Nat} {L : List Vn} {own : List UInt16} (h : DTV cs N A c L own) {p : Nat} (hp : p < 8) (x : UInt16) : DTV (cs.setIfInBounds (2 + p) (.int .u16 x.toNat)) N A c L (own.set p x) := by
  have hz := h.sz
  have h8 := h.own8
  refine ⟨by simp [hz], ?_, ?_, by simp [h8], fun i y hy => ?_, all_set h.one rfl⟩
  · rw [Array.getElem?_setIfInBounds_ne (by omega)]; exact h.c0
  · rw [Array.getElem?_setIfInBounds_ne (by omega)]; exact h.c1
  · rw [List.getElem?_set] at hy
    split at hy
    · rename_i e
      subst e
      rw [if_pos (by omega)] at hy
      cases hy
      rw [Array.getElem?_setIfInBounds_self_of_lt (by omega)]
    · rw [Array.getElem?_setIfInBounds_ne (by omega)]
      exact h.co i y hy
theorem info_rt : (Try.prog.info? 36).map (·.size) = some 10 := by kernel_rfl
/-- the document's table at g -/
structure DT (w : World) (g : Nat) (cs : Array Value) (N : Nat) (A : Option Addr) (c : Nat) (L : List Vn) (own : List UInt16) : Prop where
  blk : Blk w g 36 cs
  v : DTV cs N A c L own
section
variable {w w' : World} {g N c : Nat} {cs : Array Value} {A : Option Addr} {L : List Vn} {own : List UInt16}
theorem DT.c0 (h : DT w g cs N A c L own) : w.cell? ⟨g, 0, none⟩ = some (.int .i64 N) := by rw [h.blk.cell 0, h.v.c0]
theorem DT.c1 (h : DT w g cs N A c L own) : w.cell? ⟨g, 1, none⟩ = some (.slice A L.length c) := by rw [h.blk.cell 1, h.v.c1]
theorem DT.co (h : DT w g cs N A c L own) {i : Nat} {x : UInt16} (hi : own[i]? = some x) : w.cell? ⟨g, 2 + i, none⟩ = some (.int .u16 x.toNat) := by rw [h.blk.cell (2 + i), h.v.co i x hi]
theorem DT.next (h : DT w g cs N A c L own) (hb : Below w.heap.size w w') : DT w' g cs N A c L own := ⟨h.blk.below hb h.blk.lt, h.v⟩
theorem DT.alloc (h : DT w g cs N A c L own) (o : Obj) : DT (w.alloc o) g cs N A c L own := ⟨h.blk.alloc o, h.v⟩
end
/-- a load of the document's table -/
theorem wpList_load_dt {ops : Array Oper} {rest : List Oper} {o : Oper} {a : Act} {w : World} {Q : Exit → Act → World → Prop} (x : Nat) (ho : o.op = .load 36 (.tmp x)) (hw : Region.wanted o (yielded ops a.tmps) = true) (g : Nat)
    (hx : a.eval (.tmp x) = .pointer (some ⟨g, 0, none⟩)) (cs : Array Value) (h : Blk w g 36 cs) (hz : cs.size = 10) (hK : wpList Try.prog ops Q rest (a.put o.dst (.agg cs)) w) : wpList Try.prog ops Q (o :: rest) a w :=
  wpList_step fun K hK' => by
    rw [if_pos hw]
    exact wp_load_row 36 (.tmp x) ho g hx _ _ (0, 0) _ h Try.underlying36 rfl (by rw [hz]; exact info_rt) (hK' _ _ hK)
theorem results_cell {P : Program} {fn : Func} {p : Tmp} {ty : TypeId} (h : fn.results = #[.cell p ty]) (tmps : Array Value) (w : World) (g : Nat) (t : TypeId) (cs : Array Value) (d : TypeDesc)
    (hp : tmps.getD p undef = .pointer (some ⟨g, 0, none⟩)) (hg : Blk w g t cs)
    (hu : P.underlying ty = some d) (hd : (match d with | .struct _ | .array _ _ => true | _ => false) = true) (hi : (P.info? ty).map (·.size) = some cs.size) :
    (results fn tmps).run P w = .ok (.agg cs) w := by
  have hp' : tmps[p]?.getD undef = .pointer (some ⟨g, 0, none⟩) := by simpa using hp
  simp [results, h, hp', asAddr, run_loadVar_row w g t ty cs (0, 0) d hg hu hd hi]
theorem results_slot_cell_slot {P : Program} {fn : Func} {r p q : Tmp} {ty : TypeId} (h : fn.results = #[.tmp r, .cell p ty, .tmp q]) (tmps : Array Value) (w : World) (g : Nat) (t : TypeId) (cs : Array Value) (d : TypeDesc)
    (hp : tmps.getD p undef = .pointer (some ⟨g, 0, none⟩)) (hg : Blk w g t cs)
    (hu : P.underlying ty = some d) (hd : (match d with | .struct _ | .array _ _ => true | _ => false) = true) (hi : (P.info? ty).map (·.size) = some cs.size) (u v : Value) (hr : tmps.getD r undef = u) (hq : tmps.getD q undef = v) :
    (results fn tmps).run P w = .ok (.tuple #[u, .agg cs, v]) w := by
  have hp' : tmps[p]?.getD undef = .pointer (some ⟨g, 0, none⟩) := by simpa using hp
  have hq' : tmps[q]?.getD undef = v := by simpa using hq
  have hr' : tmps[r]?.getD undef = u := by simpa using hr
  simp [results, h, hp', hq', hr', asAddr, run_loadVar_row w g t ty cs (0, 0) d hg hu hd hi]

/-- what VLAN k of the row holds in memory -/
theorem els_vn {w : World} {A : Option Addr} {L : List Vn} (h : Els 3 encN w A L) {k : Nat} {x : Vn} (hx : L[k]? = some x) :
    ∃ b off, A = some ⟨b, off, none⟩ ∧ b < w.heap.size ∧ w.cell? ⟨b, off + k * 3, none⟩ = some (.int .u16 x.v.toNat) ∧ w.cell? ⟨b, off + k * 3 + 1, none⟩ = some (.int .u8 x.m.toNat) ∧ w.cell? ⟨b, off + k * 3 + 2, none⟩ = some (.int .u8 x.u.toNat) := by
  obtain ⟨hk, rfl⟩ := List.getElem?_eq_some_iff.1 hx
  obtain ⟨b, off, e, hlt, hc⟩ := h (by omega)
  exact ⟨b, off, e, hlt, hc k hk 0 _ rfl, hc k hk 1 _ rfl, hc k hk 2 _ rfl⟩

set_option maxHeartbeats 1000000 in
theorem has7_any {w : World} (s p : UInt8) :
    Calls Try.prog 29 #[.int .u8 s.toNat, .int .u8 p.toNat] w fun e w' => e = .returned (.bool (has8 s p)) ∧ w = w' := by
  obtain ⟨q, hq⟩ : ∃ q, p.toNat = q := ⟨_, rfl⟩
  obtain ⟨n, hn⟩ : ∃ n, s.toNat = n := ⟨_, rfl⟩
  have hq8 : q < 256 := by rw [← hq]; exact p.toNat_lt
  have hn8 : n < 256 := by rw [← hn]; exact s.toNat_lt
  have HE : Hid (has8 s p = (n / 2 ^ q % 2 == 1)) := Lib.hid (by unfold has8; rw [hq, hn])
  rw [hq, hn]
  clear hq hn
  go_enter Try.func29, Try.ntmps29
  go_wp2
  go_loopw [0, 5] (fun s i wr => ∃ k : Nat, k ≤ q ∧ i = .int .u8 k ∧ s = .int .u8 (n / 2 ^ k : Nat) ∧ w = wr) (fun _ i _ => q - (intOf i).toNat)
  case atStart => exact ⟨0, Nat.zero_le _, rfl, by simp, rfl⟩
  case round =>
    obtain ⟨k, hk, rfl, rfl, rfl⟩ := hrel
    have h1 : n / 2 ^ k < 256 := Nat.lt_of_le_of_lt (Nat.div_le_self _ _) hn8
    obtain ⟨d, hd⟩ : ∃ d, n / 2 ^ k = d := ⟨_, rfl⟩
    have HD : Hid (n / 2 ^ (k + 1) = d / 2) := Lib.hid (by rw [Nat.pow_succ, ← Nat.div_div_eq_div_mul, hd])
    rw [hd] at h1 ⊢
    by_cases hlt : k < q
    · clear hd
      go_wp2
      go_roundw
      case rel => exact ⟨k + 1, by omega, by go_num, by rw [HD.out]; go_num, by first | rfl | trivial⟩
      case measure => simp [intOf]; omega
    · obtain rfl : k = q := by omega
      rw [hd] at HE
      clear hd HD
      go_wp2
      go_ret
      rw [HE.out]
      exact ⟨ret_ (congrArg Value.bool (by rw [Bool.eq_iff_iff]; simp only [beq_iff_eq]; omega)), rfl⟩

/-- the first VLAN of that number, or none of them -/
def isFind (L : List Vn) (v : UInt16) (z : Int) : Prop := (vhas L v = false ∧ z = -1) ∨ ∃ (k : Nat) (x : Vn), z = k ∧ L[k]? = some x ∧ vfind L v = some x
theorem take_no {L : List Vn} {v : UInt16} {k : Nat} {x : Vn} (h : vhas (L.take k) v = false) (hx : L[k]? = some x) (hn : x.v ≠ v) : vhas (L.take (k + 1)) v = false := by
  rw [List.take_add_one, hx]
  unfold vhas at *
  rw [List.any_append, h]
  simp [hn]
theorem take_yes {L : List Vn} {v : UInt16} {k : Nat} {x : Vn} (h : vhas (L.take k) v = false) (hx : L[k]? = some x) (hn : x.v = v) : vfind L v = some x := by
  have hk : k < L.length := (List.getElem?_eq_some_iff.1 hx).1
  have e : L = L.take k ++ x :: L.drop (k + 1) := by
    rw [← (List.getElem?_eq_some_iff.1 hx).2, ← List.drop_eq_getElem_cons hk, List.take_append_drop]
  have h' : (L.take k).find? (fun x => x.v == v) = none := vfind_none.2 h
  unfold vfind
  rw [e, List.find?_append, h']
  simp [hn]
set_option maxHeartbeats 2000000 in
theorem find_any {w : World} {cs : Array Value} {N c : Nat} {A : Option Addr} {L : List Vn} {own : List UInt16} (hv : DTV cs N A c L own) (hE : Els 3 encN w A L) (h8 : L.length ≤ 1000) (v : UInt16) :
    Calls Try.prog 26 #[.agg cs, .int .u16 v.toNat] w fun e w' => ∃ z, e = .returned (.int .i64 z) ∧ isFind L v z ∧ Below w.heap.size w w' := by
  obtain ⟨w1, hw1⟩ : ∃ w1, w.alloc (.cells cs 36) = w1 := ⟨_, rfl⟩
  obtain ⟨g, hg⟩ : ∃ g, w.heap.size = g := ⟨_, rfl⟩
  have HB := Lib.hid (show Below w.heap.size w w1 by rw [← hw1]; exact (Below.refl w.heap.size w).alloc (Nat.le_refl _) _)
  have HD := Lib.hid (show DT w1 g cs N A c L own from ⟨by rw [← hw1, ← hg]; exact Blk.new w _ _, hv⟩)
  have HE := Lib.hid (hE.next HB.out)
  obtain ⟨n, hn⟩ : ∃ n, L.length = n := ⟨_, rfl⟩
  have HN := Lib.hid hn
  have c1 := HD.out.c1
  rw [hn] at c1 h8
  clear hE hv hn
  go_enter Try.func26, Try.ntmps26
  go_upto_region 1 with fail
  clear hw1 hg
  go_wp2_with fail
  go_loopw [5] (fun i wr => ∃ k : Nat, k ≤ n ∧ i = .int .i64 k ∧ Hid (vhas (L.take k) v = false) ∧ w1 = wr) (fun i _ => n - (intOf i).toNat)
  case atStart => exact ⟨0, Nat.zero_le _, rfl, Lib.hid rfl, rfl⟩
  case round =>
    obtain ⟨k, hk, rfl, HK, rfl⟩ := hrel
    by_cases hlt : k < n
    · obtain ⟨x, hx⟩ : ∃ x, L[k]? = some x := ⟨_, List.getElem?_eq_getElem (by rw [HN.out]; exact hlt)⟩
      obtain ⟨b, off, rfl, hb, e0, e1, e2⟩ := els_vn HE.out hx
      have HX := Lib.hid hx
      have hkn : (k : Int) < n := by omega
      obtain ⟨y, hy⟩ : ∃ y, x.v.toNat = y := ⟨_, rfl⟩
      obtain ⟨q, hq⟩ : ∃ q, v.toNat = q := ⟨_, rfl⟩
      have HY := Lib.hid (And.intro hy hq)
      rw [hy] at e0
      clear hx e1 e2 hy
      by_cases he : y = q
      · have HF := Lib.hid (take_yes HK.out HX.out (UInt16.toNat_inj.1 (by rw [HY.out.1, HY.out.2, he])))
        rw [hq]
        clear hq
        subst he
        go_wp2
        go_ret
        exact ⟨_, rfl, .inr ⟨k, x, rfl, HX.out, HF.out⟩, HB.out⟩
      · have HF := Lib.hid (take_no HK.out HX.out (fun e => he (by rw [← HY.out.1, ← HY.out.2, e])))
        have he' : ¬ ((y : Int) = (q : Int)) := by omega
        have he2 : ((y : Int) == (q : Int)) = false := by simpa using he'
        rw [hq]
        clear hq he he'
        go_wp2
        go_roundw
        case rel => exact ⟨k + 1, by omega, by go_num, HF, by first | rfl | trivial⟩
        case measure => simp [intOf]; omega
    · obtain rfl : k = n := by omega
      have HF : Hid (vhas L v = false) := Lib.hid (by have := HK.out; rw [List.take_of_length_le (by rw [HN.out]; exact Nat.le_refl _)] at this; exact this)
      go_wp2
      go_ret
      exact ⟨_, rfl, .inl ⟨HF.out, rfl⟩, HB.out⟩
set_option maxHeartbeats 2000000 in
theorem dmem_any {w : World} {cs : Array Value} {N c : Nat} {A : Option Addr} {L : List Vn} {own : List UInt16} (hv : DTV cs N A c L own) (hE : Els 3 encN w A L) (h8 : L.length ≤ 1000) (v : UInt16) :
    Calls Try.prog 12 #[.agg cs, .int .u16 v.toNat] w fun e w' => e = .returned (.int .u8 (vm L v).toNat) ∧ Below w.heap.size w w' := by
  obtain ⟨w1, hw1⟩ : ∃ w1, w.alloc (.cells cs 36) = w1 := ⟨_, rfl⟩
  obtain ⟨g, hg⟩ : ∃ g, w.heap.size = g := ⟨_, rfl⟩
  have HB := Lib.hid (show Below w.heap.size w w1 by rw [← hw1]; exact (Below.refl w.heap.size w).alloc (Nat.le_refl _) _)
  have HD := Lib.hid (show DT w1 g cs N A c L own from ⟨by rw [← hw1, ← hg]; exact Blk.new w _ _, hv⟩)
  have HE := Lib.hid (hE.next HB.out)
  clear hE hv
  go_enter Try.func12, Try.ntmps12
  go_upto_region 1 with fail
  clear hw1 hg
  go_wp2_with (refine wpList_load_dt 2 rfl (by kernel_rfl) g rfl cs HD.out.blk HD.out.v.sz ?_)
  refine (find_any HD.out.v HE.out h8 v).mono ?_
  rintro e w2 ⟨z, rfl, hz, hb⟩
  have HD2 := Lib.hid (HD.out.next hb)
  have HE2 := Lib.hid (HE.out.next hb)
  have HB2 : Hid (Below w.heap.size w w2) := Lib.hid (HB.out.trans (hb.mono HB.out.size))
  clear hb HD HE HB
  rcases hz with ⟨hh, rfl⟩ | ⟨k, x, rfl, hx, hf⟩
  · have HV := Lib.hid (vm_none hh)
    clear hh
    go_wp2
    go_ret
    rw [HV.out]
    exact ⟨rfl, HB2.out⟩
  · have HV : Hid (vm L v = x.m) := Lib.hid (by unfold vm; rw [hf])
    have hkl : k < L.length := (List.getElem?_eq_some_iff.1 hx).1
    obtain ⟨b, off, rfl, hb, e0, e1, e2⟩ := els_vn HE2.out hx
    have c1 := HD2.out.c1
    obtain ⟨n, hn⟩ : ∃ n, L.length = n := ⟨_, rfl⟩
    rw [hn] at c1 hkl
    have hkn : (k : Int) < n := by omega
    clear hf hx hn h8
    go_wp2
    go_ret
    rw [HV.out]
    exact ⟨rfl, HB2.out⟩
end Go.Proofs.Yteiopobkbfancaa
