/- vector.Sort. -/
import Derived.Test.YtbcdkpjfenedmaaVecSeq
import Derived.Shelf.SlSortCmp.WholeK
import Derived.Shelf.SlSortCmp.NoneTotal
namespace Go.Proofs.Ytbcdkpjfenedmaa
open Go.RowKit Go.Shelf Go.Sort
set_option linter.unusedVariables false
set_option linter.unusedSimpArgs false

theorem flat_get {α : Type} (k : Nat) (enc : α → List Value) (hk : ∀ x, (enc x).length = k) (l : List α) (i : Nat) (hi : i < l.length) (j : Nat) (hj : j < k) : (l.flatMap enc)[i * k + j]? = (enc l[i])[j]? := by
  induction l generalizing i with
  | nil => simp at hi
  | cons x l ih =>
    rw [List.flatMap_cons]
    cases i with
    | zero =>
      rw [List.getElem?_append_left (by rw [hk]; omega)]
      simp
    | succ i =>
      rw [List.getElem?_append_right (by rw [hk, Nat.add_mul]; omega), hk, show (i + 1) * k + j - k = i * k + j by rw [Nat.add_mul]; omega]
      simpa using ih i (by simpa using hi)
theorem flat_len {α : Type} (k : Nat) (enc : α → List Value) (hk : ∀ x, (enc x).length = k) (l : List α) : (l.flatMap enc).length = l.length * k := by
  induction l with
  | nil => simp
  | cons x l ih => rw [List.flatMap_cons, List.length_append, hk, ih, List.length_cons, Nat.add_mul]; omega
/-- what a slice owns it reads -/
theorem own_els {α : Type} {k : Nat} {enc : α → List Value} (hk : ∀ x, (enc x).length = k) {w : World} {base : Nat} {t : TypeId} {v : Value} {l : List α} (h : w.ownsRow base t k v l.length (l.flatMap enc)) :
    ∃ A c, v = .slice A l.length c ∧ Els k enc w A l := by
  rcases h.2 with ⟨rfl, hn⟩ | ⟨g, cap, cur, rfl, hb, hg, _⟩
  · exact ⟨none, 0, by rw [hn], fun h0 => absurd h0 (by omega)⟩
  · refine ⟨_, cap, rfl, fun h0 => ⟨g, 0, rfl, (Array.getElem?_eq_some_iff.1 hg).1, fun i hi j v hv => ?_⟩⟩
    have hj : j < k := by rw [← hk l[i]]; exact (List.getElem?_eq_some_iff.1 hv).1
    have := World.ownsRow.cells h (g := g) rfl (i * k + j) v (by rw [flat_get k enc hk l i hi j hj]; exact hv)
    have hadd : (⟨g, 0, none⟩ : Addr).add (i * k + j) = ⟨g, 0 + i * k + j, none⟩ := by unfold Addr.add; split <;> simp_all
    rw [hadd] at this
    exact this
/-- what a slice owns it holds, as the shelf's sort says it -/
theorem own_holds {α : Type} [Inhabited α] {k : Nat} {enc : α → List Value} (hk : ∀ x, (enc x).length = k) (k0 : 0 < k) {w : World} {base g c : Nat} {t : TypeId} {l : List α} (h : w.ownsRow base t k (.slice (some ⟨g, 0, none⟩) l.length c) l.length (l.flatMap enc)) :
    HoldsK enc k w g 0 l.toArray := by
  intro t ht
  rw [size_flatK] at ht
  have ht' : t < l.length * k := by simpa using ht
  rw [get_flatK _ _ _ _ ht]
  have hi : t / k < l.length := Nat.div_lt_of_lt_mul (by rw [Nat.mul_comm]; exact ht')
  have hm : t % k < k := Nat.mod_lt _ k0
  have hx : (l.toArray)[t / k]! = l[t / k] := by rw [getElem!_pos l.toArray (t / k) (by simpa using hi)]; simp
  rw [hx]
  have hlt : t % k < (enc l[t / k]).length := by rw [hk]; exact hm
  have hv : (enc l[t / k])[t % k]? = some (enc l[t / k])[t % k]! := by rw [getElem!_pos (enc l[t / k]) (t % k) hlt]; exact List.getElem?_eq_getElem hlt
  have hf := flat_get k enc hk l (t / k) hi (t % k) hm
  rw [Nat.mul_comm, Nat.div_add_mod] at hf
  have hc := World.ownsRow.cells h (g := g) rfl t _ (by rw [hf]; exact hv)
  have hadd : (⟨g, 0, none⟩ : Addr).add t = ⟨g, 0 + t, none⟩ := by unfold Addr.add; split <;> simp_all
  rw [hadd] at hc
  refine ⟨hc, ?_⟩
  rcases h.2 with ⟨hn, _⟩ | ⟨g', cap, cur, hv', hb, hg, _⟩
  · cases hn
  · cases hv'
    simp [World.frozen?, hg]
/-- the sort turns its row alone -/
theorem sorted_below {α : Type} [Inhabited α] {k : Nat} {enc : α → List Value} {w : World} {g n B : Nat} {d : Array α} {os : Array Obj} (hB : B ≤ w.heap.size) (hg : B ≤ g) : Go.RowKit.Below B w (sortWorldK enc k w g 0 n d os) := by
  unfold sortWorldK putRowK
  refine ⟨rfl, rfl, rfl, by simp, fun j hj => ?_⟩
  rw [heap_grow_old _ _ (by simp; exact Nat.lt_of_lt_of_le hj hB)]
  have hne : g ≠ j := by omega
  simp [putRow, mapBlock, Sort.ahead, Array.getElem?_modify, hne]
theorem holds_els {α : Type} [Inhabited α] {k : Nat} {enc : α → List Value} (hk : ∀ x, (enc x).length = k) {w : World} {g : Nat} {d : Array α} (hg : g < w.heap.size) (h : HoldsK enc k w g 0 d) : Els k enc w (some ⟨g, 0, none⟩) d.toList := by
  intro _
  refine ⟨g, 0, rfl, hg, fun i hi j v hv => ?_⟩
  have hi' : i < d.size := by simpa using hi
  have hj : j < k := by rw [← hk d.toList[i]]; exact (List.getElem?_eq_some_iff.1 hv).1
  have hc := (h.cell hi' hj).1
  rw [hc]
  have hx : d[i]! = d.toList[i] := by rw [getElem!_pos d i hi']; simp
  rw [hx]
  have hlt : j < (enc d.toList[i]).length := by rw [hk]; exact hj
  rw [getElem!_pos (enc d.toList[i]) j hlt, ← hv]
  exact (List.getElem?_eq_getElem hlt).symm

theorem ltOf_less (x y : Ve) : ltOf cmpV x y = lessV x y := by
  unfold ltOf
  rw [Bool.eq_iff_iff]
  simp only [decide_eq_true_eq]
  exact cmpV_lt
theorem swoV : SWO (ltOf cmpV) where
  irrefl x := by rw [ltOf_less, lessV_irrefl]
  trans x y z h1 h2 := by rw [ltOf_less] at *; exact lessV_trans h1 h2
  ntrans x y z h1 h2 := by
    rw [ltOf_less] at *
    have a : ¬ lessV x y = true := by simp [h1]
    have b : ¬ lessV y z = true := by simp [h2]
    have c : ¬ lessV x z = true := by rw [lessV_iff] at *; omega
    simpa using c
def sortV_ren : Go.Shelf.Ren := ⟨fun | 6 => 28 | 15 => 32 | 14 => 31 | 28 => 41 | 29 => 42 | 20 => 33 | 21 => 34 | 22 => 35 | 23 => 36 | 24 => 37 | 25 => 38 | 26 => 39 | 27 => 40 | 46 => 43 | 47 => 44 | 48 => 45 | 49 => 46 | 50 => 47 | 57 => 48 | n => n, fun | 22 => 48 | 24 => 27 | 25 => 33 | 3 => 3 | 39 => 72 | 0 => 0 | 53 => 23 | 55 => 22 | 4 => 4 | 46 => 75 | 45 => 74 | 50 => 79 | 5 => 5 | 9 => 9 | 66 => 83 | 70 => 87 | 76 => 89 | 77 => 90 | n => n, fun | n => n⟩
theorem sortV : Go.Proofs.SlLaysF0.n6 Try.prog sortV_ren := {
  mixed := by kernel_rfl
  f6 := ⟨Try.f28.name, by decide, Try.func28.trans (congrArg some (by kernel_rfl))⟩
  f14 := ⟨Try.f31.name, by decide, Try.func31.trans (congrArg some (by kernel_rfl))⟩
  f15 := Try.func32.trans (congrArg some (by kernel_rfl))
  f20 := ⟨Try.f33.name, by decide, Try.func33.trans (congrArg some (by kernel_rfl))⟩
  f21 := ⟨Try.f34.name, by decide, Try.func34.trans (congrArg some (by kernel_rfl))⟩
  f22 := ⟨Try.f35.name, by decide, Try.func35.trans (congrArg some (by kernel_rfl))⟩
  f23 := ⟨Try.f36.name, by decide, Try.func36.trans (congrArg some (by kernel_rfl))⟩
  f24 := ⟨Try.f37.name, by decide, Try.func37.trans (congrArg some (by kernel_rfl))⟩
  f25 := ⟨Try.f38.name, by decide, Try.func38.trans (congrArg some (by kernel_rfl))⟩
  f26 := ⟨Try.f39.name, by decide, Try.func39.trans (congrArg some (by kernel_rfl))⟩
  f27 := ⟨Try.f40.name, by decide, Try.func40.trans (congrArg some (by kernel_rfl))⟩
  f28 := Try.func41.trans (congrArg some (by kernel_rfl))
  f29 := Try.func42.trans (congrArg some (by kernel_rfl))
  f46 := ⟨Try.f43.name, by decide, Try.func43.trans (congrArg some (by kernel_rfl))⟩
  f47 := Try.func44.trans (congrArg some (by kernel_rfl))
  f48 := Try.func45.trans (congrArg some (by kernel_rfl))
  f49 := ⟨Try.f46.name, by decide, Try.func46.trans (congrArg some (by kernel_rfl))⟩
  f50 := ⟨Try.f47.name, by decide, Try.func47.trans (congrArg some (by kernel_rfl))⟩
  f57 := ⟨Try.f48.name, by decide, Try.func48.trans (congrArg some (by kernel_rfl))⟩
  t0 := Try.underlying0
  a0 := Try.isAgg0
  z0 := Try.sizeOf0
  v0 := Try.zeroValue0
  t3 := Try.underlying3
  a3 := Try.isAgg3
  z3 := Try.sizeOf3
  v3 := Try.zeroValue3
  t4 := Try.underlying4
  a4 := Try.isAgg4
  z4 := Try.sizeOf4
  v4 := Try.zeroValue4
  t5 := Try.underlying5
  a5 := Try.isAgg5
  z5 := Try.sizeOf5
  v5 := Try.zeroValue5
  t9 := Try.underlying9
  a9 := Try.isAgg9
  z9 := Try.sizeOf9
  v9 := Try.zeroValue9
  t22 := Try.underlying48
  a22 := Try.isAgg48
  z22 := Try.sizeOf48
  v22 := Try.zeroValue48
  t25 := Try.underlying33
  a25 := Try.isAgg33
  z25 := Try.sizeOf33
  v25 := Try.zeroValue33
  t39 := Try.underlying72
  a39 := Try.isAgg72
  z39 := Try.sizeOf72
  v39 := Try.zeroValue72
  t45 := Try.underlying74
  a45 := Try.isAgg74
  z45 := Try.sizeOf74
  v45 := Try.zeroValue74
  t46 := Try.underlying75
  a46 := Try.isAgg75
  z46 := Try.sizeOf75
  v46 := Try.zeroValue75
  t50 := Try.underlying79
  a50 := Try.isAgg79
  z50 := Try.sizeOf79
  v50 := Try.zeroValue79
  t53 := Try.underlying23
  a53 := Try.isAgg23
  z53 := Try.sizeOf23
  v53 := Try.zeroValue23
  t55 := Try.underlying22
  a55 := Try.isAgg22
  z55 := Try.sizeOf22
  v55 := Try.zeroValue22
  t66 := Try.underlying83
  a66 := Try.isAgg83
  z66 := Try.sizeOf83
  v66 := Try.zeroValue83
  t70 := Try.underlying87
  a70 := Try.isAgg87
  z70 := Try.sizeOf87
  v70 := Try.zeroValue87
  t76 := Try.underlying89
  a76 := Try.isAgg89
  z76 := Try.sizeOf89
  v76 := Try.zeroValue89
  t77 := Try.underlying90
  a77 := Try.isAgg90
  z77 := Try.sizeOf90
  v77 := Try.zeroValue90 }

theorem cmpLaysV (blk off size : Nat) (w : World) : CmpLays Try.prog 11 #[] encV 4 cmpV blk off size w :=
  fun _ _ _ _ x y => (compare_any _ x y).mono fun _ _ ⟨he, hg⟩ => ⟨he, hg.out⟩
theorem sortfunc_any (w : World) (g c : Nat) (zs : List Ve) (hN : zs.length ≤ 1000000) (base : Nat) (h : w.ownsRow base 27 4 (.slice (some ⟨g, 0, none⟩) zs.length c) zs.length (zs.flatMap encV)) (hb : base ≤ w.heap.size) (hg : base ≤ g) :
    Calls Try.prog 28 #[.slice (some ⟨g, 0, none⟩) zs.length c, .func (.func 11) #[] #[]] w fun e W' => e = .returned (.tuple #[]) ∧ ∃ ts : List Ve, ts.Perm zs ∧ (∀ i j (hi : i < j) (hj : j < ts.length), lessV ts[j] ts[i] = false) ∧ Els 4 encV W' (some ⟨g, 0, none⟩) ts ∧ Below base w W' := by
  have hlt : g < w.heap.size := by
    rcases h.2 with ⟨hn, _⟩ | ⟨g', cap, cur, hv', hb, hg, _⟩
    · cases hn
    · cases hv'
      exact (Array.getElem?_eq_some_iff.1 hg).1
  have hH := own_holds (k := 4) (fun _ => rfl) (by omega) h
  have hcon := AnyQ.slices_SortFunc sortV 4 Try.isAgg27 Try.sizeOf27 encV (fun _ => rfl) (fun x v hv => encV_one x v hv) cmpV swoV 11 #[] g 0 c zs.toArray w (enters_of Try.func11 (by kernel_rfl) rfl) (cmpLaysV g 0 _ w) hH hlt (by simp; omega)
  have hcon' : Calls Try.prog 28 #[.slice (some ⟨g, 0, none⟩) zs.length c, .func (.func 11) #[] #[]] w _ := hcon
  refine hcon'.mono ?_
  rintro e W' ⟨rfl, d', n, os, hp, hs, rfl⟩
  obtain ⟨hp1, hp2, hp3⟩ := hp
  have hsz : d'.size = zs.length := by simpa using hp1
  refine ⟨rfl, d'.toList, ?_, fun i j hi hj => ?_, ?_, sorted_below hb hg⟩
  · have e1 : (d'.extract 0 zs.toArray.size).toList = d'.toList := by
      rw [show zs.toArray.size = d'.size by simp [hsz]]; simp
    have e2 : (zs.toArray.extract 0 zs.toArray.size).toList = zs := by simp
    rw [e1, e2] at hp3
    exact hp3
  · have hj' : j < d'.size := by simpa using hj
    have := hs i j (Nat.zero_le _) hi (by simpa [hsz] using hj')
    rw [ltOf_less, getElem!_pos d' i (by omega), getElem!_pos d' j hj'] at this
    simpa using this
  · refine holds_els (α := Ve) (k := 4) (enc := encV) (d := d') (fun _ => rfl) (Nat.lt_of_lt_of_le hlt (size_sortWorldK_c encV 4 w g 0 n d' os)) ?_
    exact holdsK_sortWorldK_c encV 4 w g 0 zs.toArray d' n os hH hlt (by simpa using hsz)
theorem sortfunc_none (w : World) (A : Option Addr) (c : Nat) (fv : Value) : Calls Try.prog 28 #[.slice A 0 c, fv] w fun e w' => e = .returned (.tuple #[]) ∧ w' = w :=
  AnyF.slices_SortFunc_none { sortV with } A c fv w
/-- a new slice that holds the vectors, the least first -/
def SortedAs (w : World) (zs : List Ve) (e : Ending) (W' : World) : Prop :=
  ∃ (A' : Option Addr) (c' : Nat) (ts : List Ve), e = .returned (.slice A' zs.length c') ∧ ts.Perm zs ∧ (∀ i j (hi : i < j) (hj : j < ts.length), lessV ts[j] ts[i] = false) ∧ Els 4 encV W' A' ts ∧ Below w.heap.size w W'
theorem collect_any (w0 w : World) (A : Option Addr) (c : Nat) (zs : List Ve) (hN : zs.length ≤ 1000000) (hE : Els 4 encV w0 A zs) (hw : Below w0.heap.size w0 w) (Bs : Nat) (hBs : Bs < w.heap.size) (hc : w.cell? ⟨Bs, 0, none⟩ = some (.slice A zs.length c)) :
    Calls Try.prog 27 #[.func (.func 29) #[] #[.pointer (some ⟨Bs, 0, none⟩)]] w fun e W' => ∃ v, e = .returned v ∧ W'.ownsRow w.heap.size 27 4 v zs.length (zs.flatMap encV) ∧ (v = .slice none 0 0 ↔ zs = []) ∧ Below w.heap.size w W' :=
  callsIn_wide.1 (collectV_in Fence.wide 6 trivial trivial rfl (by omega) 29 #[.pointer (some ⟨Bs, 0, none⟩)] trivial (enters_of Try.func29 (by kernel_rfl) rfl) w zs hN
    (valsV_stops Fence.wide 4 trivial rfl (by omega) Bs w.heap.size c A zs (by omega) w hBs (Nat.le_refl _) w0 hw.size hE hw hc))
set_option maxHeartbeats 1000000 in
theorem sortedFunc_any (w0 w : World) (A : Option Addr) (c : Nat) (zs : List Ve) (hN : zs.length ≤ 1000000) (hE : Els 4 encV w0 A zs) (hw : Below w0.heap.size w0 w) (Bs : Nat) (hBs : Bs < w.heap.size) (hc : w.cell? ⟨Bs, 0, none⟩ = some (.slice A zs.length c)) :
    Calls Try.prog 22 #[.func (.func 29) #[] #[.pointer (some ⟨Bs, 0, none⟩)], .func (.func 11) #[] #[]] w (SortedAs w zs) := by
  have hcol := collect_any w0 w A c zs hN hE hw Bs hBs hc
  have HN := Lib.hid hN
  clear hE hw hc hBs hN
  go_enter Try.func22, Try.ntmps22
  go_wp2_with fail
  refine hcol.mono ?_
  rintro e w1 ⟨v, rfl, hrow, hnil, hb⟩
  rcases Nat.eq_zero_or_pos zs.length with hz | hz
  · obtain rfl : zs = [] := List.eq_nil_of_length_eq_zero hz
    obtain rfl : v = .slice none 0 0 := hnil.2 rfl
    have HB := Lib.hid hb
    clear hrow hnil hb hcol hz
    go_wp2_with fail
    refine (sortfunc_none _ _ _ _).mono ?_
    rintro e w2 ⟨rfl, rfl⟩
    go_wp2
    go_ret
    exact ⟨none, 0, [], rfl, List.Perm.refl _, fun i j hi hj => absurd hj (by simp), fun h => absurd h (by simp), HB.out⟩
  · obtain ⟨k, hk⟩ : ∃ k, zs.length = k + 1 := ⟨zs.length - 1, by omega⟩
    rw [hk] at hrow
    obtain ⟨g, cap, rfl⟩ := ownsRow_succ hrow
    have hg : w.heap.size ≤ g := (hrow.lt g (by simp [Value.ownBlock])).1
    rw [← hk] at hrow
    have hs := sortfunc_any w1 g cap zs HN.out w.heap.size hrow hb.size hg
    rw [← hk]
    have HB := Lib.hid hb
    clear hrow hnil hb hcol hz hg
    obtain ⟨n, hn⟩ : ∃ n, zs.length = n := ⟨_, rfl⟩
    have HK := Lib.hid hn
    rw [hn] at hs ⊢
    clear hn hk
    go_wp2_with fail
    refine hs.mono ?_
    rintro e w2 ⟨rfl, ts, h1, h2, h3, h4⟩
    have H : Hid (ts.Perm zs ∧ (∀ i j (hi : i < j) (hj : j < ts.length), lessV ts[j] ts[i] = false) ∧ Els 4 encV w2 (some ⟨g, 0, none⟩) ts ∧ Below w.heap.size w1 w2) := Lib.hid ⟨h1, h2, h3, h4⟩
    clear h1 h2 h3 h4 hs
    go_wp2
    go_ret
    exact ⟨_, cap, ts, by rw [HK.out]; rfl, H.out.1, H.out.2.1, H.out.2.2.1, HB.out.trans H.out.2.2.2⟩
set_option maxHeartbeats 1000000 in
/-- Sort: the vectors, the least first -/
theorem sort_any (w : World) (A : Option Addr) (c : Nat) (zs : List Ve) (hN : zs.length ≤ 1000000) (hE : Els 4 encV w A zs) :
    Calls Try.prog 15 #[.slice A zs.length c] w (SortedAs w zs) := by
  have HE := Lib.hid hE
  obtain ⟨n, hn⟩ : ∃ n, zs.length = n := ⟨_, rfl⟩
  have HK := Lib.hid hn
  have HN := Lib.hid hN
  rw [hn]
  clear hE hN hn
  go_enter Try.func15, Try.ntmps15
  go_wp2_with fail
  refine (callsIn_wide.1 (valsV_in Fence.wide 3 trivial rfl _ _ _ _)).mono ?_
  rintro e w1 ⟨rfl, rfl⟩
  go_wp2_with fail
  refine (sortedFunc_any w _ A c zs HN.out HE.out ((Below.refl _ w).alloc (Nat.le_refl _) _) w.heap.size (by simp) (by rw [HK.out]; simp)).mono ?_
  rintro e w2 ⟨A', c', ts, rfl, h1, h2, h3, h4⟩
  have H : Hid (ts.Perm zs ∧ (∀ i j (hi : i < j) (hj : j < ts.length), lessV ts[j] ts[i] = false) ∧ Els 4 encV w2 A' ts) := Lib.hid ⟨h1, h2, h3⟩
  have HB : Hid (Below w.heap.size w w2) := Lib.hid (((Below.refl _ w).alloc (Nat.le_refl _) _).trans (h4.mono (by simp)))
  rw [HK.out]
  clear h1 h2 h3 h4
  go_wp2
  go_ret
  exact ⟨_, c', ts, by rw [HK.out]; rfl, H.out.1, H.out.2.1, H.out.2.2, HB.out⟩
end Go.Proofs.Ytbcdkpjfenedmaa
