/- Layer 9: the machine in memory, cell by cell; has, isLink, own. -/
import Derived.Test.YtlpmilaofcakbaaTm
import Derived.Test.YtlpmilaofcakbaaOwnEls
import Derived.StillTailTactics
import Derived.BigQuiet
namespace Go.Proofs.Ytlpmilaofcakbaa
open Go.RowKit
set_option linter.unusedVariables false
set_option linter.unusedSimpArgs false
set_option maxRecDepth 100000

theorem flat_set {α : Type} (k : Nat) (enc : α → List Value) (hk : ∀ x, (enc x).length = k) (l : List α) (i : Nat) (hi : i < l.length) (j : Nat) (hj : j < k) (v : Value) (x' : α) (h : (enc l[i]).set j v = enc x') : (l.flatMap enc).set (i * k + j) v = (l.set i x').flatMap enc := by
  induction l generalizing i with
  | nil => simp at hi
  | cons x l ih =>
    rw [List.flatMap_cons]
    cases i with
    | zero =>
      rw [List.set_append_left _ _ (by rw [hk]; omega)]
      simp only [List.getElem_cons_zero] at h
      simp [h]
    | succ i =>
      rw [List.set_append_right _ _ (by rw [hk, Nat.add_mul]; omega), hk, show (i + 1) * k + j - k = i * k + j by rw [Nat.add_mul]; omega]
      rw [ih i (by simpa using hi) (by simpa using h)]
      simp
/-- the cells of a port at place o of block g -/
structure SdC (w : World) (g o : Nat) (p : Sd) : Prop where
  c0 : w.cell? ⟨g, o, none⟩ = some (.int .u32 p.cost)
  c1 : w.cell? ⟨g, o + 1, none⟩ = some (.bool p.up)
  c2 : w.cell? ⟨g, o + 2, none⟩ = some (.int .u64 p.b.v.r)
  c3 : w.cell? ⟨g, o + 3, none⟩ = some (.int .u32 p.b.v.c)
  c4 : w.cell? ⟨g, o + 4, none⟩ = some (.int .u64 p.b.v.b)
  c5 : w.cell? ⟨g, o + 5, none⟩ = some (.int .u8 p.b.v.p)
  c6 : w.cell? ⟨g, o + 6, none⟩ = some (.int .u8 p.b.h)
  c7 : w.cell? ⟨g, o + 7, none⟩ = some (.int .u64 p.b.ver)
  c8 : w.cell? ⟨g, o + 8, none⟩ = some (.int .u8 p.b.role)
  c9 : w.cell? ⟨g, o + 9, none⟩ = some (.bool p.b.pr)
  c10 : w.cell? ⟨g, o + 10, none⟩ = some (.bool p.b.ag)
  c11 : w.cell? ⟨g, o + 11, none⟩ = some (.bool p.b.tp)
  c12 : w.cell? ⟨g, o + 12, none⟩ = some (.int .u64 p.b.ec)
  c13 : w.cell? ⟨g, o + 13, none⟩ = some (.int .i64 p.la)
  c14 : w.cell? ⟨g, o + 14, none⟩ = some (.bool p.ag)
  c15 : w.cell? ⟨g, o + 15, none⟩ = some (.int .i64 p.sp)
/-- the cells of the machine itself -/
structure HdC (w : World) (g : Nat) (M : Mch) : Prop where
  c0 : w.cell? ⟨g, 0, none⟩ = some (.int .u64 M.id)
  c1 : w.cell? ⟨g, 1, none⟩ = some (.int .u8 (M.ps.length : Nat))
  c130 : w.cell? ⟨g, 130, none⟩ = some (.int .u64 M.root)
  c131 : w.cell? ⟨g, 131, none⟩ = some (.int .u32 M.cost)
  c132 : w.cell? ⟨g, 132, none⟩ = some (.int .u8 M.inn)
  c133 : w.cell? ⟨g, 133, none⟩ = some (.int .u8 M.hops)
  c134 : w.cell? ⟨g, 134, none⟩ = some (.int .u64 M.ver)
  c135 : w.cell? ⟨g, 135, none⟩ = some (.int .u8 (flN M.fl : Nat))
section
variable {w w' : World} {g : Nat} {M : Mch} {p : Sd} {i : Nat}
theorem SdC.of {o : Nat} (h : ∀ k u, (sdV p)[k]? = some u → w.cell? ⟨g, o + k, none⟩ = some u) : SdC w g o p := ⟨h 0 _ rfl, h 1 _ rfl, h 2 _ rfl, h 3 _ rfl, h 4 _ rfl, h 5 _ rfl, h 6 _ rfl, h 7 _ rfl, h 8 _ rfl, h 9 _ rfl, h 10 _ rfl, h 11 _ rfl, h 12 _ rfl, h 13 _ rfl, h 14 _ rfl, h 15 _ rfl⟩
theorem SdC.next {o : Nat} (h : SdC w g o p) (hb : Below w.heap.size w w') : SdC w' g o p := by
  have hg := World.block_lt_of_cell? w _ h.c0
  have hk : ∀ i, w'.cell? ⟨g, i, none⟩ = w.cell? ⟨g, i, none⟩ := fun i => hb.cell (p := ⟨g, i, none⟩) hg
  exact ⟨(hk _).trans h.c0, (hk _).trans h.c1, (hk _).trans h.c2, (hk _).trans h.c3, (hk _).trans h.c4, (hk _).trans h.c5, (hk _).trans h.c6, (hk _).trans h.c7, (hk _).trans h.c8, (hk _).trans h.c9, (hk _).trans h.c10, (hk _).trans h.c11, (hk _).trans h.c12, (hk _).trans h.c13, (hk _).trans h.c14, (hk _).trans h.c15⟩
theorem MaP.lt (h : MaP w g M) : g < w.heap.size := Blk.lt h
theorem MaP.fz (h : MaP w g M) (i : Nat) : w.frozen? ⟨g, i, none⟩ = false := Blk.frozen h i
theorem MaP.next (h : MaP w g M) (hb : Below w.heap.size w w') : MaP w' g M := Blk.below h hb (Blk.lt h)
theorem MaP.gro (h : MaP w g M) (hb : Gro w w') : MaP w' g M := h.next hb.below
theorem MaP.chg {S : Nat → Prop} (h : MaP w g M) (hc : Chg S w w') (hn : ¬ S g) : MaP w' g M := Blk.chg h hc hn
theorem MaP.alloc (h : MaP w g M) (o : Obj) : MaP (w.alloc o) g M := Blk.alloc h o
theorem Mch.pad_len (M : Mch) (h8 : M.ps.length ≤ 8) : M.pad.length = 8 := by simp [Mch.pad]; omega
theorem Mch.pad_at (M : Mch) (hi : i < M.ps.length) : M.pad[i]'(by simp [Mch.pad]; omega) = M.port i := by
  simp [Mch.pad, Mch.port, List.getElem_append_left hi, List.getD_eq_getElem?_getD, List.getElem?_eq_getElem hi]
theorem Mch.ports_len (M : Mch) (h8 : M.ps.length ≤ 8) : (M.pad.flatMap sdV).length = 128 := by
  have : ∀ l : List Sd, (l.flatMap sdV).length = 16 * l.length := by
    intro l
    induction l with
    | nil => rfl
    | cons x l ih => simp only [List.flatMap_cons, List.length_append, ih, sdV_len, List.length_cons]; omega
  rw [this, M.pad_len h8]
theorem MaP.sd (h : MaP w g M) (h8 : M.ps.length ≤ 8) (hi : i < M.ps.length) : SdC w g (2 + i * 16) (M.port i) := by
  refine SdC.of fun k u hu => ?_
  have hk : k < 16 := by have := (List.getElem?_eq_some_iff.1 hu).1; rwa [sdV_len] at this
  rw [Blk.cell h (2 + i * 16 + k), List.getElem?_toArray]
  unfold mchV
  rw [List.getElem?_append_left (by simp only [List.length_append, M.ports_len h8, List.length_cons, List.length_nil]; omega), List.getElem?_append_right (by simp only [List.length_cons, List.length_nil]; omega)]
  have e : 2 + i * 16 + k - [Value.int .u64 M.id, Value.int .u8 (M.ps.length : Nat)].length = i * 16 + k := by simp only [List.length_cons, List.length_nil]; omega
  rw [e, flat_at 16 sdV sdV_len M.pad i (by rw [M.pad_len h8]; omega) k hk, M.pad_at hi]
  exact hu
theorem mchV_tail (h8 : M.ps.length ≤ 8) (j : Nat) : (mchV M)[130 + j]? = ([.int .u64 M.root, .int .u32 M.cost, .int .u8 M.inn, .int .u8 M.hops, .int .u64 M.ver, .int .u8 (flN M.fl : Nat)] : List Value)[j]? := by
  unfold mchV
  rw [List.getElem?_append_right (by simp only [List.length_append, M.ports_len h8, List.length_cons, List.length_nil]; omega)]
  congr 1
  simp only [List.length_append, M.ports_len h8, List.length_cons, List.length_nil]; omega
theorem MaP.hd (h : MaP w g M) (h8 : M.ps.length ≤ 8) : HdC w g M := by
  have ht : ∀ j u, ([.int .u64 M.root, .int .u32 M.cost, .int .u8 M.inn, .int .u8 M.hops, .int .u64 M.ver, .int .u8 (flN M.fl : Nat)] : List Value)[j]? = some u → w.cell? ⟨g, 130 + j, none⟩ = some u := by
    intro j u hu
    rw [Blk.cell h (130 + j), List.getElem?_toArray, mchV_tail h8, hu]
  have h0 : ∀ k u, ([.int .u64 M.id, .int .u8 (M.ps.length : Nat)] : List Value)[k]? = some u → w.cell? ⟨g, k, none⟩ = some u := by
    intro k u hu
    rw [Blk.cell h k, List.getElem?_toArray]
    unfold mchV
    have := (List.getElem?_eq_some_iff.1 hu).1
    rw [List.append_assoc, List.getElem?_append_left this, hu]
  exact ⟨h0 0 _ rfl, h0 1 _ rfl, ht 0 _ rfl, ht 1 _ rfl, ht 2 _ rfl, ht 3 _ rfl, ht 4 _ rfl, ht 5 _ rfl⟩
theorem HdC.next (h : HdC w g M) (hb : Below w.heap.size w w') : HdC w' g M := by
  have hg := World.block_lt_of_cell? w _ h.c0
  have hk : ∀ i, w'.cell? ⟨g, i, none⟩ = w.cell? ⟨g, i, none⟩ := fun i => hb.cell (p := ⟨g, i, none⟩) hg
  exact ⟨(hk _).trans h.c0, (hk _).trans h.c1, (hk _).trans h.c130, (hk _).trans h.c131, (hk _).trans h.c132, (hk _).trans h.c133, (hk _).trans h.c134, (hk _).trans h.c135⟩
/-- a cell of a port written -/
theorem MaP.put (h : MaP w g M) (h8 : M.ps.length ≤ 8) (hi : i < M.ps.length) (k : Nat) (hk : k < 16) (v : Value) (p' : Sd) (hv : (sdV (M.port i)).set k v = sdV p') : MaP (w.setCell ⟨g, 2 + i * 16 + k, none⟩ v) g (M.setP i p') := by
  have := Blk.put h (2 + i * 16 + k) v
  unfold MaP
  refine cast (congrArg _ ?_) this
  rw [List.setIfInBounds_toArray]
  congr 1
  unfold mchV
  have e1 : ∀ (a b c : List Value), a.length = 2 → b.length = 128 → (a ++ b ++ c).set (2 + i * 16 + k) v = a ++ b.set (i * 16 + k) v ++ c := by
    intro a b c ha hb
    rw [List.set_append_left _ _ (by simp only [List.length_append]; omega), List.set_append_right _ _ (by omega)]
    congr 2
    congr 1
    omega
  rw [e1 _ _ _ rfl (M.ports_len h8), flat_set 16 sdV sdV_len M.pad i (by rw [M.pad_len h8]; omega) k hk v p' (by rw [M.pad_at hi]; exact hv)]
  have e2 : (M.setP i p').pad = M.pad.set i p' := by
    unfold Mch.pad Mch.setP
    rw [List.set_append_left _ _ hi]
    simp
  rw [e2]
  simp [Mch.setP]
/-- a cell of the machine itself written -/
theorem MaP.putT (h : MaP w g M) (h8 : M.ps.length ≤ 8) (j : Nat) (v : Value) (M' : Mch) (hp : M'.ps = M.ps) (hid : M'.id = M.id)
    (hv : ([.int .u64 M.root, .int .u32 M.cost, .int .u8 M.inn, .int .u8 M.hops, .int .u64 M.ver, .int .u8 (flN M.fl : Nat)] : List Value).set j v = [.int .u64 M'.root, .int .u32 M'.cost, .int .u8 M'.inn, .int .u8 M'.hops, .int .u64 M'.ver, .int .u8 (flN M'.fl : Nat)]) :
    MaP (w.setCell ⟨g, 130 + j, none⟩ v) g M' := by
  have := Blk.put h (130 + j) v
  unfold MaP
  refine cast (congrArg _ ?_) this
  rw [List.setIfInBounds_toArray]
  congr 1
  unfold mchV
  have e : 130 + j - (([.int .u64 M.id, .int .u8 (M.ps.length : Nat)] : List Value) ++ M.pad.flatMap sdV).length = j := by
    simp only [List.length_append, M.ports_len h8, List.length_cons, List.length_nil]; omega
  rw [List.set_append_right _ _ (by simp only [List.length_append, M.ports_len h8, List.length_cons, List.length_nil]; omega), e, hv, Mch.pad, Mch.pad, hp, hid]
theorem Mch.setP_len (M : Mch) (i : Nat) (p : Sd) : (M.setP i p).ps.length = M.ps.length := by simp [Mch.setP]
theorem Mch.setP_port (M : Mch) (hi : i < M.ps.length) (p : Sd) : (M.setP i p).port i = p := by simp [Mch.setP, Mch.port, List.getD_eq_getElem?_getD, hi]
theorem Mch.setP_ne (M : Mch) {j : Nat} (hj : i ≠ j) (p : Sd) : (M.setP i p).port j = M.port j := by simp [Mch.setP, Mch.port, List.getD_eq_getElem?_getD, List.getElem?_set_ne hj]
theorem Mch.setP_setP (M : Mch) (p q : Sd) : (M.setP i p).setP i q = M.setP i q := by simp [Mch.setP]
theorem Mch.setP_self (M : Mch) (hi : i < M.ps.length) : M.setP i (M.port i) = M := by
  unfold Mch.setP Mch.port
  rw [List.getD_eq_getElem?_getD, List.getElem?_eq_getElem hi]
  simp
end
theorem isLink_any {w : World} {g o : Nat} {p : Sd} (h : SdC w g o p) :
    Calls Try.prog 43 #[.pointer (some ⟨g, o, none⟩)] w fun e w' => e = .returned (.bool p.live) ∧ w' = w := by
  have h0 := h.c0
  have h1 := h.c1
  clear h
  have E : Hid ((p.up && decide (0 < p.cost)) = p.live) := Lib.hid rfl
  go_enter Try.func43, Try.ntmps43
  obtain ⟨u, hu⟩ : ∃ u, p.up = u := ⟨_, rfl⟩
  rw [hu] at h1 E
  clear hu
  cases u
  · go_wp2
    go_ret
    exact ⟨by rw [← E.out]; rfl, rfl⟩
  · go_wp2
    go_ret
    exact ⟨by rw [← E.out]; rfl, rfl⟩
theorem has_any {w : World} {g n i : Nat} (h1 : w.cell? ⟨g, 1, none⟩ = some (.int .u8 (n : Nat))) :
    Calls Try.prog 34 #[.pointer (some ⟨g, 0, none⟩), .int .u8 (i : Nat)] w fun e w' => e = .returned (.bool (decide (i < n))) ∧ w' = w := by
  go_enter Try.func34, Try.ntmps34
  go_wp2
  go_ret
  exact ⟨by simp, rfl⟩
theorem has_nil {w : World} {i : Nat} :
    Calls Try.prog 34 #[.pointer none, .int .u8 (i : Nat)] w fun e w' => e = .returned (.bool false) ∧ w' = w := by
  go_enter Try.func34, Try.ntmps34
  go_wp2
  go_ret
  exact ⟨rfl, rfl⟩
theorem own_any {w : World} {g i : Nat} {M : Mch} (h : HdC w g M) :
    Calls Try.prog 50 #[.pointer (some ⟨g, 0, none⟩), .int .u8 (i : Nat)] w fun e w' => e = .returned (VV (M.own i)) ∧ Gro w w' := by
  obtain ⟨wa, hwa⟩ : ∃ wa, w.alloc (.cells #[.int .u64 0, .int .u32 0, .int .u64 0, .int .u8 0] 52) = wa := ⟨_, rfl⟩
  obtain ⟨b, hb⟩ : ∃ b, w.heap.size = b := ⟨_, rfl⟩
  have HG : Hid (Gro w wa) := Lib.hid (by rw [← hwa]; exact (Gro.refl w).alloc _)
  have HB : Hid (Blk wa.drew b 52 #[.int .u64 0, .int .u32 0, .int .u64 0, .int .u8 0]) := Lib.hid (by rw [← hwa, ← hb]; exact Blk.new w _ _)
  have H2 := h.next HG.out.below
  have h0 := H2.c0
  have h1 := H2.c130
  have h2 := H2.c131
  have HE : Hid (VV (M.own i) = .agg #[.int .u64 M.root, .int .u32 M.cost, .int .u64 M.id, .int .u8 (i : Nat)]) := Lib.hid rfl
  have HW := Lib.hid hwa
  have HBB := Lib.hid hb
  clear h H2 hwa hb
  go_enter Try.func50, Try.ntmps50
  go_wp2_with fail
  rw [HW.out, HBB.out]
  go_still_tail 16, (by kernel_rfl)
  change wpList _ _ _ _ _ wa.drew
  have HG2 : Hid (Gro w wa.drew) := Lib.hid HG.out.drew
  have HL : Hid (w.heap.size ≤ b) := Lib.hid (Nat.le_of_eq HBB.out)
  clear h0 h1 h2 HG HW HBB
  generalize wa.drew = wd at *
  go_wp2_with (refine wpList_store_row rfl 52 (.tmp 4) (.tmp 20) rfl b rfl #[.int .u64 M.root, .int .u32 M.cost, .int .u64 M.id, .int .u8 (i : Nat)] rfl 52 _ HB.out (by kernel_rfl) rfl (by kernel_rfl) ?_)
  exact bodyPost_ret (v := VV (M.own i)) (results_cell_row (p := 4) (by kernel_rfl) _ _ b 52 _ (0, 0) _ rfl (Blk.row HB.out _) Try.underlying52 rfl (by kernel_rfl)) rfl ⟨rfl, below_row HG2.out.below HL.out _, HG2.out.drawn⟩
end Go.Proofs.Ytlpmilaofcakbaa
