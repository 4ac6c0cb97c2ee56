/- Layer 16, the program: DropMep, AddMip, DropMip. -/
import Derived.Test.YtfdiolfelecccaaZzPn16
namespace Go.Proofs.Ytfdiolfelecccaa
open Go.RowKit
open Go.Sort (grow)
set_option linter.unusedVariables false
set_option linter.unusedSimpArgs false
set_option maxRecDepth 100000

theorem erase_filter {α : Type} (p : α → Bool) : ∀ (l : List α) (i : Nat), l.Pairwise (fun x y => ¬ (p x = true ∧ p y = true)) → l.findIdx? p = some i → l.filter (fun x => !p x) = l.eraseIdx i
  | [], i, _, h => by simp at h
  | x :: l, i, hu, h => by
    obtain ⟨h1, h2⟩ := List.pairwise_cons.1 hu
    rw [List.findIdx?_cons] at h
    by_cases hx : p x = true
    · rw [if_pos hx] at h
      cases h
      rw [List.filter_cons, hx]
      simp only [Bool.not_true, Bool.false_eq_true, if_false, List.eraseIdx_cons_zero]
      rw [List.filter_eq_self]
      intro y hy
      have := h1 y hy
      cases hp : p y
      · rfl
      · exact absurd ⟨hx, hp⟩ this
    · rw [if_neg hx] at h
      obtain ⟨j, hj, rfl⟩ := Option.map_eq_some_iff.1 h
      rw [List.filter_cons]
      simp only [Bool.not_eq_true] at hx
      rw [hx]
      simp only [Bool.not_false, if_true, List.eraseIdx_cons_succ]
      rw [erase_filter p l j h2 hj]
def numP (a : Int) (k : UInt16) (x : Mp) : Bool := decide (x.a = a) && x.m == k
theorem dropE_none {T : Tb} {a : Int} {k : UInt16} (h : T.E.findIdx? (numP a k) = none) : T.dropE a k = (T, 7) := by
  unfold Tb.dropE
  rw [if_pos]
  rw [List.findIdx?_eq_none_iff] at h
  rw [List.all_eq_true]
  intro x hx
  have := h x hx
  show (!(numP a k x)) = true
  cases hp : numP a k x
  · rfl
  · rw [hp] at this; simp at this
theorem dropE_some {T : Tb} {a : Int} {k : UInt16} {i : Nat} (hi : TbInv T) (h : T.E.findIdx? (numP a k) = some i) : T.dropE a k = ({ T with E := T.E.eraseIdx i }, 0) := by
  have hf := erase_filter (numP a k) T.E i (hi.un.imp (fun {x y} hc hh => by
    have : T.clash x y = true := by
      have h1 := hh.1
      have h2 := hh.2
      unfold numP at h1 h2
      simp only [Bool.and_eq_true, decide_eq_true_eq, beq_iff_eq] at h1 h2
      unfold Tb.clash
      rw [h1.1, h2.1, h1.2, h2.2]
      simp
    rw [this] at hc
    cases hc)) h
  unfold Tb.dropE
  rw [if_neg]
  · rw [← hf]; rfl
  · rw [List.all_eq_true]
    intro hall
    rw [List.findIdx?_eq_some_iff_getElem] at h
    obtain ⟨hlt, hp, _⟩ := h
    have := hall T.E[i] (List.getElem_mem hlt)
    have h2 : (!(numP a k T.E[i])) = true := this
    rw [hp] at h2
    cases h2
section
variable {w : World} {b : Nat} {T : Tb} {X : PX}
theorem keepD {W w w' : World} {b n c : Nat} {A : Option Addr} (h2 : w.cell? ⟨b, 2, none⟩ = some (.slice A n c)) (h5 : Hid (Gro W w)) (hg : Gro w w') : w'.cell? ⟨b, 2, none⟩ = some (.slice A n c) ∧ Hid (Gro W w') :=
  ⟨(hg.cell (World.block_lt_of_cell? w _ h2)).trans h2, Lib.hid (h5.out.trans hg)⟩
set_option maxHeartbeats 8000000 in
theorem dropE_any (h : Pt w b T X) (a : Int) (k : UInt16) (hl : T.E.length ≤ 1000) : Calls Try.prog 20 #[.pointer (some ⟨b, 0, none⟩), .int .i64 a, .int .u16 k.toNat] w fun e w' => e = .returned (.int .i64 ((T.dropE a k).2 : Nat)) ∧ PtTo w b X (T.dropE a k).1 w' := by
  have HT := Lib.hid h
  have HLE := Lib.hid hl
  obtain ⟨nE, hnE⟩ : ∃ n, T.E.length = n := ⟨_, rfl⟩
  have HNE := Lib.hid hnE
  have KN : Hid (∀ w_, Calls Try.prog 42 #[.int .i64 a, .int .u16 k.toNat] w_ fun e w' => ∃ f, e = .returned f ∧ ClM w' f (numP a k) T.E ∧ Gro w_ w') := Lib.hid (fun w_ => num_any w_ a k T.E)
  obtain ⟨r, hr⟩ : ∃ r, idxM (numP a k) T.E = r := ⟨_, rfl⟩
  have KI : Hid (∀ w_ f, Hid (Gro w w_) → Hid (ClM w_ f (numP a k) T.E) → Calls Try.prog 46 #[.slice X.E nE X.ce, f] w_ fun e w' => e = .returned (.int .i64 r) ∧ Gro w_ w') := Lib.hid (fun w_ f hg hf => by
    have := idxM_any w_ f (numP a k) T.E X.E X.ce hl (h.gro hg.out).elsE hf.out
    rw [hnE, hr] at this
    exact this)
  have HR := Lib.hid hr
  have HGd : Hid (Gro w w.drew) := Lib.hid ((Gro.refl w).drew)
  have d1 : w.drew.cell? ⟨b, 2, none⟩ = some (.slice X.E nE X.ce) := by rw [← hnE]; exact h.c2
  clear h hl hnE hr
  go_enter Try.func20, Try.ntmps20
  go_wp2_with fail
  go_region_held3 (fun w_ => w_.cell? ⟨b, 2, none⟩ = some (.slice X.E nE X.ce) ∧ Hid (Gro w w_)) (first | go_keep)
    (first
      | (go_at_call 42; (with_reducible refine (KN.out _).mono ?_); rintro r_ w_ ⟨f_, rfl, hf_, hb_⟩; have HFN := Lib.hid hf_; obtain ⟨k1, k4⟩ := keepD (by assumption) (by assumption) hb_; clear hb_ hf_)
      | (go_at_call 46; (with_reducible refine (KI.out _ _ (by assumption) (by assumption)).mono ?_); rintro r_ w_ ⟨rfl, hb_⟩; obtain ⟨k1, k4⟩ := keepD (by assumption) (by assumption) hb_; clear hb_)
      | fail "no")
  rename_i hh
  clear hh
  have HG := k4
  have HT4 := Lib.hid (HT.out.gro k4.out)
  clear HFN k4 d1 HGd KN KI
  cases hf : T.E.findIdx? (numP a k) with
  | none =>
    have hrv : r = -1 := by rw [← HR.out]; unfold idxM; rw [hf]
    have HD := Lib.hid (dropE_none hf)
    subst hrv
    clear hf
    go_wp2
    go_ret
    rw [HD.out]
    exact ⟨rfl, PtTo.same HT.out HG.out.below⟩
  | some i =>
    have hrv : r = (i : Int) := by rw [← HR.out]; unfold idxM; rw [hf]
    have HD := Lib.hid (dropE_some HT.out.inv hf)
    have hlt : i < T.E.length := by
      rw [List.findIdx?_eq_some_iff_getElem] at hf
      exact hf.1
    obtain ⟨n, rfl⟩ : ∃ n, nE = n + 1 := ⟨nE - 1, by have := HNE.out; omega⟩
    have hil : i ≤ n := by have := HNE.out; omega
    have KD := Lib.hid (delM_any w_ T.E X.E X.ce i n HNE.out hil (by have := HLE.out; have := HNE.out; omega) HT4.out.rowE)
    have HEL : Hid ((T.E.eraseIdx i).length = n) := Lib.hid (by rw [List.length_eraseIdx, if_pos hlt, HNE.out]; rfl)
    subst hrv
    have hin : ¬ (i : Int) < 0 := by omega
    have hin1 : (i : Int) ≤ 1000 := by have := HLE.out; omega
    clear hf hlt
    go_wp2_with fail
    refine KD.out.mono ?_
    rintro e w5 ⟨A5, c5, rfl, ho5, hrb5, hc5⟩
    have hblk := HT4.out.blk.chg hc5 (fun e => (HT4.out.cE e).ne HT4.out.cB (by kernel_rfl) rfl)
    have f2 := hblk.frozen 2
    have s2 := hblk.cell 2
    have hs := HT4.out.setE (L := T.E.eraseIdx i) (T' := (T.dropE a k).1) (E' := A5) (ce' := c5) (by rw [HD.out]) (inv_dropE HT4.out.inv a k) hc5 (by rw [HEL.out]; exact ho5)
    rw [HEL.out] at hs
    have HSS := Lib.hid hs
    have HRB := Lib.hid hrb5
    simp only [List.getElem?_toArray, List.getElem?_cons_succ, List.getElem?_cons_zero, HNE.out] at s2
    clear hblk hs hrb5 hc5 ho5 KD
    go_wp2
    go_ret
    refine ⟨by rw [HD.out]; rfl, _, HSS.out.1, (Chg.of_below HG.out.below).also HSS.out.2 (fun k _ hk => hk), ?_⟩
    rintro k (e | e | e | e | ⟨x, hx, e⟩)
    · exact .inl (.inl e)
    · exact .inl (.inr (.inl e))
    · exact .inl (.inr (.inr (.inl (by rw [← HRB.out]; exact e))))
    · exact .inl (.inr (.inr (.inr (.inl e))))
    · exact .inl (.inr (.inr (.inr (.inr ⟨x, hx, e⟩))))
end
end Go.Proofs.Ytfdiolfelecccaa
