/- slices.DeleteFunc at entries. -/
import Derived.Test.YtlofaahckdfeiaaFw1
namespace Go.Proofs.Ytlofaahckdfeiaa
open Go.RowKit
set_option linter.unusedVariables false
set_option linter.unusedSimpArgs false
set_option maxRecDepth 100000

/-- what stands in the row while entries are struck -/
structure Kept (p : En → Bool) (d : List En) (j i : Nat) (arr : List En) : Prop where
  len : arr.length = d.length
  cnt : i = ((d.take j).filter fun x => !p x).length
  low : arr.take i = (d.take j).filter fun x => !p x
  high : ∀ k, j ≤ k → arr[k]? = d[k]?
  lt : i < j
theorem Kept.start {p : En → Bool} {d : List En} {k : Nat} (hk : k < d.length) (h : p d[k] = true) (hb : ∀ j (hj : j < k), p d[j] = false) : Kept p d (k + 1) k d := by
  have e : (d.take (k + 1)).filter (fun x => !p x) = d.take k := by
    rw [List.take_succ_eq_append_getElem hk, List.filter_append]
    have h1 : (d.take k).filter (fun x => !p x) = d.take k := by
      rw [List.filter_eq_self]
      intro x hx
      obtain ⟨j, hj, rfl⟩ := List.mem_iff_getElem.1 hx
      have hj' : j < k := by simp at hj; omega
      rw [List.getElem_take, hb j hj']; rfl
    rw [h1]
    simp [h]
  exact ⟨rfl, by rw [e, List.length_take]; omega, e.symm, fun _ _ => rfl, Nat.lt_succ_self _⟩
theorem Kept.skip {p : En → Bool} {d arr : List En} {j i : Nat} (h : Kept p d j i arr) (hj : j < d.length) (hp : p d[j] = true) : Kept p d (j + 1) i arr := by
  have e : (d.take (j + 1)).filter (fun x => !p x) = (d.take j).filter (fun x => !p x) := by
    rw [List.take_succ_eq_append_getElem hj, List.filter_append]
    simp [hp]
  exact ⟨h.len, by rw [e]; exact h.cnt, by rw [e]; exact h.low, fun k hk => h.high k (by omega), Nat.lt_succ_of_lt h.lt⟩
theorem Kept.keep {p : En → Bool} {d arr : List En} {j i : Nat} (h : Kept p d j i arr) (hj : j < d.length) (hp : p d[j] = false) : Kept p d (j + 1) (i + 1) (arr.set i d[j]) := by
  have e : (d.take (j + 1)).filter (fun x => !p x) = (d.take j).filter (fun x => !p x) ++ [d[j]] := by
    rw [List.take_succ_eq_append_getElem hj, List.filter_append]
    simp [hp]
  have hl := h.len
  have hlt := h.lt
  refine ⟨by simp [hl], by rw [e, List.length_append, ← h.cnt]; rfl, ?_, fun k hk => ?_, by omega⟩
  · rw [e, ← h.low, List.take_succ_eq_append_getElem (by simp; omega)]
    rw [List.take_set_of_le (Nat.le_refl _), List.getElem_set_self]
  · rw [List.getElem?_set_ne (by omega)]
    exact h.high k (by omega)
theorem Kept.done {p : En → Bool} {d arr : List En} {i : Nat} (h : Kept p d d.length i arr) : i = (d.filter fun x => !p x).length ∧ arr.take i = d.filter fun x => !p x := by
  have h1 := h.cnt
  have h2 := h.low
  rw [List.take_length] at h1 h2
  exact ⟨h1, h2⟩
theorem flat9 (l : List En) : (l.flatMap enV).length = l.length * 9 := by
  induction l with
  | nil => rfl
  | cons x l ih => rw [List.flatMap_cons, List.length_append, ih, enV_len, List.length_cons]; omega
theorem flat9_split (l : List En) (i : Nat) : l.flatMap enV = (l.take i).flatMap enV ++ (l.drop i).flatMap enV := by
  rw [← List.flatMap_append, List.take_append_drop]
theorem enV_one (x : En) : ∀ v ∈ enV x, v.oneCell' = true := by
  intro v hv
  simp only [enV, List.mem_cons, List.not_mem_nil, or_false] at hv
  rcases hv with rfl | rfl | rfl | rfl | rfl | rfl | rfl | rfl | rfl <;> rfl
/-- the row of a slice of entries: these, then what is spare -/
def RowE (w : World) (g : Nat) (arr : List En) (sp : List Value) : Prop := Blk w g 64 (arr.flatMap enV ++ sp).toArray
section
variable {w w' : World} {g base n cap : Nat} {d arr : List En} {sp : List Value}
theorem RowE.cells (h : RowE w g arr sp) {k : Nat} (hk : k < arr.length) {x : En} (hx : arr[k] = x) : ∀ j u, (enV x)[j]? = some u → w.cell? ⟨g, k * 9 + j, none⟩ = some u := by
  intro j u hu
  have hj : j < 9 := by rw [← enV_len x]; exact (List.getElem?_eq_some_iff.1 hu).1
  have := Blk.cell h (k * 9 + j)
  rw [this, List.getElem?_toArray, List.getElem?_append_left (by rw [flat9]; omega), flat_at 9 enV enV_len arr k hk j hj, hx, hu]
theorem RowE.of (h : w.ownsRow base 64 9 (.slice (some ⟨g, 0, none⟩) n cap) d.length (d.flatMap enV)) : n = d.length ∧ d.length ≤ cap ∧ cap ≤ maxLen ∧ base ≤ g ∧ ∃ sp, RowE w g d sp ∧ (d.flatMap enV ++ sp).length = cap * 9 := by
  rcases h.2 with ⟨e, _⟩ | ⟨g', cap', cur, e, hb, hg, h1, h2, h3, h4⟩
  · cases e
  · cases e
    refine ⟨rfl, h1, h2, hb, cur.toList.drop (d.length * 9), ?_, ?_⟩
    · unfold RowE Blk
      rw [← h4, List.take_append_drop]
      exact hg
    · rw [← h4, List.take_append_drop]
      simpa using h3
theorem RowE.own (h : RowE w g d sp) (hc : (d.flatMap enV ++ sp).length = cap * 9) (hm : cap ≤ maxLen) (hb : base ≤ g) {m : Nat} (hk : m ≤ d.length) : w.ownsRow base 64 9 (.slice (some ⟨g, 0, none⟩) m cap) m ((d.take m).flatMap enV) := by
  have hf := flat9 d
  have hcap : d.length ≤ cap := by
    rw [List.length_append, hf] at hc
    omega
  refine ⟨by rw [flat9, List.length_take]; congr 1; omega, .inr ⟨g, cap, _, rfl, hb, h, by omega, hm, by simpa using hc, ?_⟩⟩
  have e : ((d.take m).flatMap enV).length = m * 9 := by rw [flat9, List.length_take]; congr 1; omega
  show List.take (m * 9) (d.flatMap enV ++ sp) = _
  rw [flat9_split d m, List.append_assoc, ← e, List.take_left]
theorem RowE.gro (h : RowE w g arr sp) (hg : Gro w w') : RowE w' g arr sp := hg.blk h
theorem RowE.alloc (h : RowE w g arr sp) (o : Obj) : RowE (w.alloc o) g arr sp := Blk.alloc h o
/-- an entry put into the row -/
theorem RowE.put (h : RowE w g arr sp) {i : Nat} (hi : i < arr.length) (x : En) : (storeCells ⟨g, i * 9, none⟩ [.int .u16 x.k.v.toNat, .int .u8 x.k.m.a.toNat, .int .u8 x.k.m.b.toNat, .int .u8 x.k.m.c.toNat, .int .u8 x.k.m.d.toNat, .int .u8 x.k.m.e.toNat, .int .u8 x.k.m.f.toNat, .int .u8 x.p.toNat, .int .i64 (x.a : Nat)] 0).run Try.prog w = .ok () (w.setCells g (i * 9) (enV x)) ∧ RowE (w.setCells g (i * 9) (enV x)) g (arr.set i x) sp := by
  have e1 : ((arr.take i).flatMap enV).length = i * 9 := by rw [flat9, List.length_take]; congr 1; omega
  have e2 : arr.flatMap enV ++ sp = (arr.take i).flatMap enV ++ enV arr[i] ++ ((arr.drop (i + 1)).flatMap enV ++ sp) := by
    rw [flat9_split arr i, List.drop_eq_getElem_cons hi, List.flatMap_cons]
    simp
  have e3 : (arr.set i x).flatMap enV ++ sp = (arr.take i).flatMap enV ++ enV x ++ ((arr.drop (i + 1)).flatMap enV ++ sp) := by
    rw [List.set_eq_take_append_cons_drop, if_pos hi, List.flatMap_append, List.flatMap_cons]
    simp
  unfold RowE at *
  rw [e2] at h
  have hr := run_stores (P := Try.prog) _ _ _ (enV x) h rfl (enV_one x)
  have hb := blk_setCells (enV x) _ _ _ _ h rfl
  rw [e1] at hr hb
  rw [e3]
  exact ⟨hr, hb⟩
theorem zeroE (w : World) : (zeroValue 64).run Try.prog w = .ok (.agg #[.int .u16 0, .int .u8 0, .int .u8 0, .int .u8 0, .int .u8 0, .int .u8 0, .int .u8 0, .int .u8 0, .int .i64 0]) w := by kernel_rfl
/-- the row cleared from an entry on -/
theorem RowE.clear (h : RowE w g arr sp) {i : Nat} (hi : i < arr.length) (c : Nat) : ∃ w2 sp2, (∀ ty, (Builtin.clear_ #[51] ty #[.slice (some ⟨g, i * 9, none⟩) (arr.length - i) c]).run Try.prog w = .ok (.tuple #[]) w2) ∧ RowE w2 g (arr.take i) sp2 ∧ ((arr.take i).flatMap enV ++ sp2).length = (arr.flatMap enV ++ sp).length ∧ Chg (fun k => k = g) w w2 := by
  have e1 : ((arr.take i).flatMap enV).length = i * 9 := by rw [flat9, List.length_take]; congr 1; omega
  have e2 : arr.flatMap enV ++ sp = (arr.take i).flatMap enV ++ (arr.drop i).flatMap enV ++ sp := by rw [← flat9_split]
  unfold RowE at h
  rw [e2] at h
  have hm : ((arr.drop i).flatMap enV).length = (arr.length - i) * ([.int .u16 0, .int .u8 0, .int .u8 0, .int .u8 0, .int .u8 0, .int .u8 0, .int .u8 0, .int .u8 0, .int .i64 0] : List Value).length := by rw [flat9, List.length_drop]; rfl
  have hone : ∀ v ∈ ([.int .u16 0, .int .u8 0, .int .u8 0, .int .u8 0, .int .u8 0, .int .u8 0, .int .u8 0, .int .u8 0, .int .i64 0] : List Value), v.oneCell' = true := by
    intro v hv
    simp only [List.mem_cons, List.not_mem_nil, or_false] at hv
    rcases hv with rfl | rfl | rfl | rfl | rfl | rfl | rfl | rfl | rfl <;> rfl
  have hall : ∀ ty, ∃ zs : List Value, zs.length = ((arr.drop i).flatMap enV).length ∧ (Builtin.clear_ #[51] ty #[.slice (some ⟨g, ((arr.take i).flatMap enV).length, none⟩) (arr.length - i) c]).run Try.prog w = .ok (.tuple #[]) (w.setCells g ((arr.take i).flatMap enV).length zs) :=
    fun ty => run_clear_at (P := Try.prog) (t := 51) 64 ty [.int .u16 0, .int .u8 0, .int .u8 0, .int .u8 0, .int .u8 0, .int .u8 0, .int .u8 0, .int .u8 0, .int .i64 0] Try.underlying51 zeroE hone 64 (arr.length - i) c _ _ _ h (by omega) hm
  obtain ⟨zs, hz, hr⟩ := hall 0
  have hb := blk_setCells zs _ _ _ _ h hz.symm
  rw [e1] at hr hb
  refine ⟨_, zs ++ sp, fun ty => hr, ?_, ?_, chg_setCells zs _ _ (Chg.refl _ w) (.inr rfl)⟩
  · unfold RowE
    rw [← List.append_assoc]
    exact hb
  · rw [e2, List.length_append, List.length_append, List.length_append, List.length_append, hz]
    omega
end
theorem idx_some {p : En → Bool} {d : List En} {k : Nat} (h : d.findIdx? p = some k) : ∃ hk : k < d.length, p d[k] = true ∧ ∀ j (hj : j < k), p d[j] = false := by
  rw [List.findIdx?_eq_some_iff_getElem] at h
  obtain ⟨hk, h1, h2⟩ := h
  exact ⟨hk, h1, fun j hj => by simpa using h2 j hj⟩
set_option maxHeartbeats 4000000 in
theorem delf_any (w : World) (gf : Nat) (bd lb : Array Value) (eg : ∀ args w, (callFunc gf args).run Try.prog w = .ok (.enter gf args) w) (p : En → Bool) (d : List En) (v : Value) (base : Nat) (hd : d.length ≤ 1000)
    (ho : w.ownsRow base 64 9 v d.length (d.flatMap enV)) (hp : ∀ (W : World) (x : En), Chg (fun k => v.ownBlock = some k) w W → Calls Try.prog gf (bd ++ #[eV x] ++ lb) W fun e w' => e = .returned (.bool (p x)) ∧ Gro W w') :
    Calls Try.prog 40 #[v, .func (.func gf) bd lb] w fun e w' => ∃ v', e = .returned v' ∧ w'.ownsRow base 64 9 v' (d.filter fun x => !p x).length ((d.filter fun x => !p x).flatMap enV) ∧ v'.ownBlock = v.ownBlock ∧ Chg (fun k => v.ownBlock = some k) w w' := by
  have hI := fun (A : Option Addr) (c : Nat) (hE : Els 9 enV w A d) => idx_any w gf bd lb eg p d A c hd hE (fun W x hg => hp W x (Chg.of_below hg.below))
  rcases ho.2 with ⟨rfl, h0⟩ | ⟨g, cap, cur, rfl, _⟩
  · obtain rfl : d = [] := List.length_eq_zero_iff.1 h0
    have hI0 := hI none 0 (fun h => absurd h (by simp))
    have hz : idxV p [] = -1 := rfl
    rw [hz] at hI0
    clear hI hp
    have HO := Lib.hid ho
    clear ho
    go_enter Try.func40, Try.ntmps40
    go_wp2_with fail
    refine hI0.mono ?_
    rintro e w1 ⟨rfl, hg⟩
    clear hI0
    go_wp2
    go_ret
    exact ⟨_, rfl, World.ownsRow_nil _ _ _ _, rfl, Chg.of_below hg.below⟩
  · obtain ⟨_, hcap, hmax, hbase, sp, hrow, hlen⟩ := RowE.of ho
    have hel : Els 9 enV w (some ⟨g, 0, none⟩) d := fun h => ⟨g, 0, rfl, hrow.lt, fun i hi j u hu => by rw [Nat.zero_add]; exact hrow.cells hi rfl j u hu⟩
    have hI0 := hI (some ⟨g, 0, none⟩) cap hel
    obtain ⟨n, hn⟩ : ∃ n, d.length = n := ⟨_, rfl⟩
    have HN := Lib.hid hn
    have HR := Lib.hid hrow
    have HLn := Lib.hid hlen
    have HB := Lib.hid hbase
    have HM := Lib.hid hmax
    have HP : Hid (∀ (W : World) (x : En), Chg (fun k => k = g) w W → Calls Try.prog gf (bd ++ #[eV x] ++ lb) W fun e w' => e = .returned (.bool (p x)) ∧ Gro W w') := Lib.hid (fun W x hc => hp W x (hc.mono fun k _ hk => by rw [hk]; rfl))
    have HO := Lib.hid ho
    unfold maxLen at hmax
    rw [hn] at hI0 hcap hd ⊢
    clear hn hrow hlen hbase hp ho hel hI
    cases hf : d.findIdx? p with
    | none =>
      have hz : idxV p d = -1 := by unfold idxV; rw [hf]
      rw [hz] at hI0
      have hall : (d.filter fun x => !p x) = d := by
        rw [List.filter_eq_self]
        intro x hx
        rw [List.findIdx?_eq_none_iff] at hf
        simpa using hf x hx
      have HA := Lib.hid hall
      clear hall hz hf
      go_enter Try.func40, Try.ntmps40
      go_wp2_with fail
      refine hI0.mono ?_
      rintro e w1 ⟨rfl, hg⟩
      clear hI0
      go_wp2
      go_ret
      rw [HA.out]
      refine ⟨_, rfl, ?_, rfl, Chg.of_below hg.below⟩
      have := own_below HO.out hg.below
      rw [HN.out] at this ⊢
      exact this
    | some k0 =>
      have hz : idxV p d = (k0 : Int) := by unfold idxV; rw [hf]
      rw [hz] at hI0
      obtain ⟨hk0, hp0, hbf⟩ := idx_some hf
      have HK := Lib.hid (Kept.start hk0 hp0 hbf)
      have hk0n : k0 < n := by rw [← HN.out]; exact hk0
      clear hz hf hp0 hbf hk0
      go_enter Try.func40, Try.ntmps40
      go_wp2_with fail
      refine hI0.mono ?_
      rintro e w1 ⟨rfl, hg⟩
      have HG := Lib.hid hg
      clear hI0 hg
      go_wp2_with fail
      go_loopw [5, 6, 7] (fun a b _ wr => ∃ (i j : Nat) (arr : List En), j ≤ n ∧ a = .int .i64 i ∧ b = .int .i64 j ∧ Hid (RowE wr g arr sp) ∧ Hid (Chg (fun k => k = g) w wr) ∧ Hid (Kept p d j i arr)) (fun _ b _ _ => n - (intOf b).toNat)
      case atStart => exact ⟨k0, k0 + 1, d, by omega, rfl, by go_num, Lib.hid (HR.out.gro HG.out), Lib.hid (Chg.of_below HG.out.below), HK⟩
      case round =>
        clear HK HG hk0n
        obtain ⟨i, j, arr, hj, rfl, rfl, HRr, HC, HK⟩ := hrel
        have hij := HK.out.lt
        have hin : i < n := by omega
        by_cases hlt : j < n
        · have hltz : (j : Int) < (n : Int) := by omega
          obtain ⟨hjd⟩ : Nonempty (j < d.length) := ⟨by rw [HN.out]; exact hlt⟩
          obtain ⟨hja⟩ : Nonempty (j < arr.length) := ⟨by rw [HK.out.len]; exact hjd⟩
          obtain ⟨x, hx⟩ : ∃ x, d[j] = x := ⟨_, rfl⟩
          have hxa : arr[j] = x := by
            have := HK.out.high j (Nat.le_refl _)
            rw [List.getElem?_eq_getElem hja, List.getElem?_eq_getElem hjd] at this
            rw [← hx]
            exact Option.some.inj this
          have HX := Lib.hid hx
          obtain ⟨e0, e1, e2, e3, e4, e5, e6, e7, e8⟩ := cells9 (HRr.out.cells hja hxa)
          clear hxa hx
          obtain ⟨wa, hwa⟩ : ∃ wa, wr.alloc (.cells #[.int .u16 x.k.v.toNat, .int .u8 x.k.m.a.toNat, .int .u8 x.k.m.b.toNat, .int .u8 x.k.m.c.toNat, .int .u8 x.k.m.d.toNat, .int .u8 x.k.m.e.toNat, .int .u8 x.k.m.f.toNat, .int .u8 x.p.toNat, .int .i64 (x.a : Nat)] 64) = wa := ⟨_, rfl⟩
          have HCa : Hid (Chg (fun k => k = g) w wa) := Lib.hid (by rw [← hwa]; exact HC.out.alloc _)
          have HRa : Hid (RowE wa g arr sp) := Lib.hid (by rw [← hwa]; exact HRr.out.alloc _)
          obtain ⟨gx, hgx⟩ : ∃ gx, wr.heap.size = gx := ⟨_, rfl⟩
          have HXa : Hid (Blk wa gx 64 #[.int .u16 x.k.v.toNat, .int .u8 x.k.m.a.toNat, .int .u8 x.k.m.b.toNat, .int .u8 x.k.m.c.toNat, .int .u8 x.k.m.d.toNat, .int .u8 x.k.m.e.toNat, .int .u8 x.k.m.f.toNat, .int .u8 x.p.toNat, .int .i64 (x.a : Nat)]) := Lib.hid (by rw [← hwa, ← hgx]; exact Blk.new wr _ _)
          have hcall := HP.out wa x HCa.out
          obtain ⟨x0, x1, x2, x3, x4, x5, x6, x7, x8⟩ := cells9 (b := gx) (i := 0) (x := x) (w := wa) (fun jj u hu => by rw [Nat.zero_add, HXa.out.cell jj]; simpa [enV] using hu)
          simp only [Nat.zero_add] at x1 x2 x3 x4 x5 x6 x7 x8
          cases hq : p x with
          | true =>
            rw [hq] at hcall
            have HQ := Lib.hid hq
            clear hq
            go_wp2_with (go_at_fn gf; refine hcall.mono ?_; rintro e w2 ⟨rfl, hb'⟩)
            clear hwa hgx
            go_roundw
            case rel =>
              refine ⟨_, _, _, _, _, _, _, _, _, _, _, _, _, _, _, _, _, _, _, _, _, _, _, ?r, rfl⟩
              exact ⟨i, j + 1, arr, by omega, rfl, by go_num, Lib.hid (HRa.out.gro hb'), Lib.hid (HCa.out.trans (Chg.of_below hb'.below)), Lib.hid (HK.out.skip hjd (by rw [HX.out]; exact HQ.out))⟩
            case measure => simp [intOf]; omega
          | false =>
            rw [hq] at hcall
            have HQ := Lib.hid hq
            clear hq
            go_wp2_with (first | (go_at_fn gf; refine hcall.mono ?_; rintro e w2 ⟨rfl, hb'⟩; have HG2 := Lib.hid hb'; clear hb'; obtain ⟨x0, x1, x2, x3, x4, x5, x6, x7, x8⟩ := cells9 (b := gx) (i := 0) (x := x) (w := w2) (fun jj u hu => by rw [Nat.zero_add, (HG2.out.blk HXa.out).cell jj]; simpa [enV] using hu); simp only [Nat.zero_add] at x1 x2 x3 x4 x5 x6 x7 x8; obtain ⟨hst, hrow⟩ := (HRa.out.gro HG2.out).put (i := i) (by rw [HK.out.len, HN.out]; exact hin) x; obtain ⟨w3, hw3⟩ : ∃ w3, w2.setCells g (i * 9) (enV x) = w3 := ⟨_, rfl⟩; have HC3 : Hid (Chg (fun k => k = g) w w3) := Lib.hid (by rw [← hw3]; exact chg_setCells _ _ _ (HCa.out.trans (Chg.of_below HG2.out.below)) (.inr rfl)); (rw [hw3] at hst hrow); have HR3 := Lib.hid hrow; have HST := Lib.hid hst; clear hrow hw3 hst) | refine wpList_store_run rfl 64 (.tmp 33) (.tmp 32) rfl (i * 9) (enV x) rfl rfl sizeE HST.out ?_)
            clear hwa hgx
            go_roundw
            case rel =>
              refine ⟨_, _, _, _, _, _, _, _, _, _, _, _, _, _, _, _, _, _, _, _, _, _, _, ?r2, rfl⟩
              exact ⟨i + 1, j + 1, arr.set i x, by omega, by go_num, by go_num, HR3, HC3, Lib.hid (by have := HK.out.keep hjd (by rw [HX.out]; exact HQ.out); rw [HX.out] at this; exact this)⟩
            case measure => simp [intOf]; omega
        · obtain rfl : j = n := by omega
          obtain ⟨w4, sp2, hcl, hR4, hl4, hC4⟩ := HRr.out.clear (i := i) (by rw [HK.out.len, HN.out]; exact hin) (cap - i)
          have hdone := HK.out
          rw [← HN.out] at hdone
          have HD := Lib.hid hdone.done
          have hal : arr.length = j := hdone.len.trans HN.out
          have HL4 : Hid (((arr.take i).flatMap enV ++ sp2).length = cap * 9) := Lib.hid (by
            rw [hl4, ← HLn.out, List.length_append, List.length_append, flat9, flat9, hdone.len])
          have HR4 := Lib.hid hR4
          have HC4 := Lib.hid (HC.out.trans hC4)
          have HAL := Lib.hid hal
          rw [hal] at hcl
          clear hR4 hl4 hC4 hdone hal hlt hj
          go_wp2
          go_ret
          obtain ⟨hi1, hi2⟩ := HD.out
          refine ⟨_, rfl, ?_, rfl, HC4.out.mono (fun k _ hk => by rw [hk]; rfl)⟩
          rw [← hi1, ← hi2]
          have := HR4.out.own (base := base) HL4.out HM.out HB.out (m := i) (by rw [List.length_take, HAL.out]; omega)
          rw [List.take_take, Nat.min_self] at this
          exact this
end Go.Proofs.Ytlofaahckdfeiaa
