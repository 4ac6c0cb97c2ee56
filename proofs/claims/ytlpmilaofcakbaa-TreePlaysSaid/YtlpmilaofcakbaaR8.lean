/- Layer 9: the document's New. -/
import Derived.Test.YtlpmilaofcakbaaR7
namespace Go.Proofs.Ytlpmilaofcakbaa
open Go.RowKit Go.Shelf
open Go.Sort (grow)
set_option linter.unusedVariables false
set_option linter.unusedSimpArgs false
set_option maxRecDepth 100000

theorem infoRP : (Try.prog.info? 94).map (fun i => (i.zero, i.size, i.bytes)) = some (some (.agg #[.int .u32 0, .bool false, .int .u64 0, .int .u32 0, .int .u64 0, .int .u8 0, .int .u8 0, .int .u64 0, .int .u8 0, .bool false, .bool false, .bool false, .int .u64 0, .int .i64 0, .bool false, .int .i64 0]), 16, 96) := by kernel_rfl
def encNw (x : Int) : List Value := sdV (Sd.of x)
theorem encNw_one (x : Int) : ∀ u ∈ encNw x, u.oneCell' = true := by
  intro u hu
  simp only [encNw, sdV, encBp, List.cons_append, List.nil_append, List.mem_cons, List.not_mem_nil, or_false] at hu
  rcases hu with rfl | rfl | rfl | rfl | rfl | rfl | rfl | rfl | rfl | rfl | rfl | rfl | rfl | rfl | rfl | rfl <;> rfl
/-- what a round of New keeps -/
structure NwS (w w' : World) (m fb n : Nat) (id : Int) (cs : List Int) (k : Nat) (v : Value) : Prop where
  hd : Blk w' m 50 #[.int .u64 id, v, .int .u64 id, .int .u32 0, .int .i64 (-1), .int .u8 0, .int .u64 1, .slice (some ⟨fb, 0, none⟩) n n]
  row : w'.ownsRow (m + 1) 94 16 v k ((cs.take k).flatMap encNw)
  fl : ∃ ds, Blk w' fb 4 ds ∧ ds.toList.take n = (List.replicate n false).map Value.bool
  bel : Below w.heap.size w w'
theorem own_set9 {w : World} {base : Nat} {e : TypeId} {size n : Nat} {v : Value} {xs : List Value} {p : Addr} (h : w.ownsRow base e size v n xs) (hp : p.block < base) (u : Value) : (w.setCell p u).ownsRow base e size v n xs := by
  refine ⟨h.1, ?_⟩
  rcases h.2 with hn | ⟨g, cap, cur, hv, hg, hgb, rest⟩
  · exact .inl hn
  · exact .inr ⟨g, cap, cur, hv, hg, (Below.heap_setCell w p u g (by omega)).trans hgb, rest⟩
theorem own_pos9 {w : World} {base : Nat} {e : TypeId} {size n : Nat} {v : Value} {xs : List Value} (h : w.ownsRow base e size v n xs) (hn : 0 < n) : ∃ g cap, v = .slice (some ⟨g, 0, none⟩) n cap := by
  rcases h.2 with ⟨_, h⟩ | ⟨g, cap, cur, hv, _⟩
  · omega
  · exact ⟨g, cap, hv⟩
theorem NwS.step {w w' w6 : World} {m fb n k : Nat} {id : Int} {cs : List Int} {v v6 : Value} (h : NwS w w' m fb n id cs k v) (hfm : fb < m) (hm : w.heap.size ≤ m)
    (hrow : w6.ownsRow (m + 1) 94 16 v6 (k + 1) ((cs.take (k + 1)).flatMap encNw)) {wa : World} (hba : Below w'.heap.size w' wa) (hg : wa.grownBy w6 v.ownBlock) :
    NwS w (w6.setCell ⟨m, 1, none⟩ v6) m fb n id cs (k + 1) v6 ∧ w6.cell? ⟨m, 1, none⟩ = some v ∧ (∀ j, w6.frozen? ⟨m, j, none⟩ = false) := by
  have hra := own_below h.row hba
  have hne : ∀ j, v.ownBlock = some j → m + 1 ≤ j := fun j ej => (hra.lt j ej).1
  have hda := h.hd.below hba h.hd.lt
  obtain ⟨ds, f1, f2⟩ := h.fl
  have f1a := f1.below hba f1.lt
  have hd6 : Blk w6 m 50 #[.int .u64 id, v, .int .u64 id, .int .u32 0, .int .i64 (-1), .int .u8 0, .int .u64 1, .slice (some ⟨fb, 0, none⟩) n n] := (hg.block _ hda.lt (fun ej => by have := hne _ ej.symm; omega)).trans hda
  have fl6 : Blk w6 fb 4 ds := (hg.block _ f1a.lt (fun ej => by have := hne _ ej.symm; omega)).trans f1a
  have hb6 : Below w.heap.size w w6 := grown_below (base := w.heap.size) (h.bel.trans (hba.mono h.bel.size)) (Nat.le_refl _) (by
    refine ⟨hra.1, ?_⟩
    rcases hra.2 with hn | ⟨g, cap, cur, hv, hg, rest⟩
    · exact .inl hn
    · exact .inr ⟨g, cap, cur, hv, by omega, rest⟩) hg
  refine ⟨⟨hd6.put 1 v6, own_set9 hrow (by simp) _, ⟨ds, fl6.far (p := ⟨m, 1, none⟩) (by show fb ≠ m; omega) _, f2⟩, hb6.setCell (p := ⟨m, 1, none⟩) hm _⟩, hd6.cell 1, fun j => hd6.frozen j⟩
theorem NwS.dm {w w' : World} {m fb : Nat} {id : Int} {cs : List Int} {v : Value} (h : NwS w w' m fb cs.length id cs cs.length v) (h0 : 0 < cs.length) (hfm : fb < m) :
    ∃ pb c, DmP w' m pb fb c cs.length (newM id cs) ∧ m + 1 ≤ pb := by
  obtain ⟨hd, ⟨hl, hr⟩, ⟨ds, f1, f2⟩, hb⟩ := h
  rcases hr with ⟨_, hr⟩ | ⟨g, cap, cur, hv, hg1, hg3, hcap, _, _, hcur⟩
  · omega
  · subst hv
    have hps : (newM id cs).ps.length = cs.length := by simp [newM]
    refine ⟨g, cap, ⟨?_, ⟨cur, hg3, ?_⟩, ⟨ds, f1, ?_⟩, ⟨by omega, by omega, by omega⟩, by simp [newM]⟩, hg1⟩
    · rw [hps]; exact hd
    · rw [hps, hcur, List.take_length]
      show cs.flatMap encNw = (cs.map Sd.of).flatMap sdV
      rw [List.flatMap_map]
      rfl
    · rw [hps]; exact f2
set_option maxRecDepth 100000 in
set_option maxHeartbeats 4000000 in
theorem new_ref {w : World} {A : Option Addr} {c : Nat} {id : Int} {cs : List Int} (h0 : 0 < cs.length) (h8 : cs.length ≤ 8) (hE : Els 1 encC w A cs) :
    Calls Try.prog 10 #[.int .u64 id, .slice A cs.length c] w fun e w' => ∃ m pb fb c cf, e = .returned (.pointer (some ⟨m, 0, none⟩)) ∧ DmP w' m pb fb c cf (newM id cs) ∧ Below w.heap.size w w' ∧ w.heap.size ≤ m ∧ w.heap.size ≤ pb ∧ w.heap.size ≤ fb := by
  obtain ⟨n, hn⟩ : ∃ n, cs.length = n := ⟨_, rfl⟩
  obtain ⟨ba, off, rfl, hba, hc⟩ := hE h0
  have HC := Lib.hid hc
  have HBA := Lib.hid hba
  have HN := Lib.hid hn
  rw [hn] at h0 h8
  rw [hn]
  clear hE hc hba hn
  obtain ⟨j0, hj, hjz, hj1, hj2⟩ := info_partsT infoRP
  have HI := Lib.hid (And.intro hj (And.intro hjz (And.intro hj1 hj2)))
  clear hj hjz hj1 hj2
  obtain ⟨i, hi, hz0, hz1, hz2⟩ := info_parts bool_info9
  go_enter Try.func10, Try.ntmps10
  go_wp2_with (at_make; refine wpList_make_full _ rfl _ _ 48 rfl w.heap.size 4 i _ 1 Try.underlying48 hi hz0 hz1 _ _ _ _ n rfl rfl rfl rfl (by rw [hz2]; omega) (by simp only [maxLen]; omega) (Nat.le_refl _) ?_)
  intro u2 hown2 hg2
  have HS0 : Hid (NwS w (u2.alloc (.cells #[.int .u64 id, .slice none 0 0, .int .u64 id, .int .u32 0, .int .i64 (-1), .int .u8 0, .int .u64 1, .slice (some ⟨w.heap.size, 0, none⟩) n n] 50)) u2.heap.size w.heap.size n id cs 0 (.slice none 0 0)) := Lib.hid (by
    obtain ⟨hl, hr⟩ := hown2
    rcases hr with ⟨hr, _⟩ | ⟨g, cap, cur, hv, hg1, hg3, hcap, _, _, hcur⟩
    · cases hr
    · injection hv with hv1 hv2 hv3
      injection hv1 with hv1
      injection hv1 with hv1
      subst hv1
      refine ⟨Blk.new _ _ _, World.ownsRow_nil _ _ _ _, ⟨cur, Blk.alloc hg3 _, ?_⟩, ((Below.refl _ _).grown hg2 (Nat.le_refl _) (fun k hk => by cases hk)).alloc (hg2.size) _⟩
      have := hcur
      rw [made_false] at this
      simpa using this)
  have HM : Hid (w.heap.size < u2.heap.size) := Lib.hid (by
    rcases hown2.2 with ⟨hr, _⟩ | ⟨g, cap, cur, hv, hg1, hg3, _⟩
    · cases hr
    · injection hv with hv1 hv2 hv3
      injection hv1 with hv1
      injection hv1 with hv1
      subst hv1
      exact Blk.lt hg3)
  clear hown2 hg2 hz0 hz1 hz2 hi
  obtain ⟨fb, hfb⟩ : ∃ fb, w.heap.size = fb := ⟨_, rfl⟩
  obtain ⟨m, hm⟩ : ∃ m, u2.heap.size = m := ⟨_, rfl⟩
  have HMM : Hid (fb < m) := Lib.hid (by have := HM.out; omega)
  have HFB := Lib.hid hfb
  rw [hfb] at HS0
  rw [hfb]
  rw [hm] at HS0
  have HM2 := Lib.hid hm
  clear HM hfb hm
  go_wp2_with fail
  rw [HM2.out]
  go_loopw [6] (fun i wr => ∃ (k : Nat) (v : Value), k ≤ n ∧ i = .int .i64 k ∧ Hid (NwS w wr m fb n id cs k v)) (fun i _ => n - (intOf i).toNat)
  case atStart => exact ⟨0, _, Nat.zero_le _, rfl, HS0⟩
  case round =>
    obtain ⟨k, v, hk, rfl, hS⟩ := hrel
    by_cases hlt : k < n
    · have hlt' : k < cs.length := by rw [HN.out]; exact hlt
      obtain ⟨x, hx⟩ : ∃ x, cs[k] = x := ⟨_, rfl⟩
      have cx : wr.cell? ⟨ba, off + k, none⟩ = some (.int .u32 x) := by
        have := (show w.cell? ⟨ba, off + k, none⟩ = some (.int .u32 cs[k]) from by have := HC.out k hlt' 0 _ rfl; simpa only [Nat.mul_one, Nat.add_zero] using this)
        rw [← hx, ← this]
        exact hS.out.bel.cell (p := ⟨ba, off + k, none⟩) HBA.out
      have c1 := hS.out.hd.cell 1
      have hmlt : m < wr.heap.size := hS.out.hd.lt
      have hbalt : ba < wr.heap.size := Nat.lt_of_lt_of_le HBA.out hS.out.bel.size
      have cxa : ∀ o, (wr.alloc o).cell? ⟨ba, off + k, none⟩ = some (.int .u32 x) := fun o => (Below.cell ((Below.refl _ wr).alloc (Nat.le_refl _) o) (p := ⟨ba, off + k, none⟩) hbalt).trans cx
      have c1a : ∀ o, (wr.alloc o).cell? ⟨m, 1, none⟩ = some v := fun o => (Below.cell ((Below.refl _ wr).alloc (Nat.le_refl _) o) (p := ⟨m, 1, none⟩) hmlt).trans c1
      have HOd : Hid (∀ W', Below wr.heap.size wr W' → W'.ownsRow (m + 1) 94 16 v k ((cs.take k).flatMap encNw)) := Lib.hid (fun W' h => own_below hS.out.row h)
      have HT : Hid ((cs.take (k + 1)).flatMap encNw = (cs.take k).flatMap encNw ++ encNw x) := Lib.hid (by rw [List.take_succ_eq_append_getElem hlt', hx]; simp)
      have HML := Lib.hid hmlt
      clear hx hlt' hmlt hbalt
      go_upto_region 5 with fail
      go_region_law (first
        | (refine step_append_own rfl (.tmp 24) (.tmp 30) 47 rfl (m + 1) 94 j0 (.agg #[.int .u32 0, .bool false, .int .u64 0, .int .u32 0, .int .u64 0, .int .u8 0, .int .u8 0, .int .u64 0, .int .u8 0, .bool false, .bool false, .bool false, .int .u64 0, .int .i64 0, .bool false, .int .i64 0]) 16 96 Try.underlying47 HI.out.1 HI.out.2.1 HI.out.2.2.1 HI.out.2.2.2 rfl (by decide) v k ((cs.take k).flatMap encNw) (by simp [Act.eval, Act.put]) (HOd.out _ (by repeat (first | exact Below.refl _ _ | (refine Below.drew ?_) | (refine Below.alloc ?_ (by simp) _)))) ⟨wr.heap.size, 0, none⟩ 1 1 (encNw x) (by simp [Act.eval, Act.put]) rfl (newcells wr.drew (encNw x) _) (encNw_one x) (by simp only [maxLen]; omega) (by omega) (by have := HML.out; simp; omega) ?_; intro v6 w6 ho6 hg6; obtain ⟨g6, cap6, rfl⟩ := own_pos9 ho6 (Nat.succ_pos k); have hs6 := hS.out.step HMM.out (by have := HFB.out; have := HMM.out; omega) (by rw [HT.out]; exact ho6) (by repeat (first | exact Below.refl _ _ | (refine Below.drew ?_) | (refine Below.alloc ?_ (by simp) _))) hg6; have HS6 := Lib.hid hs6.1; have k1 := hs6.2.1; have kf := hs6.2.2; clear ho6 hg6 hs6)
        | fail "no")
      all_goals (
        go_wp2_with fail
        go_roundw
        case rel => exact ⟨k + 1, _, by omega, by go_num, HS6⟩
        case measure => simp [intOf]; omega)
    · obtain rfl : k = n := by omega
      have HF : Hid (∃ pb c, DmP wr m pb fb c cs.length (newM id cs) ∧ m + 1 ≤ pb) := Lib.hid (by
        have h := hS.out
        rw [← HN.out] at h
        exact h.dm (by rw [HN.out]; exact h0) HMM.out)
      have HB : Hid (Below w.heap.size w wr) := Lib.hid hS.out.bel
      clear hS hlt
      go_wp2_with fail
      go_ret
      obtain ⟨pb, c', h1, h2⟩ := HF.out
      have e1 := HFB.out
      have e2 := HMM.out
      exact ⟨m, pb, fb, c', cs.length, rfl, h1, HB.out, by omega, by omega, by omega⟩
end Go.Proofs.Ytlpmilaofcakbaa
