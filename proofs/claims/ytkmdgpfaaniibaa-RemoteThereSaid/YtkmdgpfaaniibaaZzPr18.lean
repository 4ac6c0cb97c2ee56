/- Layer 18, the program: the numbers of such others; what is wrong. -/
import Derived.Test.YtkmdgpfaaniibaaZzPn18
import Derived.Test.YtkmdgpfaaniibaaZzTe18
namespace Go.Proofs.Ytkmdgpfaaniibaa
open Go.RowKit
set_option linter.unusedVariables false
set_option linter.unusedSimpArgs false
set_option maxRecDepth 100000

theorem encU_u16c {w : World} {A : Option Addr} {L : List Vn} (h : Els 1 encU w A (vks L)) : Els 1 u16c w A (L.map (·.v)) := by
  intro h0
  obtain ⟨b, off, e, hlt, hc⟩ := h (by rw [vks_len]; simpa using h0)
  refine ⟨b, off, e, hlt, fun i hi j v hv => ?_⟩
  have hi' : i < (vks L).length := by rw [vks_len]; simpa using hi
  refine hc i hi' j v ?_
  rw [← hv]
  simp [vks, encU, u16c]
theorem map_filter18 {p : Vn → Bool} {q : UInt16 → Bool} {L : List Vn} (h : ∀ x ∈ L, p x = q x.v) : (L.filter p).map (·.v) = (L.map (·.v)).filter q := by
  induction L with
  | nil => rfl
  | cons x r ih =>
    have ih := ih (fun y hy => h y (by simp [hy]))
    have hx := h x (by simp)
    rw [List.filter_cons, List.map_cons, List.filter_cons, ← hx]
    cases p x
    · exact ih
    · rw [if_pos rfl, if_pos rfl, List.map_cons, ih]
set_option maxHeartbeats 4000000 in
theorem rising_lost {w : World} {b mb : Nat} {L : List Vn} {m : Rm} (h : Rmo w b mb L m) :
    Calls Try.prog 32 #[.pointer (some ⟨b, 0, none⟩), .func (.func 33) #[] #[]] w fun e w' => ∃ A c, e = .returned (.slice A ((L.filter (fun x => x.m == 0)).map (·.v)).length c) ∧ Els 1 u16c w' A ((L.filter (fun x => x.m == 0)).map (·.v)) ∧ (∀ a, A = some a → w.heap.size ≤ a.block) ∧ Below w.heap.size w w' := by
  have HM := Lib.hid h
  have c4 := h.c4
  have hrisen := h.ris
  have HRI := Lib.hid h.ris
  have HL8 := Lib.hid h.l8
  obtain ⟨n, hn⟩ : ∃ n, L.length = n := ⟨_, rfl⟩
  have HN := Lib.hid hn
  obtain ⟨i0, hi⟩ := info_parts18 infoU16
  have HIT := Lib.hid hi
  obtain ⟨w1, hw1⟩ : ∃ w1, w.alloc (.cells #[.map (some mb)] 58) = w1 := ⟨_, rfl⟩
  have HB1 : Hid (Below w.heap.size w w1) := Lib.hid (by rw [← hw1]; exact (Below.refl _ _).alloc (Nat.le_refl _) _)
  have KK := Lib.hid (keysU_any (w := w) (some mb))
  have KS : Hid (Calls Try.prog 39 #[.func (.func 47) #[] #[.pointer (some ⟨w.heap.size, 0, none⟩)]] w1 fun e w' => ∃ A c, e = .returned (.slice A n c) ∧ Els 1 u16c w' A (L.map (·.v)) ∧ Below w1.heap.size w1 w') := Lib.hid (by
    have hb := (Blk.new w 58 #[.map (some mb)]).cell 0
    rw [hw1] at hb
    have := sortedU (some mb) L h.ris h.l8 w.heap.size w1 (by rw [← hw1]; simp) (by simpa using hb) (Vof.chg (S := fun _ => False) h.vof (Chg.of_below HB1.out) (fun _ _ h => h))
    rw [hn] at this
    refine this.mono ?_
    rintro e w' ⟨A, c, he, hE, _, hb⟩
    exact ⟨A, c, he, encU_u16c hE, hb⟩)
  have hn8 : n ≤ 8 := by rw [← hn]; exact h.l8
  clear h hrisen hn hi
  go_enter Try.func32, Try.ntmps32
  go_wp2_with fail
  refine KK.out.mono ?_
  rintro e w_ ⟨rfl, rfl⟩
  rw [hw1]
  clear hw1 KK
  go_wp2_with fail
  refine KS.out.mono ?_
  rintro e w2 ⟨A, c, rfl, hE, hb⟩
  have HE := Lib.hid hE
  have HB2 : Hid (Below w.heap.size w w2) := Lib.hid (HB1.out.trans (hb.mono HB1.out.size))
  clear KS hE hb HB1 c4
  go_wp2_with fail
  go_loopw [17, 5] (fun i v5 wr => ∃ k : Nat, k ≤ n ∧ i = .int .i64 k ∧ Hid (Ow wr w2.heap.size v5 (((L.take k).filter (fun x => x.m == 0)).map (·.v))) ∧ Hid (Below w2.heap.size w2 wr)) (fun i _ _ => n - (intOf i).toNat)
  case atStart => exact ⟨0, Nat.zero_le _, rfl, Lib.hid (Ow.nil _ _), Lib.hid (Below.refl _ _)⟩
  case round =>
    obtain ⟨k, hk, rfl, HO, HB⟩ := hrel
    have HW : Hid (Below w.heap.size w wr) := Lib.hid (HB2.out.trans (HB.out.mono HB2.out.size))
    by_cases hlt : k < n
    · obtain ⟨x, hx⟩ : ∃ x, L[k]? = some x := ⟨_, List.getElem?_eq_getElem (by rw [HN.out]; exact hlt)⟩
      have hki : (k : Int) < n := by omega
      have hxv : (L.map (·.v))[k]? = some x.v := by rw [List.getElem?_map, hx]; rfl
      obtain ⟨b1, o1, rfl, hb1, c1⟩ := u16c_at (HE.out.next HB.out) hxv
      have hxm := List.mem_of_getElem? hx
      have hrm := HM.out.next HW.out
      have c4 := hrm.c4
      have hrun := hrm.vof.run x.v false
      rw [vm_mem HRI.out hxm, vu_mem HRI.out hxm] at hrun
      simp only [Bool.false_eq_true, if_false] at hrun
      have HF := Lib.hid (filter_take18 (p := fun x => x.m == 0) hx)
      have KF : Hid (Calls Try.prog 33 #[.agg #[.int .i64 x.m, .bool x.u]] wr fun e w' => e = .returned (.bool (x.m == 0)) ∧ Below wr.heap.size wr w') := Lib.hid (lost18_any x.m x.u wr)
      have HF : Hid ((L.take (k + 1)).filter (fun x => x.m == 0) = (L.take k).filter (fun x => x.m == 0) ++ (if (x.m == 0) then [x] else [])) := HF
      obtain ⟨z, hz⟩ : ∃ z, (x.m == 0) = z := ⟨_, rfl⟩
      rw [hz] at HF KF
      have HLT := Lib.hid hlt
      obtain ⟨Lk, hLk⟩ : ∃ l, ((L.take k).filter (fun x => x.m == 0)).map (·.v) = l := ⟨_, rfl⟩
      have HLL : Hid (Lk.length ≤ 8) := Lib.hid (by rw [← hLk, List.length_map]; have := List.length_filter_le (fun x => x.m == 0) (L.take k); rw [List.length_take] at this; omega)
      have HF2 : Hid (((L.take (k + 1)).filter (fun x => x.m == 0)).map (·.v) = Lk ++ (if z then [x.v] else [])) := Lib.hid (by rw [HF.out, List.map_append, hLk]; cases z <;> rfl)
      rw [hLk] at HO
      clear hx hlt hxv hxm hrm hz hLk HF
      go_wp2_with fail
      refine KF.out.mono ?_
      rintro e w3 ⟨rfl, hb3⟩
      have HB3 : Hid (Below w2.heap.size w2 w3) := Lib.hid (HB.out.trans (hb3.mono HB.out.size))
      have HO3 : Hid (Ow w3 w2.heap.size _ Lk) := Lib.hid (HO.out.below hb3)
      clear hb3 KF hrun c4 c1 HO HB
      cases z
      · go_wp2
        go_roundw
        case rel => exact ⟨k + 1, by have := HLT.out; omega, by go_num, Lib.hid (by rw [HF2.out]; simpa using HO3.out), HB3⟩
        case measure => have := HLT.out; simp [intOf]; omega
      · go_wp2_with (at_builtin; refine wpl_appL rfl (.tmp 29) (.tmp 31) _ rfl u16c_len u16c_one (by decide) w2.heap.size _ i0 _ 2 Try.underlying25 HIT.out rfl _ Lk rfl (World.ownsRow.alloc HO3.out _) (some ⟨w3.heap.size, 0, none⟩) 1 1 [x.v] rfl rfl (fun e => by cases e) (els_one18 w3 _ x.v _ rfl) (by have := HLL.out; simp; omega) (by decide) (by have := HB3.out.size; simp; omega) ?_)
        intro v6 w6 ho6 hg6 hor6
        have HO6 : Hid (Ow w6 w2.heap.size v6 (Lk ++ [x.v])) := Lib.hid (by unfold Ow; simpa using ho6)
        have HB6 : Hid (Below w2.heap.size w2 w6) := Lib.hid ((HB3.out.alloc HB3.out.size _).grown hg6 (by have := HB3.out.size; simp; omega) (fun j hj => (World.ownsRow.lt HO3.out j hj).1))
        clear ho6 hg6 hor6
        go_wp2
        go_roundw
        case rel => exact ⟨k + 1, by have := HLT.out; omega, by go_num, Lib.hid (by rw [HF2.out]; exact HO6.out), HB6⟩
        case measure => have := HLT.out; simp [intOf]; omega
    · obtain rfl : k = n := by omega
      have hO := HO.out
      rw [List.take_of_length_le (by rw [HN.out]; exact Nat.le_refl _)] at hO
      have HO9 := Lib.hid hO
      clear hO HO
      go_wp2
      go_ret
      obtain ⟨B, cb, rfl, hE, _, _, hf⟩ := HO9.out.full
      exact ⟨B, cb, rfl, hE, fun a ha => Nat.le_trans HB2.out.size (hf a ha).1, HW.out⟩
set_option maxHeartbeats 4000000 in
theorem rising_rdi {w : World} {b mb : Nat} {L : List Vn} {m : Rm} (h : Rmo w b mb L m) :
    Calls Try.prog 32 #[.pointer (some ⟨b, 0, none⟩), .func (.func 34) #[] #[]] w fun e w' => ∃ A c, e = .returned (.slice A ((L.filter (fun x => !(x.m == 0) && x.u)).map (·.v)).length c) ∧ Els 1 u16c w' A ((L.filter (fun x => !(x.m == 0) && x.u)).map (·.v)) ∧ (∀ a, A = some a → w.heap.size ≤ a.block) ∧ Below w.heap.size w w' := by
  have HM := Lib.hid h
  have c4 := h.c4
  have hrisen := h.ris
  have HRI := Lib.hid h.ris
  have HL8 := Lib.hid h.l8
  obtain ⟨n, hn⟩ : ∃ n, L.length = n := ⟨_, rfl⟩
  have HN := Lib.hid hn
  obtain ⟨i0, hi⟩ := info_parts18 infoU16
  have HIT := Lib.hid hi
  obtain ⟨w1, hw1⟩ : ∃ w1, w.alloc (.cells #[.map (some mb)] 58) = w1 := ⟨_, rfl⟩
  have HB1 : Hid (Below w.heap.size w w1) := Lib.hid (by rw [← hw1]; exact (Below.refl _ _).alloc (Nat.le_refl _) _)
  have KK := Lib.hid (keysU_any (w := w) (some mb))
  have KS : Hid (Calls Try.prog 39 #[.func (.func 47) #[] #[.pointer (some ⟨w.heap.size, 0, none⟩)]] w1 fun e w' => ∃ A c, e = .returned (.slice A n c) ∧ Els 1 u16c w' A (L.map (·.v)) ∧ Below w1.heap.size w1 w') := Lib.hid (by
    have hb := (Blk.new w 58 #[.map (some mb)]).cell 0
    rw [hw1] at hb
    have := sortedU (some mb) L h.ris h.l8 w.heap.size w1 (by rw [← hw1]; simp) (by simpa using hb) (Vof.chg (S := fun _ => False) h.vof (Chg.of_below HB1.out) (fun _ _ h => h))
    rw [hn] at this
    refine this.mono ?_
    rintro e w' ⟨A, c, he, hE, _, hb⟩
    exact ⟨A, c, he, encU_u16c hE, hb⟩)
  have hn8 : n ≤ 8 := by rw [← hn]; exact h.l8
  clear h hrisen hn hi
  go_enter Try.func32, Try.ntmps32
  go_wp2_with fail
  refine KK.out.mono ?_
  rintro e w_ ⟨rfl, rfl⟩
  rw [hw1]
  clear hw1 KK
  go_wp2_with fail
  refine KS.out.mono ?_
  rintro e w2 ⟨A, c, rfl, hE, hb⟩
  have HE := Lib.hid hE
  have HB2 : Hid (Below w.heap.size w w2) := Lib.hid (HB1.out.trans (hb.mono HB1.out.size))
  clear KS hE hb HB1 c4
  go_wp2_with fail
  go_loopw [17, 5] (fun i v5 wr => ∃ k : Nat, k ≤ n ∧ i = .int .i64 k ∧ Hid (Ow wr w2.heap.size v5 (((L.take k).filter (fun x => !(x.m == 0) && x.u)).map (·.v))) ∧ Hid (Below w2.heap.size w2 wr)) (fun i _ _ => n - (intOf i).toNat)
  case atStart => exact ⟨0, Nat.zero_le _, rfl, Lib.hid (Ow.nil _ _), Lib.hid (Below.refl _ _)⟩
  case round =>
    obtain ⟨k, hk, rfl, HO, HB⟩ := hrel
    have HW : Hid (Below w.heap.size w wr) := Lib.hid (HB2.out.trans (HB.out.mono HB2.out.size))
    by_cases hlt : k < n
    · obtain ⟨x, hx⟩ : ∃ x, L[k]? = some x := ⟨_, List.getElem?_eq_getElem (by rw [HN.out]; exact hlt)⟩
      have hki : (k : Int) < n := by omega
      have hxv : (L.map (·.v))[k]? = some x.v := by rw [List.getElem?_map, hx]; rfl
      obtain ⟨b1, o1, rfl, hb1, c1⟩ := u16c_at (HE.out.next HB.out) hxv
      have hxm := List.mem_of_getElem? hx
      have hrm := HM.out.next HW.out
      have c4 := hrm.c4
      have hrun := hrm.vof.run x.v false
      rw [vm_mem HRI.out hxm, vu_mem HRI.out hxm] at hrun
      simp only [Bool.false_eq_true, if_false] at hrun
      have HF := Lib.hid (filter_take18 (p := fun x => !(x.m == 0) && x.u) hx)
      have KF : Hid (Calls Try.prog 34 #[.agg #[.int .i64 x.m, .bool x.u]] wr fun e w' => e = .returned (.bool (!(x.m == 0) && x.u)) ∧ Below wr.heap.size wr w') := Lib.hid (rdi18_fn x.m x.u wr)
      have HF : Hid ((L.take (k + 1)).filter (fun x => !(x.m == 0) && x.u) = (L.take k).filter (fun x => !(x.m == 0) && x.u) ++ (if (!(x.m == 0) && x.u) then [x] else [])) := HF
      obtain ⟨z, hz⟩ : ∃ z, (!(x.m == 0) && x.u) = z := ⟨_, rfl⟩
      rw [hz] at HF KF
      have HLT := Lib.hid hlt
      obtain ⟨Lk, hLk⟩ : ∃ l, ((L.take k).filter (fun x => !(x.m == 0) && x.u)).map (·.v) = l := ⟨_, rfl⟩
      have HLL : Hid (Lk.length ≤ 8) := Lib.hid (by rw [← hLk, List.length_map]; have := List.length_filter_le (fun x => !(x.m == 0) && x.u) (L.take k); rw [List.length_take] at this; omega)
      have HF2 : Hid (((L.take (k + 1)).filter (fun x => !(x.m == 0) && x.u)).map (·.v) = Lk ++ (if z then [x.v] else [])) := Lib.hid (by rw [HF.out, List.map_append, hLk]; cases z <;> rfl)
      rw [hLk] at HO
      clear hx hlt hxv hxm hrm hz hLk HF
      go_wp2_with fail
      refine KF.out.mono ?_
      rintro e w3 ⟨rfl, hb3⟩
      have HB3 : Hid (Below w2.heap.size w2 w3) := Lib.hid (HB.out.trans (hb3.mono HB.out.size))
      have HO3 : Hid (Ow w3 w2.heap.size _ Lk) := Lib.hid (HO.out.below hb3)
      clear hb3 KF hrun c4 c1 HO HB
      cases z
      · go_wp2
        go_roundw
        case rel => exact ⟨k + 1, by have := HLT.out; omega, by go_num, Lib.hid (by rw [HF2.out]; simpa using HO3.out), HB3⟩
        case measure => have := HLT.out; simp [intOf]; omega
      · go_wp2_with (at_builtin; refine wpl_appL rfl (.tmp 29) (.tmp 31) _ rfl u16c_len u16c_one (by decide) w2.heap.size _ i0 _ 2 Try.underlying25 HIT.out rfl _ Lk rfl (World.ownsRow.alloc HO3.out _) (some ⟨w3.heap.size, 0, none⟩) 1 1 [x.v] rfl rfl (fun e => by cases e) (els_one18 w3 _ x.v _ rfl) (by have := HLL.out; simp; omega) (by decide) (by have := HB3.out.size; simp; omega) ?_)
        intro v6 w6 ho6 hg6 hor6
        have HO6 : Hid (Ow w6 w2.heap.size v6 (Lk ++ [x.v])) := Lib.hid (by unfold Ow; simpa using ho6)
        have HB6 : Hid (Below w2.heap.size w2 w6) := Lib.hid ((HB3.out.alloc HB3.out.size _).grown hg6 (by have := HB3.out.size; simp; omega) (fun j hj => (World.ownsRow.lt HO3.out j hj).1))
        clear ho6 hg6 hor6
        go_wp2
        go_roundw
        case rel => exact ⟨k + 1, by have := HLT.out; omega, by go_num, Lib.hid (by rw [HF2.out]; exact HO6.out), HB6⟩
        case measure => have := HLT.out; simp [intOf]; omega
    · obtain rfl : k = n := by omega
      have hO := HO.out
      rw [List.take_of_length_le (by rw [HN.out]; exact Nat.le_refl _)] at hO
      have HO9 := Lib.hid hO
      clear hO HO
      go_wp2
      go_ret
      obtain ⟨B, cb, rfl, hE, _, _, hf⟩ := HO9.out.full
      exact ⟨B, cb, rfl, hE, fun a ha => Nat.le_trans HB2.out.size (hf a ha).1, HW.out⟩
theorem losts18_any {w : World} {b mb : Nat} {L : List Vn} {m : Rm} (h : Rmo w b mb L m) :
    Calls Try.prog 16 #[.pointer (some ⟨b, 0, none⟩)] w fun e w' => ∃ A c, e = .returned (.slice A (rmLost m).length c) ∧ Els 1 u16c w' A (rmLost m) ∧ (∀ a, A = some a → w.heap.size ≤ a.block) ∧ Below w.heap.size w w' := by
  have K := Lib.hid (rising_lost h)
  have hs : (L.filter (fun x => x.m == 0)).map (·.v) = rmLost m := by
    rw [map_filter18 (q := fun x => m.la x == 0) (fun x hx => by simp only [h.la x hx]), h.keys]
    rfl
  rw [hs] at K
  clear hs h
  go_enter Try.func16, Try.ntmps16
  go_wp2_with fail
  refine K.out.mono ?_
  rintro e w1 ⟨A, c, rfl, hE, hf, hb⟩
  go_wp2
  go_ret
  exact ⟨A, c, rfl, hE, hf, hb⟩
theorem rdis18_any {w : World} {b mb : Nat} {L : List Vn} {m : Rm} (h : Rmo w b mb L m) :
    Calls Try.prog 17 #[.pointer (some ⟨b, 0, none⟩)] w fun e w' => ∃ A c, e = .returned (.slice A (rmRdis m).length c) ∧ Els 1 u16c w' A (rmRdis m) ∧ (∀ a, A = some a → w.heap.size ≤ a.block) ∧ Below w.heap.size w w' := by
  have K := Lib.hid (rising_rdi h)
  have hs : (L.filter (fun x => !(x.m == 0) && x.u)).map (·.v) = rmRdis m := by
    rw [map_filter18 (q := fun x => !(m.la x == 0) && m.rd x) (fun x hx => by simp only [h.la x hx, h.rd x hx]), h.keys]
    rfl
  rw [hs] at K
  clear hs h
  go_enter Try.func17, Try.ntmps17
  go_wp2_with fail
  refine K.out.mono ?_
  rintro e w1 ⟨A, c, rfl, hE, hf, hb⟩
  go_wp2
  go_ret
  exact ⟨A, c, rfl, hE, hf, hb⟩
set_option maxHeartbeats 2000000 in
theorem worst18_any {w : World} {b mb : Nat} {L : List Vn} {m : Rm} (h : Rmo w b mb L m) :
    Calls Try.prog 19 #[.pointer (some ⟨b, 0, none⟩)] w fun e w' => e = .returned (.int .u8 (rmWorst m : Nat)) ∧ Below w.heap.size w w' := by
  have c5 := h.c5
  have c6 := h.c6
  have K1 := Lib.hid (losts18_any h)
  have K2 := Lib.hid (fun (w' : World) (hb : Below w.heap.size w w') => rdis18_any (h.next hb))
  obtain ⟨er, her⟩ : ∃ n, m.er = n := ⟨_, rfl⟩
  obtain ⟨cr, hcr⟩ : ∃ n, m.cr = n := ⟨_, rfl⟩
  obtain ⟨n1, hn1⟩ : ∃ n, (rmLost m).length = n := ⟨_, rfl⟩
  obtain ⟨n2, hn2⟩ : ∃ n, (rmRdis m).length = n := ⟨_, rfl⟩
  rw [her] at c5
  rw [hcr] at c6
  rw [hn1] at K1
  rw [hn2] at K2
  have HW : Hid (rmWorst m = if 0 < cr then 4 else if 0 < er then 3 else if 0 < n1 then 2 else if 0 < n2 then 1 else 0) := Lib.hid (by unfold rmWorst; rw [her, hcr, hn1, hn2])
  clear h her hcr hn1 hn2
  by_cases h1 : 0 < cr
  · have p1 : (0 : Int) < (cr : Int) := by omega
    have H := Lib.hid h1
    clear h1
    go_enter Try.func19, Try.ntmps19
    go_wp2
    go_ret
    exact ⟨by rw [HW.out, if_pos H.out]; rfl, Below.refl _ _⟩
  have p1 : ¬ (0 : Int) < (cr : Int) := by omega
  by_cases h2 : 0 < er
  · have p2 : (0 : Int) < (er : Int) := by omega
    have H := Lib.hid (And.intro h1 h2)
    clear h1 h2
    go_enter Try.func19, Try.ntmps19
    go_wp2
    go_ret
    exact ⟨by rw [HW.out, if_neg H.out.1, if_pos H.out.2]; rfl, Below.refl _ _⟩
  have p2 : ¬ (0 : Int) < (er : Int) := by omega
  have H12 := Lib.hid (And.intro h1 h2)
  clear h1 h2
  go_enter Try.func19, Try.ntmps19
  go_wp2_with fail
  refine K1.out.mono ?_
  rintro e w1 ⟨A, c, rfl, hE, hf, hb⟩
  have HB := Lib.hid hb
  clear hE hf hb K1 c5 c6 p1 p2
  by_cases h3 : 0 < n1
  · have p3 : (0 : Int) < (n1 : Int) := by omega
    have H := Lib.hid h3
    clear h3
    go_wp2
    go_ret
    exact ⟨by rw [HW.out, if_neg H12.out.1, if_neg H12.out.2, if_pos H.out]; rfl, HB.out⟩
  have p3 : ¬ (0 : Int) < (n1 : Int) := by omega
  have H3 := Lib.hid h3
  clear h3
  go_wp2_with fail
  refine (K2.out _ HB.out).mono ?_
  rintro e w2 ⟨A2, c2, rfl, hE, hf, hb⟩
  have HB2 := Lib.hid (HB.out.trans (hb.mono HB.out.size))
  clear hE hf hb K2 p3
  by_cases h4 : 0 < n2
  · have p4 : (0 : Int) < (n2 : Int) := by omega
    have H := Lib.hid h4
    clear h4
    go_wp2
    go_ret
    exact ⟨by rw [HW.out, if_neg H12.out.1, if_neg H12.out.2, if_neg H3.out, if_pos H.out]; rfl, HB2.out⟩
  have p4 : ¬ (0 : Int) < (n2 : Int) := by omega
  have H4 := Lib.hid h4
  clear h4
  go_wp2
  go_ret
  exact ⟨by rw [HW.out, if_neg H12.out.1, if_neg H12.out.2, if_neg H3.out, if_neg H4.out]; rfl, HB2.out⟩
theorem defects18_any {w : World} {b mb : Nat} {L : List Vn} {m : Rm} (h : Rmo w b mb L m) :
    Calls Try.prog 18 #[.pointer (some ⟨b, 0, none⟩)] w fun e w' => e = .returned (.bool (rmDef m)) ∧ Below w.heap.size w w' := by
  have K := Lib.hid (worst18_any h)
  have hd : rmDef m = decide (2 ≤ rmWorst m) := by
    rw [rm_def_worst]
    exact decide_eq_decide.2 Iff.rfl
  have hle := rmWorst_le m
  obtain ⟨n, hn⟩ : ∃ n, rmWorst m = n := ⟨_, rfl⟩
  rw [hd]
  rw [hn] at K hle ⊢
  clear h hd hn
  have h5 : n = 0 ∨ n = 1 ∨ n = 2 ∨ n = 3 ∨ n = 4 := by omega
  clear hle
  rcases h5 with rfl | rfl | rfl | rfl | rfl
  · go_enter Try.func18, Try.ntmps18
    go_wp2_with fail
    refine K.out.mono ?_
    rintro e w1 ⟨rfl, hb⟩
    go_wp2
    go_ret
    exact ⟨rfl, hb⟩
  · go_enter Try.func18, Try.ntmps18
    go_wp2_with fail
    refine K.out.mono ?_
    rintro e w1 ⟨rfl, hb⟩
    go_wp2
    go_ret
    exact ⟨rfl, hb⟩
  · go_enter Try.func18, Try.ntmps18
    go_wp2_with fail
    refine K.out.mono ?_
    rintro e w1 ⟨rfl, hb⟩
    go_wp2
    go_ret
    exact ⟨rfl, hb⟩
  · go_enter Try.func18, Try.ntmps18
    go_wp2_with fail
    refine K.out.mono ?_
    rintro e w1 ⟨rfl, hb⟩
    go_wp2
    go_ret
    exact ⟨rfl, hb⟩
  · go_enter Try.func18, Try.ntmps18
    go_wp2_with fail
    refine K.out.mono ?_
    rintro e w1 ⟨rfl, hb⟩
    go_wp2
    go_ret
    exact ⟨rfl, hb⟩
end Go.Proofs.Ytkmdgpfaaniibaa
