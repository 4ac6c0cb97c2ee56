/- Layer 18, the program: New. -/
import Derived.Test.YtkmdgpfaaniibaaZzPh18
import Derived.BigRegion
import Derived.Test.YtkmdgpfaaniibaaZz
namespace Go.Proofs.Ytkmdgpfaaniibaa
open Go.RowKit
set_option linter.unusedVariables false
set_option linter.unusedSimpArgs false
set_option maxRecDepth 100000

theorem ticks18_eq (i : UInt8) (w : World) : Calls Try.prog 23 #[.int .u8 i.toNat] w fun e w' => e = .returned (.int .i64 (ckN i : Nat)) ∧ w = w' := by
  by_cases h4 : i = 4
  · subst h4
    go_enter Try.func23, Try.ntmps23
    go_wp2
    go_ret
    exact ⟨rfl, rfl⟩
  · by_cases h5 : i = 5
    · subst h5
      go_enter Try.func23, Try.ntmps23
      go_wp2
      go_ret
      exact ⟨rfl, rfl⟩
    · have e4 : ((i.toNat : Int) == 4) = false := by
        rw [beq_eq_false_iff_ne]; intro h; exact h4 (UInt8.toNat_inj.1 (by show i.toNat = 4; omega))
      have e5 : ((i.toNat : Int) == 5) = false := by
        rw [beq_eq_false_iff_ne]; intro h; exact h5 (UInt8.toNat_inj.1 (by show i.toNat = 5; omega))
      have hN : ckN i = 0 := by unfold ckN; rw [if_neg h4, if_neg h5]
      rw [hN]
      clear h4 h5 hN
      go_enter Try.func23, Try.ntmps23
      go_wp2
      go_ret
      exact ⟨rfl, rfl⟩
theorem lasts18_eq (i : UInt8) (w : World) : Calls Try.prog 20 #[.int .u8 i.toNat] w fun e w' => e = .returned (.int .i64 (lsN i : Nat)) ∧ w = w' := by
  have K := Lib.hid (ticks18_eq i w)
  have h3 : (ckN i = 1 ∧ lsN i = 4) ∨ (ckN i = 10 ∧ lsN i = 35) ∨ (ckN i = 0 ∧ lsN i = 0) := by
    unfold ckN lsN
    by_cases h4 : i = 4
    · simp [h4]
    · by_cases h5 : i = 5
      · simp [h4, h5]
      · simp [h4, h5]
  obtain ⟨a, ha⟩ : ∃ a, ckN i = a := ⟨_, rfl⟩
  obtain ⟨c, hc⟩ : ∃ a, lsN i = a := ⟨_, rfl⟩
  rw [ha] at K
  rw [ha, hc] at h3
  rw [hc]
  clear ha hc
  rcases h3 with ⟨rfl, rfl⟩ | ⟨rfl, rfl⟩ | ⟨rfl, rfl⟩
  · go_enter Try.func20, Try.ntmps20
    go_wp2_with fail
    refine K.out.mono ?_
    rintro e w1 ⟨rfl, rfl⟩
    go_wp2
    go_ret
    exact ⟨rfl, rfl⟩
  · go_enter Try.func20, Try.ntmps20
    go_wp2_with fail
    refine K.out.mono ?_
    rintro e w1 ⟨rfl, rfl⟩
    go_wp2
    go_ret
    exact ⟨rfl, rfl⟩
  · go_enter Try.func20, Try.ntmps20
    go_wp2_with fail
    refine K.out.mono ?_
    rintro e w1 ⟨rfl, rfl⟩
    go_wp2
    go_ret
    exact ⟨rfl, rfl⟩
theorem onC_M (o : On) : ckM (onC o) = true → o.ma.length = 48 := fun h => (ckM_is h).1
/-- a machine under way: those of L, no other -/
structure Mk18 (w : World) (b mb : Nat) (o : On) (os : List UInt16) (k : Nat) (L : List Vn) : Prop where
  rmo : Rmo w b mb L (rmNew o (L.map (·.v)))
  mem : ∀ x, x ∈ L.map (·.v) ↔ x ∈ os.take k
  len : L.length = k
  all : ∀ x ∈ os.take k, rmOne o x = true
  nd : (os.take k).Nodup
theorem vput_new {L : List Vn} {x : Vn} (h : vhas L x.v = false) : (∀ y, y ∈ vput L x ↔ y = x ∨ y ∈ L) ∧ (vput L x).length = L.length + 1 := by
  have hid : vdel L x.v = L := vdel_id (fun y hy e => by
    have : vhas L x.v = true := vhas_iff.2 (List.mem_map.2 ⟨y, hy, e⟩)
    rw [h] at this; cases this)
  unfold vput
  rw [hid]
  exact ⟨fun y => vins_mem, vins_len _ _⟩
theorem Mk18.next {w w' : World} {b mb : Nat} {o : On} {os : List UInt16} {k : Nat} {L : List Vn} (h : Mk18 w b mb o os k L) (hb : Below w.heap.size w w') : Mk18 w' b mb o os k L := ⟨h.rmo.next hb, h.mem, h.len, h.all, h.nd⟩
theorem Mk18.put {w : World} {b mb : Nat} {o : On} {os : List UInt16} {k : Nat} {L : List Vn} {x : UInt16} (h : Mk18 w b mb o os k L) (hx : os[k]? = some x) (h1 : rmOne o x = true) (h2 : vhas L x = false) (h8 : k < 8) :
    ∃ w', (Instr.mapUpdate 58 (.map (some mb)) (.int .u16 x.toNat) (.agg #[.int .i64 (lsN o.iv : Nat), .bool false])).run Try.prog w = .ok () w' ∧ Mk18 w' b mb o os (k + 1) (vput L ⟨x, lsN o.iv, false⟩) ∧ Chg (rmS b mb) w w' := by
  obtain ⟨w', hr, hv, ht⟩ := Vmap.put h.rmo.map h.rmo.l8 ⟨x, lsN o.iv, false⟩
  have hg := ht.grown
  obtain ⟨hm, hl⟩ := vput_new (L := L) (x := ⟨x, lsN o.iv, false⟩) h2
  have hk : k < os.length := (List.getElem?_eq_some_iff.1 hx).1
  have hxe : os[k] = x := (List.getElem?_eq_some_iff.1 hx).2
  have htk : os.take (k + 1) = os.take k ++ [x] := by rw [List.take_succ_eq_append_getElem hk, hxe]
  have hnew : x ∉ os.take k := fun hi => by
    have := vhas_iff.2 ((h.mem x).2 hi)
    rw [h2] at this; cases this
  refine ⟨w', hr, ⟨⟨(hg.block b h.rmo.blk.lt (fun e => h.rmo.ne (by cases e; rfl))).trans h.rmo.blk, hv, vput_ris _ h.rmo.ris, by rw [hl, h.len]; omega, rfl, ?_, ?_, ?_, h.rmo.er, h.rmo.cr⟩, ?_, by rw [hl, h.len], ?_, ?_⟩, Chg.of_grown hg (fun k e => .inr (.inr (by cases e; rfl)))⟩
  · intro y hy
    rcases (hm y).1 hy with rfl | hy
    · rfl
    · exact h.rmo.la y hy
  · intro y hy
    rcases (hm y).1 hy with rfl | hy
    · rfl
    · exact h.rmo.rd y hy
  · intro y hy
    rcases (hm y).1 hy with rfl | hy
    · exact lsN_le18 _
    · exact h.rmo.top y hy
  · intro z
    rw [htk, List.mem_append, List.mem_singleton, ← h.mem z]
    constructor
    · intro hz
      obtain ⟨y, hy, rfl⟩ := List.mem_map.1 hz
      rcases (hm y).1 hy with rfl | hy
      · exact .inr rfl
      · exact .inl (List.mem_map_of_mem hy)
    · rintro (hz | rfl)
      · obtain ⟨y, hy, rfl⟩ := List.mem_map.1 hz
        exact List.mem_map_of_mem ((hm y).2 (.inr hy))
      · exact List.mem_map.2 ⟨_, (hm _).2 (.inl rfl), rfl⟩
  · intro z hz
    rw [htk] at hz
    rcases List.mem_append.1 hz with hz | hz
    · exact h.all z hz
    · rw [List.mem_singleton.1 hz]; exact h1
  · rw [htk, List.nodup_append]
    exact ⟨h.nd, by simp, fun a ha c hc => by rw [List.mem_singleton.1 hc]; intro e; subst e; exact hnew ha⟩
theorem Mk18.done {w : World} {b mb : Nat} {o : On} {os : List UInt16} {L : List Vn} {k : Nat} (hk : os.length = k) (h : Mk18 w b mb o os k L) (h8 : k ≤ 8) (hc : ckM (onC o) = true) : rmMay o os = true ∧ Rmo w b mb L (rmNew o (risen os)) := by
  subst hk
  have ht : os.take os.length = os := List.take_of_length_le (Nat.le_refl _)
  have hm := h.mem
  have ha := h.all
  have hn := h.nd
  rw [ht] at hm ha hn
  refine ⟨?_, ?_⟩
  · unfold rmMay
    rw [decide_eq_true h8, hc, List.all_eq_true.2 ha, decide_eq_true hn]
    rfl
  · have e : L.map (·.v) = risen os := by
      refine sorted_eq ?_ (risen_sorted hn) (fun x => ?_)
      · rw [List.pairwise_map]; exact h.rmo.ris
      · rw [hm, risen_mem]
        refine ⟨fun hx => ⟨hx, ?_⟩, fun hx => hx.1⟩
        have := ha x hx
        unfold rmOne at this
        simp only [Bool.and_eq_true, decide_eq_true_eq] at this
        omega
    rw [← e]
    exact h.rmo
theorem may_not1 {o : On} {os : List UInt16} (h : ckM (onC o) = false ∨ 8 < os.length) : rmMay o os = false := by
  unfold rmMay
  rcases h with h | h
  · rw [h]; simp
  · rw [decide_eq_false (by omega)]; rfl
theorem may_not2 {o : On} {os : List UInt16} {k : Nat} {x : UInt16} (hx : os[k]? = some x) (h : rmOne o x = false) : rmMay o os = false := by
  unfold rmMay
  have : os.all (rmOne o) = false := List.all_eq_false.2 ⟨x, List.mem_of_getElem? hx, by rw [h]; decide⟩
  rw [this]; simp
theorem may_not3 {o : On} {os : List UInt16} {k : Nat} {x : UInt16} (hx : os[k]? = some x) (h : x ∈ os.take k) : rmMay o os = false := by
  unfold rmMay
  have : ¬ os.Nodup := by
    intro hn
    have hk : k < os.length := (List.getElem?_eq_some_iff.1 hx).1
    have hxe : os[k] = x := (List.getElem?_eq_some_iff.1 hx).2
    have := List.take_append_drop k os
    rw [← this, List.nodup_append] at hn
    exact hn.2.2 x h x (List.mem_of_getElem? (i := 0) (by rw [List.getElem?_drop]; exact hx)) rfl
  rw [decide_eq_false this]; simp
theorem Mk18.new {w : World} {b mb : Nat} {o : On} (os : List UInt16) (hb : Blk w b 60 #[.int .u8 o.lv.toNat, .int .u16 o.me.toNat, .int .u8 o.iv.toNat, .string ⟨o.ma.toArray⟩, .map (some mb), .int .i64 0, .int .i64 0]) (hm : Vmap w mb []) : Mk18 w b mb o os 0 [] :=
  ⟨⟨hb, hm, List.Pairwise.nil, Nat.zero_le _, rfl, by simp, by simp, by simp, Nat.zero_le _, Nat.zero_le _⟩, by simp, rfl, by simp, by simp⟩
set_option maxHeartbeats 8000000 in
theorem new18_any (o : On) (A : Option Addr) (ca : Nat) (os : List UInt16) (w : World) (hma : o.ma.length ≤ 1000) (hE : Els 1 u16c w A os) (hos : os.length ≤ 1000) :
    Calls Try.prog 8 #[.agg #[.int .u8 o.lv.toNat, .int .u16 o.me.toNat, .int .u8 o.iv.toNat, .string ⟨o.ma.toArray⟩], .slice A os.length ca] w fun e w' => (rmMay o os = true ∧ ∃ b mb L, e = .returned (.tuple #[.pointer (some ⟨b, 0, none⟩), .int .i64 0]) ∧ Rmo w' b mb L (rmNew o (risen os)) ∧ w.heap.size ≤ b ∧ w.heap.size ≤ mb ∧ Below w.heap.size w w') ∨ (rmMay o os = false ∧ e = .returned (.tuple #[.pointer none, .int .i64 2]) ∧ Below w.heap.size w w') := by
  obtain ⟨W, hW⟩ : ∃ W, (w.alloc (.cells #[.int .u8 o.lv.toNat, .int .u16 o.me.toNat, .int .u8 o.iv.toNat, .string ⟨o.ma.toArray⟩] 33)) = W := ⟨_, rfl⟩
  obtain ⟨g, hg⟩ : ∃ g, w.heap.size = g := ⟨_, rfl⟩
  have HB0 : Hid (Below w.heap.size w W) := Lib.hid (by rw [← hW]; exact (Below.refl _ _).alloc (Nat.le_refl _) _)
  have HX0 : Hid (Blk W g 33 #[.int .u8 o.lv.toNat, .int .u16 o.me.toNat, .int .u8 o.iv.toNat, .string ⟨o.ma.toArray⟩]) := Lib.hid (by rw [← hW, ← hg]; exact Blk.new _ _ _)
  have HE := Lib.hid hE
  have HG := Lib.hid hg
  obtain ⟨n, hn⟩ : ∃ n, os.length = n := ⟨_, rfl⟩
  have HN := Lib.hid hn
  have KO := Lib.hid (checkOf18_any o W)
  have KM : Hid (∀ w, Calls Try.prog 24 #[.agg #[.int .u8 o.lv.toNat, .bool false, .int .u8 o.iv.toNat, .int .u32 0, .int .u16 o.me.toNat, .string ⟨o.ma.toArray⟩]] w fun e w' => e = .returned (.bool (ckM (onC o))) ∧ Below w.heap.size w w') := Lib.hid (fun w => mayBe18_any (onC o) w hma)
  obtain ⟨M, hM⟩ : ∃ M, ckM (onC o) = M := ⟨_, rfl⟩
  rw [hM] at KM
  have HMM := Lib.hid hM
  have k0 := HX0.out.cell 0
  have k1 := HX0.out.cell 1
  have k2 := HX0.out.cell 2
  have k3 := HX0.out.cell 3
  simp only [List.getElem?_toArray, List.getElem?_cons_succ, List.getElem?_cons_zero] at k0 k1 k2 k3
  rw [hn]
  clear hM hE hma hn
  go_enter Try.func8, Try.ntmps8
  go_wp2_with fail
  try rw [hW]
  clear hW hg
  refine KO.out.mono ?_
  rintro e w1 ⟨rfl, hb1⟩
  have HB1 : Hid (Below w.heap.size w w1) := Lib.hid (HB0.out.trans (hb1.mono HB0.out.size))
  have HX1 : Hid (Blk w1 g 33 #[.int .u8 o.lv.toNat, .int .u16 o.me.toNat, .int .u8 o.iv.toNat, .string ⟨o.ma.toArray⟩]) := Lib.hid (HX0.out.below hb1 HX0.out.lt)
  clear hb1 k0 k1 k2 k3 HB0 HX0 KO
  go_wp2_with fail
  refine (KM.out _).mono ?_
  rintro e w2 ⟨rfl, hb2⟩
  have HB : Hid (Below w.heap.size w w2) := Lib.hid (HB1.out.trans (hb2.mono HB1.out.size))
  have HX2 : Hid (Blk w2 g 33 #[.int .u8 o.lv.toNat, .int .u16 o.me.toNat, .int .u8 o.iv.toNat, .string ⟨o.ma.toArray⟩]) := Lib.hid (HX1.out.below hb2 HX1.out.lt)
  clear hb2 HB1 HX1 KM
  cases M
  · go_wp2
    go_ret2
    exact .inr ⟨may_not1 (.inl HMM.out), rfl, HB.out⟩
  by_cases h8 : 8 < n
  · have p8 : (8 : Int) < (n : Int) := by omega
    have H8 := Lib.hid h8
    clear h8
    go_wp2
    go_ret2
    exact .inr ⟨may_not1 (.inr (by rw [HN.out]; exact H8.out)), rfl, HB.out⟩
  have p8 : ¬ (8 : Int) < (n : Int) := by omega
  have H8 : Hid (n ≤ 8) := Lib.hid (by omega)
  clear h8
  obtain ⟨w3, hw3⟩ : ∃ w3, w2.alloc (.map #[] 0) = w3 := ⟨_, rfl⟩
  obtain ⟨mb, hmb⟩ : ∃ mb, w2.heap.size = mb := ⟨_, rfl⟩
  obtain ⟨w4, hw4⟩ : ∃ w4, w3.alloc (.cells #[.int .u8 o.lv.toNat, .int .u16 o.me.toNat, .int .u8 o.iv.toNat, .string ⟨o.ma.toArray⟩, .map (some mb), .int .i64 0, .int .i64 0] 60) = w4 := ⟨_, rfl⟩
  obtain ⟨b, hbe⟩ : ∃ b, w3.heap.size = b := ⟨_, rfl⟩
  have HB4 : Hid (Below w.heap.size w w4) := Lib.hid (by
    rw [← hw4, ← hw3]
    exact (HB.out.alloc HB.out.size _).alloc (by have := HB.out.size; simp; omega) _)
  have HX4 : Hid (Blk w4 g 33 #[.int .u8 o.lv.toNat, .int .u16 o.me.toNat, .int .u8 o.iv.toNat, .string ⟨o.ma.toArray⟩]) := Lib.hid (by rw [← hw4, ← hw3]; exact (HX2.out.alloc _).alloc _)
  have HMK : Hid (Mk18 w4 b mb o os 0 []) := Lib.hid (Mk18.new os (by rw [← hw4, ← hbe]; exact Blk.new _ _ _) (by
    have h3 : Vmap w3 mb [] := by rw [← hw3, ← hmb]; exact Vmap.made w2
    rw [← hw4]
    exact h3.chg (S := fun _ => False) (Chg.of_below ((Below.refl _ _).alloc (Nat.le_refl _) _)) (fun h => h)))
  have HBB : Hid (w.heap.size ≤ b ∧ w.heap.size ≤ mb ∧ mb ≠ g ∧ b ≠ g) := Lib.hid (by
    have h1 := HB.out.size
    have h2 : b = mb + 1 := by rw [← hbe, ← hw3, ← hmb]; simp
    have h3 := HX2.out.lt
    omega)
  have hmm := @run_makeMap Try.prog
  have k0 := HX2.out.cell 0
  have k1 := HX2.out.cell 1
  have k2 := HX2.out.cell 2
  have k3 := HX2.out.cell 3
  simp only [List.getElem?_toArray, List.getElem?_cons_succ, List.getElem?_cons_zero] at k0 k1 k2 k3
  go_wp2_with fail
  try simp only [hmb, hbe]
  try rw [hw4]
  clear hmb hbe hw3 hw4
  clear k0 k1 k2 k3 p8 hmm
  go_loopw [24] (fun i wr => ∃ (k : Nat) (L : List Vn), k ≤ n ∧ i = .int .i64 k ∧ Hid (Mk18 wr b mb o os k L) ∧ Hid (Blk wr g 33 #[.int .u8 o.lv.toNat, .int .u16 o.me.toNat, .int .u8 o.iv.toNat, .string ⟨o.ma.toArray⟩]) ∧ Hid (Below w.heap.size w wr)) (fun i _ => n - (intOf i).toNat)
  case atStart => exact ⟨0, [], Nat.zero_le _, rfl, HMK, HX4, HB4⟩
  case round =>
    obtain ⟨k, L, hk, rfl, HK, HX, HB⟩ := hrel
    clear HB4 HX4 HMK
    by_cases hlt : k < n
    · obtain ⟨x, hx⟩ : ∃ x, os[k]? = some x := ⟨_, List.getElem?_eq_getElem (by rw [HN.out]; exact hlt)⟩
      have hki : (k : Int) < n := by omega
      obtain ⟨b1, o1, rfl, hb1, c1⟩ := u16c_at (HE.out.next HB.out) hx
      have HXX := Lib.hid hx
      have HLT := Lib.hid hlt
      have k1 := HX.out.cell 1
      simp only [List.getElem?_toArray, List.getElem?_cons_succ, List.getElem?_cons_zero] at k1
      clear hx hlt
      by_cases h1 : x.toNat < 1
      · have p1 : (x.toNat : Int) < 1 := by omega
        have HD : Hid (rmOne o x = false) := Lib.hid (by unfold rmOne; rw [decide_eq_false (by omega)]; rfl)
        clear h1
        go_wp2
        go_ret2
        exact .inr ⟨may_not2 HXX.out HD.out, rfl, HB.out⟩
      have p1 : ¬ (x.toNat : Int) < 1 := by omega
      by_cases h2 : 8191 < x.toNat
      · have p2 : (8191 : Int) < (x.toNat : Int) := by omega
        have HD : Hid (rmOne o x = false) := Lib.hid (by unfold rmOne; rw [decide_eq_false (show ¬ x.toNat ≤ 8191 by omega)]; simp)
        clear h1 h2
        go_wp2
        go_ret2
        exact .inr ⟨may_not2 HXX.out HD.out, rfl, HB.out⟩
      have p2 : ¬ (8191 : Int) < (x.toNat : Int) := by omega
      by_cases h3 : x = o.me
      · have d3 : ((x.toNat : Int) == (o.me.toNat : Int)) = true := by rw [h3]; simp
        have HD : Hid (rmOne o x = false) := Lib.hid (by unfold rmOne; rw [h3]; simp)
        clear h1 h2 h3
        go_wp2
        go_ret2
        exact .inr ⟨may_not2 HXX.out HD.out, rfl, HB.out⟩
      have d3 : ((x.toNat : Int) == (o.me.toNat : Int)) = false := by
        rw [beq_eq_false_iff_ne]; intro e; exact h3 (UInt16.toNat_inj.1 (by omega))
      have HD : Hid (rmOne o x = true) := Lib.hid (by
        unfold rmOne
        rw [decide_eq_true (by omega), decide_eq_true (by omega)]
        simp [h3])
      clear h1 h2 h3
      have KH := Lib.hid (has18_any HK.out.rmo x)
      obtain ⟨hs, hhs⟩ : ∃ h, vhas L x = h := ⟨_, rfl⟩
      rw [hhs] at KH
      have HH := Lib.hid hhs
      clear hhs
      go_wp2_with fail
      refine KH.out.mono ?_
      rintro e w5 ⟨rfl, hb5⟩
      have HB5 : Hid (Below w.heap.size w w5) := Lib.hid (HB.out.trans (hb5.mono HB.out.size))
      have HX5 : Hid (Blk w5 g 33 #[.int .u8 o.lv.toNat, .int .u16 o.me.toNat, .int .u8 o.iv.toNat, .string ⟨o.ma.toArray⟩]) := Lib.hid (HX.out.below hb5 HX.out.lt)
      have HK5 := Lib.hid (HK.out.next hb5)
      clear hb5 KH HB HX c1 k1 p1 p2 d3
      cases hs
      case true =>
        go_wp2
        go_ret2
        exact .inr ⟨may_not3 HXX.out ((HK.out.mem x).1 (vhas_iff.1 HH.out)), rfl, HB5.out⟩
      have HB6 : Hid (Below w.heap.size w w5.drew) := Lib.hid HB5.out.drew
      have HX6 : Hid (Blk w5.drew g 33 #[.int .u8 o.lv.toNat, .int .u16 o.me.toNat, .int .u8 o.iv.toNat, .string ⟨o.ma.toArray⟩]) := Lib.hid HX5.out.drew
      obtain ⟨w6, hput, hK6, hc6⟩ := (HK5.out.next ((Below.refl _ _).drew)).put HXX.out HD.out HH.out (by have := H8.out; have := HLT.out; omega)
      have HK6 := Lib.hid hK6
      have HB7 : Hid (Below w.heap.size w w6) := Lib.hid (HB6.out.trans (hc6.below HB6.out.size (fun j hj hs => by have := HBB.out; rcases hs with rfl | rfl <;> omega)))
      have HX7 : Hid (Blk w6 g 33 #[.int .u8 o.lv.toNat, .int .u16 o.me.toNat, .int .u8 o.iv.toNat, .string ⟨o.ma.toArray⟩]) := Lib.hid (HX6.out.chg hc6 (by rintro (e | e) <;> (have := HBB.out; omega)))
      obtain ⟨LN, hLN⟩ : ∃ l, lsN o.iv = l := ⟨_, rfl⟩
      have KL := Lib.hid (fun w => lasts18_eq o.iv w)
      rw [hLN] at hput KL
      have k2 := HX5.out.cell 2
      simp only [List.getElem?_toArray, List.getElem?_cons_succ, List.getElem?_cons_zero] at k2
      have b4 := HK5.out.rmo.c4
      have hput2 := hput
      simp only [World.drew] at hput2
      have hS5 : w5.drew.cell? ⟨b, 4, none⟩ = some (.map (some mb)) ∧ w5.drew.cell? ⟨g, 2, none⟩ = some (.int .u8 o.iv.toNat) := ⟨b4, k2⟩
      have hS6 : w6.cell? ⟨b, 4, none⟩ = some (.map (some mb)) ∧ w6.cell? ⟨g, 2, none⟩ = some (.int .u8 o.iv.toNat) := ⟨HK6.out.rmo.c4, by
        have := HX7.out.cell 2
        simpa using this⟩
      clear k2 b4
      clear hK6 hc6 hLN
      go_wp2_with fail
      refine wp_region_noPanic ?_
      refine wp_region_held_drew (S := fun w_ => w_.cell? ⟨b, 4, none⟩ = some (.map (some mb)) ∧ w_.cell? ⟨g, 2, none⟩ = some (.int .u8 o.iv.toNat)) (by kernel_rfl) hS5 (fun hHeld => ?_)
      refine wpAnyH_take (i := 0) (v := ?v1) rfl (by kernel_rfl) (by kernel_rfl) (by kernel_rfl) (fun _ _ _ h => h) (Or.inl ⟨by rfl, ?hy1⟩) hHeld ?rest1
      case hy1 =>
        intro w_ hSw; go_simp
        all_goals (with_reducible rfl)
      try simp only [Act.put, List.getElem_toArray, List.getElem_cons_succ, List.getElem_cons_zero, List.setIfInBounds_toArray, List.set_cons_zero, List.set_cons_succ]
      refine wpAnyH_take (i := 1) (v := ?v2) rfl (by kernel_rfl) (by kernel_rfl) (by kernel_rfl) (fun _ _ _ h => h) (Or.inl ⟨by rfl, ?hy2⟩) hHeld ?rest2
      case hy2 =>
        intro w_ hSw; go_simp
        all_goals (with_reducible rfl)
      try simp only [Act.put, List.getElem_toArray, List.getElem_cons_succ, List.getElem_cons_zero, List.setIfInBounds_toArray, List.set_cons_zero, List.set_cons_succ]
      refine wpAnyH_take (i := 2) (v := ?v3) rfl (by kernel_rfl) (by kernel_rfl) (by kernel_rfl) (fun _ _ _ h => h) (Or.inl ⟨by rfl, ?hy3⟩) hHeld ?rest3
      case hy3 =>
        intro w_ hSw; go_simp
        all_goals (with_reducible rfl)
      try simp only [Act.put, List.getElem_toArray, List.getElem_cons_succ, List.getElem_cons_zero, List.setIfInBounds_toArray, List.set_cons_zero, List.set_cons_succ]
      refine wpAnyH_take (i := 3) (v := ?v4) rfl (by kernel_rfl) (by kernel_rfl) (by kernel_rfl) (fun _ _ _ h => h) (Or.inl ⟨by rfl, ?hy4⟩) hHeld ?rest4
      case hy4 =>
        intro w_ hSw; have h1 := hSw.1; go_simp
        all_goals (with_reducible rfl)
      try simp only [Act.put, List.getElem_toArray, List.getElem_cons_succ, List.getElem_cons_zero, List.setIfInBounds_toArray, List.set_cons_zero, List.set_cons_succ]
      refine wpAnyH_take (i := 4) (v := ?v5) rfl (by kernel_rfl) (by kernel_rfl) (by kernel_rfl) (fun _ _ _ h => h) (Or.inl ⟨by rfl, ?hy5⟩) hHeld ?rest5
      case hy5 =>
        intro w_ hSw; go_simp
        all_goals (with_reducible rfl)
      try simp only [Act.put, List.getElem_toArray, List.getElem_cons_succ, List.getElem_cons_zero, List.setIfInBounds_toArray, List.set_cons_zero, List.set_cons_succ]
      refine wpAnyH_take (i := 5) (v := ?v6) rfl (by kernel_rfl) (by kernel_rfl) (by kernel_rfl) (fun _ _ _ h => h) (Or.inl ⟨by rfl, ?hy6⟩) hHeld ?rest6
      case hy6 =>
        intro w_ hSw; go_simp
        all_goals (with_reducible rfl)
      try simp only [Act.put, List.getElem_toArray, List.getElem_cons_succ, List.getElem_cons_zero, List.setIfInBounds_toArray, List.set_cons_zero, List.set_cons_succ]
      refine wpAnyH_take (i := 6) (v := ?v7) rfl (by kernel_rfl) (by kernel_rfl) (by kernel_rfl) (fun _ _ _ h => h) (Or.inl ⟨by rfl, ?hy7⟩) hHeld ?rest7
      case hy7 =>
        intro w_ hSw; have h1 := hSw.2; go_simp
        all_goals (with_reducible rfl)
      try simp only [Act.put, List.getElem_toArray, List.getElem_cons_succ, List.getElem_cons_zero, List.setIfInBounds_toArray, List.set_cons_zero, List.set_cons_succ]
      refine wpAnyH_ready (rs := [7]) (by kernel_rfl) (by simp) ?_
      refine AllReadyH.cons rfl (fun K hK => ?_) AllReadyH.nil
      go_simp
      go_at_call 20
      refine (KL.out _).mono ?_
      rintro e_ w_ ⟨rfl, rfl⟩
      refine hK.out _ _ (hHeld) (fun hHeld => ?_)
      clear hK K
      try simp only [Act.put, List.getElem_toArray, List.getElem_cons_succ, List.getElem_cons_zero, List.setIfInBounds_toArray, List.set_cons_zero, List.set_cons_succ]
      refine wpAnyH_take (i := 8) (v := ?v8) rfl (by kernel_rfl) (by kernel_rfl) (by kernel_rfl) (fun _ _ _ h => h) (Or.inl ⟨by rfl, ?hy8⟩) hHeld ?rest8
      case hy8 =>
        intro w_ hSw; go_simp
        all_goals (with_reducible rfl)
      try simp only [Act.put, List.getElem_toArray, List.getElem_cons_succ, List.getElem_cons_zero, List.setIfInBounds_toArray, List.set_cons_zero, List.set_cons_succ]
      refine wpAnyH_ready (rs := [9]) (by kernel_rfl) (by simp) ?_
      refine AllReadyH.cons rfl (fun K hK => ?_) AllReadyH.nil
      go_simp
      refine hK.out _ _ (hS6) (fun hHeld => ?_)
      clear hK K
      try simp only [Act.put, List.getElem_toArray, List.getElem_cons_succ, List.getElem_cons_zero, List.setIfInBounds_toArray, List.set_cons_zero, List.set_cons_succ]
      refine wpAnyH_done (by kernel_rfl) ?_ _
      refine NoPanic.normal ?_
      clear hHeld hS5 hS6 hput hput2
      go_wp2
      go_roundw
      case rel => exact ⟨k + 1, _, by have := HLT.out; omega, by go_num, HK6, HX7, HB7⟩
      case measure => have := HLT.out; simp [intOf]; omega
    · obtain rfl : k = n := by omega
      have hd : rmMay o os = true ∧ Rmo wr b mb L (rmNew o (risen os)) := Mk18.done (k := k) HN.out HK.out H8.out HMM.out
      have HDD := Lib.hid hd
      clear hd
      go_wp2
      go_ret2
      exact .inl ⟨HDD.out.1, b, mb, L, rfl, HDD.out.2, HBB.out.1, HBB.out.2.1, HB.out⟩
end Go.Proofs.Ytkmdgpfaaniibaa
