/- Layer 18, the program: Hear. -/
import Derived.Test.YtkmdgpfaaniibaaZzPt18
import Derived.Test.YtkmdgpfaaniibaaZz
import Derived.StillTailTactics
namespace Go.Proofs.Ytkmdgpfaaniibaa
open Go.RowKit
set_option linter.unusedVariables false
set_option linter.unusedSimpArgs false
set_option maxRecDepth 100000

theorem str_eqB18 (a b : List UInt8) : ((⟨a.toArray⟩ : ByteArray).toList == (⟨b.toArray⟩ : ByteArray).toList) = (a == b) := by
  rw [ByteArray.toList_eq, ByteArray.toList_eq]
theorem lsN_le18 (i : UInt8) : lsN i ≤ 35 := by unfold lsN; split; omega; split <;> omega
theorem any_mem18 (os : List UInt16) (n : UInt16) (q : Bool) : os.any (fun x => x == n && q) = (decide (n ∈ os) && q) := by
  cases q
  · simp
  · simp only [Bool.and_true]
    rw [Bool.eq_iff_iff, List.any_eq_true, decide_eq_true_eq]
    constructor
    · rintro ⟨x, hx, h⟩; exact (eq_of_beq h) ▸ hx
    · intro h; exact ⟨n, h, by simp⟩
section
variable {m : Rm} {c : Ck}
theorem hear_0 (h : ckM c = false ∨ m.o.lv.toNat < c.l.toNat) : rmHear m c = m := by
  have : rmKind m.o m.os c = 0 := by
    unfold rmKind
    rcases h with h | h
    · rw [h]; rfl
    · rw [decide_eq_true h]; simp
  unfold rmHear
  rw [this]
  rfl
theorem hear_3 (h1 : ckM c = true) (h2 : ¬ m.o.lv.toNat < c.l.toNat) (h3 : c.l.toNat < m.o.lv.toNat ∨ (c.a == m.o.ma) = false) : rmHear m c = { m with cr := max m.cr (lsN c.i) } := by
  have : rmKind m.o m.os c = 3 := by
    unfold rmKind
    rw [h1, decide_eq_false h2]
    rcases h3 with h | h
    · rw [decide_eq_true h]; rfl
    · rw [h]; simp
  unfold rmHear
  rw [this]
  rfl
theorem hear_2 (h1 : ckM c = true) (h2 : ¬ m.o.lv.toNat < c.l.toNat) (h3 : ¬ c.l.toNat < m.o.lv.toNat) (h4 : (c.a == m.o.ma) = true) (h5 : c.m ∉ m.os ∨ (c.i == m.o.iv) = false) : rmHear m c = { m with er := max m.er (lsN c.i) } := by
  have : rmKind m.o m.os c = 2 := by
    unfold rmKind
    rw [h1, decide_eq_false h2, decide_eq_false h3, h4, any_mem18]
    rcases h5 with h | h
    · rw [decide_eq_false h]; rfl
    · rw [h]; simp
  unfold rmHear
  rw [this]
  rfl
theorem hear_1 (h1 : ckM c = true) (h2 : ¬ m.o.lv.toNat < c.l.toNat) (h3 : ¬ c.l.toNat < m.o.lv.toNat) (h4 : (c.a == m.o.ma) = true) (h5 : c.m ∈ m.os) (h6 : (c.i == m.o.iv) = true) : rmHear m c = { m with la := fun x => if x = c.m then lsN c.i else m.la x, rd := fun x => if x = c.m then c.r else m.rd x } := by
  have : rmKind m.o m.os c = 1 := by
    unfold rmKind
    rw [h1, decide_eq_false h2, decide_eq_false h3, h4, any_mem18, decide_eq_true h5, h6]
    rfl
  unfold rmHear
  rw [this]
  rfl
theorem Rmo.has {w : World} {b mb : Nat} {L : List Vn} (h : Rmo w b mb L m) (n : UInt16) : vhas L n = true ↔ n ∈ m.os := by rw [vhas_iff, h.keys]
end
theorem Rmo.setCr {w : World} {b mb : Nat} {L : List Vn} {m : Rm} (h : Rmo w b mb L m) (n : Nat) (hn : n ≤ 35) : Rmo (w.setCell ⟨b, 6, none⟩ (.int .i64 (n : Nat))) b mb L { m with cr := n } ∧ Chg (rmS b mb) w (w.setCell ⟨b, 6, none⟩ (.int .i64 (n : Nat))) := by
  have hc : Chg (fun k => k = b) w (w.setCell ⟨b, 6, none⟩ (.int .i64 (n : Nat))) := (Chg.refl (fun k => k = b) w).setCell (p := ⟨b, 6, none⟩) (.inr rfl) _
  exact ⟨⟨h.blk.put 6 _, h.map.chg hc h.ne, h.ris, h.l8, h.keys, h.la, h.rd, h.top, h.er, hn⟩, hc.mono (fun k _ e => .inl e)⟩
theorem Rmo.setEr {w : World} {b mb : Nat} {L : List Vn} {m : Rm} (h : Rmo w b mb L m) (n : Nat) (hn : n ≤ 35) : Rmo (w.setCell ⟨b, 5, none⟩ (.int .i64 (n : Nat))) b mb L { m with er := n } ∧ Chg (rmS b mb) w (w.setCell ⟨b, 5, none⟩ (.int .i64 (n : Nat))) := by
  have hc : Chg (fun k => k = b) w (w.setCell ⟨b, 5, none⟩ (.int .i64 (n : Nat))) := (Chg.refl (fun k => k = b) w).setCell (p := ⟨b, 5, none⟩) (.inr rfl) _
  exact ⟨⟨h.blk.put 5 _, h.map.chg hc h.ne, h.ris, h.l8, h.keys, h.la, h.rd, h.top, hn, h.cr⟩, hc.mono (fun k _ e => .inl e)⟩
/-- one that is there, heard -/
theorem Rmo.put {w : World} {b mb : Nat} {L : List Vn} {m : Rm} (h : Rmo w b mb L m) (n : UInt16) (l : Nat) (r : Bool) (hn : n ∈ m.os) (hl : l ≤ 35) :
    ∃ w', (Instr.mapUpdate 58 (.map (some mb)) (.int .u16 n.toNat) (.agg #[.int .i64 l, .bool r])).run Try.prog w = .ok () w' ∧ (∃ L', Rmo w' b mb L' { m with la := fun x => if x = n then l else m.la x, rd := fun x => if x = n then r else m.rd x }) ∧ Chg (rmS b mb) w w' := by
  obtain ⟨w', hr, hv, ht⟩ := Vmap.put h.map h.l8 ⟨n, l, r⟩
  have hth : vhas L n = true := (h.has n).2 hn
  have hg := ht.grown
  refine ⟨w', hr, ⟨_, ⟨(hg.block b h.blk.lt (fun e => h.ne (by cases e; rfl))).trans h.blk, hv, vput_ris _ h.ris, vput_le (.inl hth) h.l8, ?_, ?_, ?_, ?_, h.er, h.cr⟩⟩, Chg.of_grown hg (fun k e => .inr (.inr (by cases e; rfl)))⟩
  · rw [vput_keys h.ris hth]; exact h.keys
  all_goals
    intro x hx
    rw [vput_there h.ris hth] at hx
    obtain ⟨y, hy, e⟩ := List.mem_map.1 hx
    by_cases hq : y.v = n
    · rw [if_pos hq] at e
      subst e
      simp [hl]
    · rw [if_neg hq] at e
      subst e
      first | exact h.top y hy | (simp only [hq, if_false]; first | exact h.la y hy | exact h.rd y hy)
set_option maxHeartbeats 8000000 in
theorem hear18_any {w : World} {b mb : Nat} {L : List Vn} {m : Rm} (h : Rmo w b mb L m) (c : Ck) (hca : c.a.length ≤ 1000) :
    Calls Try.prog 13 #[.pointer (some ⟨b, 0, none⟩), .agg #[.int .u8 c.l.toNat, .bool c.r, .int .u8 c.i.toNat, .int .u32 c.q.toNat, .int .u16 c.m.toNat, .string ⟨c.a.toArray⟩]] w fun e w' => e = .returned (.tuple #[]) ∧ (∃ L', Rmo w' b mb L' (rmHear m c)) ∧ Chg (rmS b mb) w w' := by
  have HM := Lib.hid h
  have HCA := Lib.hid hca
  obtain ⟨W, hW⟩ : ∃ W, (w.alloc (.cells #[.int .u8 c.l.toNat, .bool c.r, .int .u8 c.i.toNat, .int .u32 c.q.toNat, .int .u16 c.m.toNat, .string ⟨c.a.toArray⟩] 44)) = W := ⟨_, rfl⟩
  obtain ⟨g, hg⟩ : ∃ g, w.heap.size = g := ⟨_, rfl⟩
  have HB0 : Hid (Below w.heap.size w W) := Lib.hid (by rw [← hW]; exact (Below.refl _ _).alloc (Nat.le_refl _) _)
  have HX0 : Hid (Blk W g 44 #[.int .u8 c.l.toNat, .bool c.r, .int .u8 c.i.toNat, .int .u32 c.q.toNat, .int .u16 c.m.toNat, .string ⟨c.a.toArray⟩]) := Lib.hid (by rw [← hW, ← hg]; exact Blk.new _ _ _)
  have KM : Hid (∀ p : BelW W, Calls Try.prog 24 #[.agg #[.int .u8 c.l.toNat, .bool c.r, .int .u8 c.i.toNat, .int .u32 c.q.toNat, .int .u16 c.m.toNat, .string ⟨c.a.toArray⟩]] p.to fun e w' => e = .returned (.bool (ckM c)) ∧ Below p.to.heap.size p.to w') := Lib.hid (fun p => mayBe18_any c p.to hca)
  obtain ⟨M, hM⟩ : ∃ M, ckM c = M := ⟨_, rfl⟩
  rw [hM] at KM
  have HMM := Lib.hid hM
  have b0 := (h.next HB0.out).c0
  have k0 := HX0.out.cell 0
  have k1 := HX0.out.cell 1
  have k2 := HX0.out.cell 2
  have k3 := HX0.out.cell 3
  have k4 := HX0.out.cell 4
  have k5 := HX0.out.cell 5
  simp only [List.getElem?_toArray, List.getElem?_cons_succ, List.getElem?_cons_zero] at k0 k1 k2 k3 k4 k5
  have gb0 := fun p : BelW W => p.cell b0
  have gk0 := fun p : BelW W => p.cell k0
  have gk1 := fun p : BelW W => p.cell k1
  have gk2 := fun p : BelW W => p.cell k2
  have gk3 := fun p : BelW W => p.cell k3
  have gk4 := fun p : BelW W => p.cell k4
  have gk5 := fun p : BelW W => p.cell k5
  clear h hca hM
  go_enter Try.func13, Try.ntmps13
  go_wp2_with fail
  try rw [hW]
  clear hW
  cases M
  · have HD : Hid (rmHear m c = m) := Lib.hid (hear_0 (.inl HMM.out))
    refine wp_region_quiet_below (by kernel_rfl) (by kernel_rfl) ?_
    repeat (first | go_big_quiet_step ((go_at_call 24; exact BelW.calls (KM.out _))) | quiet_step ((go_at_call 24; exact BelW.calls (KM.out _))))
    refine wpQuiet_nil ?_
    intro wq hq
    have hq := belw_out hq
    go_wp2
    refine bodyPost_ret (results_none rfl _ _ _) rfl ?_
    exact ⟨rfl, ⟨L, by rw [HD.out]; exact HM.out.next (HB0.out.trans (hq.mono HB0.out.size))⟩, Chg.of_below (HB0.out.trans (hq.mono HB0.out.size))⟩
  by_cases h1 : m.o.lv.toNat < c.l.toNat
  · have p1 : (m.o.lv.toNat : Int) < (c.l.toNat : Int) := by omega
    have HD : Hid (rmHear m c = m) := Lib.hid (hear_0 (.inr h1))
    clear h1
    refine wp_region_quiet_below (by kernel_rfl) (by kernel_rfl) ?_
    repeat (first | go_big_quiet_step ((go_at_call 24; exact BelW.calls (KM.out _))) | quiet_step ((go_at_call 24; exact BelW.calls (KM.out _))))
    refine wpQuiet_nil ?_
    intro wq hq
    have hq := belw_out hq
    go_wp2
    refine bodyPost_ret (results_none rfl _ _ _) rfl ?_
    exact ⟨rfl, ⟨L, by rw [HD.out]; exact HM.out.next (HB0.out.trans (hq.mono HB0.out.size))⟩, Chg.of_below (HB0.out.trans (hq.mono HB0.out.size))⟩
  have p1 : ¬ (m.o.lv.toNat : Int) < (c.l.toNat : Int) := by omega
  have H1 := Lib.hid h1
  clear h1
  refine wp_region_quiet_below (by kernel_rfl) (by kernel_rfl) ?_
  repeat (first | go_big_quiet_step ((go_at_call 24; exact BelW.calls (KM.out _))) | quiet_step ((go_at_call 24; exact BelW.calls (KM.out _))))
  refine wpQuiet_nil ?_
  intro wq hq
  have hq := belw_out hq
  have HB1 : Hid (Below w.heap.size w wq) := Lib.hid (HB0.out.trans (hq.mono HB0.out.size))
  have HX1 : Hid (Blk wq g 44 #[.int .u8 c.l.toNat, .bool c.r, .int .u8 c.i.toNat, .int .u32 c.q.toNat, .int .u16 c.m.toNat, .string ⟨c.a.toArray⟩]) := Lib.hid (HX0.out.below hq HX0.out.lt)
  clear hq gb0 gk0 gk1 gk2 gk3 gk4 gk5 b0 k0 k1 k2 k3 k4 k5 KM HB0 HX0 p1
  have k2 := HX1.out.cell 2
  simp only [List.getElem?_toArray, List.getElem?_cons_succ, List.getElem?_cons_zero] at k2
  have KL := Lib.hid (lasts18_any c.i wq)
  obtain ⟨LN, hLN⟩ : ∃ n, lsN c.i = n := ⟨_, rfl⟩
  rw [hLN] at KL
  have HLN := Lib.hid hLN
  have h35 : LN ≤ 35 := hLN ▸ lsN_le18 _
  clear hLN
  go_wp2_with fail
  refine KL.out.mono ?_
  rintro e w2 ⟨rfl, hb2⟩
  have HB2 : Hid (Below w.heap.size w w2) := Lib.hid (HB1.out.trans (hb2.mono HB1.out.size))
  have HX2 : Hid (Blk w2 g 44 #[.int .u8 c.l.toNat, .bool c.r, .int .u8 c.i.toNat, .int .u32 c.q.toNat, .int .u16 c.m.toNat, .string ⟨c.a.toArray⟩]) := Lib.hid (HX1.out.below hb2 HX1.out.lt)
  clear hb2 k2 KL HB1 HX1
  have hm2 := HM.out.next HB2.out
  have b0 := hm2.c0
  have b3 := hm2.c3
  have k0 := HX2.out.cell 0
  have k5 := HX2.out.cell 5
  simp only [List.getElem?_toArray, List.getElem?_cons_succ, List.getElem?_cons_zero] at k0 k5
  clear hm2
  by_cases h2 : c.l.toNat < m.o.lv.toNat
  · have p2 : (c.l.toNat : Int) < (m.o.lv.toNat : Int) := by omega
    have d2 : decide ((c.l.toNat : Int) < (m.o.lv.toNat : Int)) = true := decide_eq_true p2
    have HD : Hid (rmHear m c = { m with cr := max m.cr LN }) := Lib.hid (by rw [← HLN.out]; exact hear_3 HMM.out H1.out (.inl h2))
    clear h2
    go_wp2_with fail
    go_quiet (fail)
    have hm3 := HM.out.next (bel18 HB2.out nq)
    have hs := hm3.setCr (max m.cr LN) (by have := hm3.cr; omega)
    have HS := Lib.hid hs
    have c6 := hm3.c6
    have f6 := hm3.fz 6
    have e6 : max (m.cr : Int) (LN : Int) = ((max m.cr LN : Nat) : Int) := by omega
    clear hm3 hs b0 b3 k0 k5
    go_wp2
    go_end0
    exact ⟨rfl, ⟨L, by rw [HD.out]; exact HS.out.1⟩, (Chg.of_below (bel18 HB2.out nq)).trans HS.out.2⟩
  have d2 : decide ((c.l.toNat : Int) < (m.o.lv.toNat : Int)) = false := decide_eq_false (by omega)
  have d2n : decide (c.l.toNat < m.o.lv.toNat) = false := decide_eq_false h2
  have p2 : ¬ (c.l.toNat : Int) < (m.o.lv.toNat : Int) := by omega
  have H2 := Lib.hid h2
  clear h2
  by_cases h3 : (c.a == m.o.ma) = true
  case neg =>
    have h3 : (c.a == m.o.ma) = false := by simpa using h3
    have q3 : ((⟨c.a.toArray⟩ : ByteArray).toList == (⟨m.o.ma.toArray⟩ : ByteArray).toList) = false := by rw [str_eqB18]; exact h3
    have HD : Hid (rmHear m c = { m with cr := max m.cr LN }) := Lib.hid (by rw [← HLN.out]; exact hear_3 HMM.out H1.out (.inr h3))
    clear h3
    go_wp2_with fail
    go_quiet (fail)
    have hm3 := HM.out.next (bel18 HB2.out nq)
    have hs := hm3.setCr (max m.cr LN) (by have := hm3.cr; omega)
    have HS := Lib.hid hs
    have c6 := hm3.c6
    have f6 := hm3.fz 6
    have e6 : max (m.cr : Int) (LN : Int) = ((max m.cr LN : Nat) : Int) := by omega
    clear hm3 hs b0 b3 k0 k5
    go_wp2
    go_end0
    exact ⟨rfl, ⟨L, by rw [HD.out]; exact HS.out.1⟩, (Chg.of_below (bel18 HB2.out nq)).trans HS.out.2⟩
  have q3 : ((⟨c.a.toArray⟩ : ByteArray).toList == (⟨m.o.ma.toArray⟩ : ByteArray).toList) = true := by rw [str_eqB18]; exact h3
  have H3 := Lib.hid h3
  go_wp2_with fail
  go_quiet (fail)
  have HB3 : Hid (Below w.heap.size w (w2.drewN nq)) := Lib.hid (bel18 HB2.out nq)
  have HX3 : Hid (Blk (w2.drewN nq) g 44 #[.int .u8 c.l.toNat, .bool c.r, .int .u8 c.i.toNat, .int .u32 c.q.toNat, .int .u16 c.m.toNat, .string ⟨c.a.toArray⟩]) := Lib.hid (HX2.out.drewN nq)
  obtain ⟨w3, hw3⟩ : ∃ w3, w2.drewN nq = w3 := ⟨_, rfl⟩
  rw [hw3] at HB3 HX3 ⊢
  clear hw3 b0 b3 k0 k5 q3 d2 d2n p2 HB2 HX2 h3
  have hm3 := HM.out.next HB3.out
  have b2 := hm3.c2
  have KH : Hid (∀ p : BelW w3, Calls Try.prog 26 #[.pointer (some ⟨b, 0, none⟩), .int .u16 c.m.toNat] p.to fun e w' => e = .returned (.bool (vhas L c.m)) ∧ Below p.to.heap.size p.to w') := Lib.hid (fun p => has18_any (hm3.next p.h) c.m)
  have k2 := HX3.out.cell 2
  have k4 := HX3.out.cell 4
  simp only [List.getElem?_toArray, List.getElem?_cons_succ, List.getElem?_cons_zero] at k2 k4
  have gb2 := fun p : BelW w3 => p.cell b2
  have gk2 := fun p : BelW w3 => p.cell k2
  have gk4 := fun p : BelW w3 => p.cell k4
  clear hm3
  obtain ⟨hs, hhs⟩ : ∃ h, vhas L c.m = h := ⟨_, rfl⟩
  rw [hhs] at KH
  have HH := Lib.hid hhs
  clear hhs
  have d3 : (c.a == m.o.ma) = true := H3.out
  cases hs
  · have HD : Hid (rmHear m c = { m with er := max m.er LN }) := Lib.hid (by rw [← HLN.out]; exact hear_2 HMM.out H1.out H2.out H3.out (.inl (fun hm => by have := (HM.out.has c.m).2 hm; rw [HH.out] at this; cases this)))
    go_wp2_with fail
    refine wp_region_quiet_below (by kernel_rfl) (by kernel_rfl) ?_
    repeat (first | go_big_quiet_step ((go_at_call 26; exact BelW.calls (KH.out _))) | quiet_step ((go_at_call 26; exact BelW.calls (KH.out _))))
    refine wpQuiet_nil ?_
    intro wq hq
    have hq := belw_out hq
    have HB4 : Hid (Below w.heap.size w wq) := Lib.hid (HB3.out.trans (hq.mono HB3.out.size))
    have hm4 := HM.out.next HB4.out
    have hs := hm4.setEr (max m.er LN) (by have := hm4.er; omega)
    have HS := Lib.hid hs
    have c5 := hm4.c5
    have f5 := hm4.fz 5
    have e5 : max (m.er : Int) (LN : Int) = ((max m.er LN : Nat) : Int) := by omega
    clear hm4 hs hq gb2 gk2 gk4 b2 k2 k4
    go_wp2
    go_end0
    exact ⟨rfl, ⟨L, by rw [HD.out]; exact HS.out.1⟩, (Chg.of_below HB4.out).trans HS.out.2⟩
  by_cases h5 : (c.i == m.o.iv) = true
  case neg =>
    have h5 : (c.i == m.o.iv) = false := by simpa using h5
    have d5 : ((c.i.toNat : Int) != (m.o.iv.toNat : Int)) = true := by
      rw [bne_iff_ne]
      intro e
      have : c.i = m.o.iv := UInt8.toNat_inj.1 (by omega)
      rw [this] at h5
      simp at h5
    have HD : Hid (rmHear m c = { m with er := max m.er LN }) := Lib.hid (by rw [← HLN.out]; exact hear_2 HMM.out H1.out H2.out H3.out (.inr h5))
    clear h5
    go_wp2_with fail
    refine wp_region_quiet_below (by kernel_rfl) (by kernel_rfl) ?_
    repeat (first | go_big_quiet_step ((go_at_call 26; exact BelW.calls (KH.out _))) | quiet_step ((go_at_call 26; exact BelW.calls (KH.out _))))
    refine wpQuiet_nil ?_
    intro wq hq
    have hq := belw_out hq
    have HB4 : Hid (Below w.heap.size w wq) := Lib.hid (HB3.out.trans (hq.mono HB3.out.size))
    have hm4 := HM.out.next HB4.out
    have hs := hm4.setEr (max m.er LN) (by have := hm4.er; omega)
    have HS := Lib.hid hs
    have c5 := hm4.c5
    have f5 := hm4.fz 5
    have e5 : max (m.er : Int) (LN : Int) = ((max m.er LN : Nat) : Int) := by omega
    clear hm4 hs hq gb2 gk2 gk4 b2 k2 k4
    go_wp2
    go_end0
    exact ⟨rfl, ⟨L, by rw [HD.out]; exact HS.out.1⟩, (Chg.of_below HB4.out).trans HS.out.2⟩
  have d5 : ((c.i.toNat : Int) != (m.o.iv.toNat : Int)) = false := by rw [eq_of_beq h5]; simp
  have HD : Hid (rmHear m c = { m with la := fun x => if x = c.m then LN else m.la x, rd := fun x => if x = c.m then c.r else m.rd x }) := Lib.hid (by rw [← HLN.out]; exact hear_1 HMM.out H1.out H2.out H3.out ((HM.out.has c.m).1 HH.out) h5)
  clear h5
  go_wp2_with fail
  refine wp_region_quiet_below (by kernel_rfl) (by kernel_rfl) ?_
  repeat (first | go_big_quiet_step ((go_at_call 26; exact BelW.calls (KH.out _))) | quiet_step ((go_at_call 26; exact BelW.calls (KH.out _))))
  refine wpQuiet_nil ?_
  intro wq hq
  have hq := belw_out hq
  have HB4 : Hid (Below w.heap.size w wq.drew) := Lib.hid ((HB3.out.trans (hq.mono HB3.out.size)).drew)
  have HX4 : Hid (Blk wq.drew g 44 #[.int .u8 c.l.toNat, .bool c.r, .int .u8 c.i.toNat, .int .u32 c.q.toNat, .int .u16 c.m.toNat, .string ⟨c.a.toArray⟩]) := Lib.hid ((HX3.out.below hq HX3.out.lt).drew)
  clear hq gb2 gk2 gk4 b2 k2 k4 d5 KH HB3 HX3
  have hm4 := HM.out.next HB4.out
  have c4 := hm4.c4
  obtain ⟨w6, hput, hL', hc6⟩ := hm4.put c.m LN c.r ((HM.out.has c.m).1 HH.out) h35
  have HR6 := Lib.hid (And.intro hL' hc6)
  have k1 := HX4.out.cell 1
  have k4 := HX4.out.cell 4
  simp only [List.getElem?_toArray, List.getElem?_cons_succ, List.getElem?_cons_zero] at k1 k4
  clear hm4 hL' hc6
  go_wp2_with fail
  go_still_tail 10, (by kernel_rfl)
  change wpList _ _ _ _ _ wq.drew
  go_wp2
  go_end0
  exact ⟨rfl, by rw [HD.out]; exact HR6.out.1, (Chg.of_below HB4.out).trans HR6.out.2⟩
end Go.Proofs.Ytkmdgpfaaniibaa
