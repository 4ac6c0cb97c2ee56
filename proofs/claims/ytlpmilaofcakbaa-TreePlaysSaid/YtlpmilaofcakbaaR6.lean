/- Layer 9: the document's Hear. -/
import Derived.Test.YtlpmilaofcakbaaR4
import Derived.Deep.CutBlock
namespace Go.Proofs.Ytlpmilaofcakbaa
open Go.RowKit Go.Shelf
open Go.Sort (grow)
set_option linter.unusedVariables false
set_option linter.unusedSimpArgs false
set_option maxRecDepth 100000

theorem filter_one (i : Nat) (c : Bool) (g : Nat → Bool) : ∀ n, i < n → ((List.range n).filter fun k => g k && (k == i && c)) = if g i && c then [i] else [] := by
  have h0 : ∀ n, n ≤ i → ((List.range n).filter fun k => g k && (k == i && c)) = [] := by
    intro n hn
    apply List.filter_eq_nil_iff.2
    intro k hk
    have := List.mem_range.1 hk
    have e : (k == i) = false := by simp; omega
    simp [e]
  intro n
  induction n with
  | zero => intro h; omega
  | succ n ih =>
    intro hi
    rw [List.range_succ, List.filter_append]
    by_cases e : n = i
    · subst e
      rw [h0 n (Nat.le_refl _)]
      cases hg : g n <;> cases c <;> simp [hg]
    · rw [ih (by omega)]
      have e2 : (n == i) = false := by simpa using e
      simp [e2]
theorem Mch.send_one (M : Mch) (i : Nat) (hi : i < M.ps.length) (a b : Bool) : M.send (fun k => k == i && a && b) = if (M.port i).live && (a && b) then [(i, M.word i)] else [] := by
  unfold Mch.send
  have e : (fun k => (M.port k).live && (k == i && a && b)) = fun k => (M.port k).live && (k == i && (a && b)) := by funext k; rw [Bool.and_assoc (k == i)]
  rw [e, filter_one i (a && b) (fun k => (M.port k).live) _ hi]
  split <;> rfl
theorem Mch.map_live {M : Mch} (f : Sd → Sd) (hf : ∀ p, (f p).live = p.live) (i : Nat) : ((({ M with ps := M.ps.map f } : Mch).port i).live) = (M.port i).live := by
  simp only [Mch.port, List.getD_eq_getElem?_getD, List.getElem?_map]
  cases h : M.ps[i]? with
  | none => rfl
  | some x => exact hf x
theorem Mch.mapIdx_live {M : Mch} (f : Nat → Sd → Sd) (hf : ∀ k p, (f k p).live = p.live) (i : Nat) : ((({ M with ps := M.ps.mapIdx f } : Mch).port i).live) = (M.port i).live := by
  simp only [Mch.port, List.getD_eq_getElem?_getD, List.getElem?_mapIdx]
  cases h : M.ps[i]? with
  | none => rfl
  | some x => exact hf i x
theorem Mch.choose_live (M : Mch) (i : Nat) : (M.choose.port i).live = (M.port i).live := by
  unfold Mch.choose
  have hs : ∀ N : Mch, (N.settle.port i).live = (N.port i).live := fun N => Mch.mapIdx_live (M := N) (fun i p => { p with ag := p.ag && (N.roleOf i p == 2) }) (fun _ _ => rfl) i
  rw [hs]
  split
  · rfl
  · exact Mch.map_live (M := { M.put with ver := wrap64 (M.put.ver + 1), fl := M.put.fl.map fun _ => true }) Sd.chg (fun p => rfl) i
theorem Mch.spread_live (M : Mch) (i j : Nat) : ((M.spread i).port j).live = (M.port j).live :=
  Mch.mapIdx_live (M := { M with fl := M.fl.mapIdx fun k x => if k = i then x else true }) (fun k p => if k = i then p else p.spr) (fun k p => by
    show (if k = i then p else p.spr).live = p.live
    split
    · rfl
    · unfold Sd.spr; split <;> rfl) j
theorem Mch.hear_live {M : Mch} {i : Nat} {b : Bp} (hi : i < M.ps.length) (hl : (M.port i).live = true) : ((M.hear i b).port i).live = true := by
  have h1 : ((M.hear1 i b).port i).live = true := by
    unfold Mch.hear1
    rw [Mch.choose_live, Mch.setP_port _ hi]
    exact hl
  have h2 : (((M.hear1 i b).hear2 i b).port i).live = true := by
    unfold Mch.hear2
    split
    · rw [Mch.setP_port _ (by rw [Mch.hear1_len]; exact hi)]
      exact h1
    · exact h1
  unfold Mch.hear
  rw [if_pos ⟨hi, hl⟩]
  unfold Mch.hear3
  split
  · rw [Mch.spread_live]; exact h2
  · exact h2
theorem Mch.spread_len (M : Mch) (i : Nat) : (M.spread i).ps.length = M.ps.length := by simp [Mch.spread]
theorem Mch.hear_len (M : Mch) (i : Nat) (b : Bp) : (M.hear i b).ps.length = M.ps.length := by
  unfold Mch.hear
  split
  · unfold Mch.hear3
    split
    · rw [Mch.spread_len, Mch.hear2_len, Mch.hear1_len]
    · rw [Mch.hear2_len, Mch.hear1_len]
  · rfl
/-- what is sent behind a word -/
theorem Mch.hearS_eq {M : Mch} {i : Nat} {b : Bp} (hi : i < M.ps.length) (hl : (M.port i).live = true) : M.hearS i b = if (b.pr && ((M.hear1 i b).role i == 1)) = true then [(i, (M.hear i b).word i)] else [] := by
  unfold Mch.hearS
  rw [if_pos ⟨hi, hl⟩, Mch.send_one _ _ (by rw [Mch.hear_len]; exact hi), Mch.hear_live hi hl, Bool.true_and, Bool.and_comm]
/-- the word of a port of the document's machine stored -/
theorem wpl_rheard {ops : Array Oper} {rest : List Oper} {o : Oper} {a : Act} {Q : Exit → Act → World → Prop} {w : World} {m pb fb c cf i : Nat} {M : Mch} {b : Bp} (hgd : o.guard = none) (x y : Nat) (ho : o.op = .store 37 (.tmp x) (.tmp y)) (hD : DmP w m pb fb c cf M) (hi : i < M.ps.length)
    (hx : a.eval (.tmp x) = .pointer (some ⟨pb, i * 16 + 2, none⟩)) (hy : a.eval (.tmp y) = BV b)
    (hK : ∀ w', DmP w' m pb fb c cf (M.setP i { M.port i with b := b }) → Chg (XD m pb fb) w w' → wpList Try.prog ops Q rest (a.put o.dst (.tuple #[])) w') : wpList Try.prog ops Q (o :: rest) a w := by
  have hlen : ∀ l : List Sd, (l.flatMap sdV).length = 16 * l.length := by
    intro l
    induction l with
    | nil => rfl
    | cons x l ih => simp only [List.flatMap_cons, List.length_append, ih, sdV_len, List.length_cons]; omega
  obtain ⟨cs, h2, h3⟩ := hD.pr
  have hsp : M.ps = M.ps.take i ++ [M.port i] ++ M.ps.drop (i + 1) := by
    rw [List.append_assoc, List.singleton_append, ← Mch.port_at hi, List.getElem_cons_drop, List.take_append_drop]
  obtain ⟨A, hA⟩ : ∃ A : List Value, A = (M.ps.take i).flatMap sdV ++ [.int .u32 (M.port i).cost, .bool (M.port i).up] := ⟨_, rfl⟩
  obtain ⟨B, hB⟩ : ∃ B : List Value, B = [.int .i64 (M.port i).la, .bool (M.port i).ag, .int .i64 (M.port i).sp] ++ ((M.ps.drop (i + 1)).flatMap sdV ++ cs.toList.drop (M.ps.length * 16)) := ⟨_, rfl⟩
  have hcs : cs = (A ++ encBp (M.port i).b ++ B).toArray := by
    apply Array.ext'
    have e4 : M.ps.flatMap sdV = (M.ps.take i).flatMap sdV ++ sdV (M.port i) ++ (M.ps.drop (i + 1)).flatMap sdV := (congrArg (List.flatMap sdV) hsp).trans (by simp only [List.flatMap_append, List.flatMap_cons, List.flatMap_nil, List.append_nil])
    have e5 : cs.toList = M.ps.flatMap sdV ++ cs.toList.drop (M.ps.length * 16) := by rw [← h3, List.take_append_drop]
    show cs.toList = A ++ encBp (M.port i).b ++ B
    rw [hA, hB]
    have e6 : ∀ (X Y Z W : List Value), X ++ ([.int .u32 (M.port i).cost, .bool (M.port i).up] : List Value) ++ encBp (M.port i).b ++ (([.int .i64 (M.port i).la, .bool (M.port i).ag, .int .i64 (M.port i).sp] : List Value) ++ (Y ++ Z)) = (X ++ sdV (M.port i) ++ Y) ++ Z := by intro X Y Z W; simp [sdV, List.append_assoc]
    rw [e6 _ _ _ [], ← e4]
    exact e5
  have hpl : A.length = i * 16 + 2 := by rw [hA, List.length_append, hlen, List.length_take]; simp only [List.length_cons, List.length_nil]; omega
  rw [hcs] at h2
  have h5 := blk_setCellsT (encBp b) _ _ _ w h2 rfl
  have hc := chg_setCellsT (S := (· = pb)) (w0 := w) (encBp b) (i * 16 + 2) w (Chg.refl _ _) (.inr rfl)
  rw [hpl] at h5
  refine wpList_store_atT hgd 37 (.tmp x) (.tmp y) ho _ _ _ (encBp b) (by rw [hpl]; exact hx) hy h2 rfl (by intro u hu; simp only [encBp, List.mem_cons, List.mem_nil_iff, or_false] at hu; rcases hu with rfl | rfl | rfl | rfl | rfl | rfl | rfl | rfl | rfl | rfl | rfl <;> rfl) (fun w => by have := Try.sizeOf37; exact this w) ?_
  rw [hpl]
  refine hK _ ⟨?_, ⟨_, h5, ?_⟩, ?_, hD.ne, by rw [Mch.setP_len]; exact hD.nf⟩ (hc.mono fun k _ hk => by rw [hk]; exact XD.p)
  · rw [Mch.setP_len]
    exact hD.hd.chg hc hD.ne.1
  · rw [Mch.setP_len]
    have e : (M.setP i { M.port i with b := b }).ps = M.ps.take i ++ [{ M.port i with b := b }] ++ M.ps.drop (i + 1) := by
      unfold Mch.setP
      rw [List.set_eq_take_append_cons_drop, if_pos hi]
      simp
    have e2 : A ++ encBp b ++ B = (M.setP i { M.port i with b := b }).ps.flatMap sdV ++ cs.toList.drop (M.ps.length * 16) := by
      rw [e, hA, hB]; simp [sdV, List.append_assoc]
    rw [e2]
    exact List.take_left' (by rw [hlen, Mch.setP_len]; omega)
  · obtain ⟨ds, h6, h7⟩ := hD.fl
    exact ⟨ds, h6.chg hc (Ne.symm hD.ne.2.2), by rw [Mch.setP_len]; exact h7⟩
/-- what the document's Hear keeps -/
structure HrR (w0 : World) (m pb fb c cf : Nat) (b : Bp) (M : Mch) (w : World) : Prop where
  dm : DmP w m pb fb c cf M
  bp : BpA 37 w w0.heap.size b
  chg : Chg (XD m pb fb) w0 w
theorem XD.lt {w : World} {m pb fb c cf k : Nat} {M : Mch} (h : DmP w m pb fb c cf M) (hk : XD m pb fb k) : k < w.heap.size := by
  have := h.lt
  rcases hk with rfl | rfl | rfl <;> omega
section
variable {w0 w w' : World} {m pb fb c cf : Nat} {b : Bp} {M M' : Mch}
theorem HrR.next (h : HrR w0 m pb fb c cf b M w) (hb : Below w.heap.size w w') : HrR w0 m pb fb c cf b M w' := ⟨h.dm.next hb, h.bp.next hb, h.chg.trans (Chg.of_below hb)⟩
theorem HrR.drewN (h : HrR w0 m pb fb c cf b M w) (n : Nat) : HrR w0 m pb fb c cf b M (w.drewN n) := h.next (Below.drewN' (Below.refl _ w) n)
theorem HrR.to (h : HrR w0 m pb fb c cf b M w) (hl : m < w0.heap.size ∧ pb < w0.heap.size ∧ fb < w0.heap.size) (hM : DmP w' m pb fb c cf M') (hc : Chg (XD m pb fb) w w') : HrR w0 m pb fb c cf b M' w' :=
  ⟨hM, Blk.chg h.bp hc (by rintro (e | e | e) <;> omega), h.chg.trans hc⟩
end
set_option maxHeartbeats 2000000 in
theorem rhear_none {w : World} {m pb fb c cf i : Nat} {M : Mch} (hD : DmP w m pb fb c cf M) {b : Bp} (hi : ¬ i < M.ps.length) : Calls Try.prog 20 #[.pointer (some ⟨m, 0, none⟩), .int .i64 (i : Nat), BV b] w fun e w' => e = .returned (.slice none 0 0) ∧ DmP w' m pb fb c cf M ∧ Chg (XD m pb fb) w w' := by
  obtain ⟨n, hn⟩ : ∃ n, M.ps.length = n := ⟨_, rfl⟩
  have hb := (Below.refl w.heap.size w).alloc (Nat.le_refl _) (.cells #[.int .u64 b.v.r, .int .u32 b.v.c, .int .u64 b.v.b, .int .u8 b.v.p, .int .u8 b.h, .int .u64 b.ver, .int .u8 b.role, .bool b.pr, .bool b.ag, .bool b.tp, .int .u64 b.ec] 37)
  obtain ⟨w1, hw1⟩ : ∃ w1, w.alloc (.cells #[.int .u64 b.v.r, .int .u32 b.v.c, .int .u64 b.v.b, .int .u8 b.v.p, .int .u8 b.h, .int .u64 b.ver, .int .u8 b.role, .bool b.pr, .bool b.ag, .bool b.tp, .int .u64 b.ec] 37) = w1 := ⟨_, rfl⟩
  rw [hw1] at hb
  have HD := Lib.hid (hD.next hb)
  have HC := Lib.hid (show Chg (XD m pb fb) w w1 from Chg.of_below hb)
  have HW := Lib.hid hw1
  have c1 := HD.out.hd.cell 1
  rw [hn] at c1
  have dn : decide (n ≤ i) = true := by simp; omega
  clear hi hD hn hb hw1
  go_enter Try.func20, Try.ntmps20
  go_upto_region 1 with fail
  rw [HW.out]
  clear HW
  go_wp2
  go_ret
  exact ⟨rfl, HD.out, HC.out⟩
set_option maxHeartbeats 2000000 in
theorem rhear_off {w : World} {m pb fb c cf i : Nat} {M : Mch} (hD : DmP w m pb fb c cf M) {b : Bp} (h8 : M.ps.length ≤ 8) (hi : i < M.ps.length) (hl : (M.port i).live = false) : Calls Try.prog 20 #[.pointer (some ⟨m, 0, none⟩), .int .i64 (i : Nat), BV b] w fun e w' => e = .returned (.slice none 0 0) ∧ DmP w' m pb fb c cf M ∧ Chg (XD m pb fb) w w' := by
  obtain ⟨n, hn⟩ : ∃ n, M.ps.length = n := ⟨_, rfl⟩
  have hb := (Below.refl w.heap.size w).alloc (Nat.le_refl _) (.cells #[.int .u64 b.v.r, .int .u32 b.v.c, .int .u64 b.v.b, .int .u8 b.v.p, .int .u8 b.h, .int .u64 b.ver, .int .u8 b.role, .bool b.pr, .bool b.ag, .bool b.tp, .int .u64 b.ec] 37)
  obtain ⟨w1, hw1⟩ : ∃ w1, w.alloc (.cells #[.int .u64 b.v.r, .int .u32 b.v.c, .int .u64 b.v.b, .int .u8 b.v.p, .int .u8 b.h, .int .u64 b.ver, .int .u8 b.role, .bool b.pr, .bool b.ag, .bool b.tp, .int .u64 b.ec] 37) = w1 := ⟨_, rfl⟩
  rw [hw1] at hb
  have HD := Lib.hid (hD.next hb)
  have HC := Lib.hid (show Chg (XD m pb fb) w w1 from Chg.of_below hb)
  have HW := Lib.hid hw1
  have kL := link_ref (i := i) HD.out hi h8
  rw [hl] at kL
  have c1 := HD.out.hd.cell 1
  rw [hn] at c1
  have dn : decide (n ≤ i) = false := by simp; omega
  have hi' : i < n := by omega
  clear hi hD hn hb hw1 hl h8
  go_enter Try.func20, Try.ntmps20
  go_upto_region 1 with fail
  rw [HW.out]
  clear HW
  go_wp2_with fail
  refine kL.mono ?_
  rintro e w' ⟨rfl, rfl⟩
  clear kL
  go_wp2
  go_ret
  exact ⟨rfl, HD.out, HC.out⟩
set_option maxRecDepth 100000 in
set_option maxHeartbeats 4000000 in
theorem rhear_go {w : World} {m pb fb c cf i : Nat} {M : Mch} (hD : DmP w m pb fb c cf M) {b : Bp} (hS : M.sane) (hbf : b.fit) (hi : i < M.ps.length) (hl : (M.port i).live = true) :
    Calls Try.prog 20 #[.pointer (some ⟨m, 0, none⟩), .int .i64 (i : Nat), BV b] w fun e w' => ∃ A c', e = .returned (.slice A (M.hearS i b).length c') ∧ Els 12 encS w' A (M.hearS i b) ∧ DmP w' m pb fb c cf (M.hear i b) ∧ Chg (XD m pb fb) w w' := by
  obtain ⟨n, hn⟩ : ∃ n, M.ps.length = n := ⟨_, rfl⟩
  have HL := Lib.hid hD.lt
  have hb := (Below.refl w.heap.size w).alloc (Nat.le_refl _) (.cells #[.int .u64 b.v.r, .int .u32 b.v.c, .int .u64 b.v.b, .int .u8 b.v.p, .int .u8 b.h, .int .u64 b.ver, .int .u8 b.role, .bool b.pr, .bool b.ag, .bool b.tp, .int .u64 b.ec] 37)
  have hbp := BpA.new 37 w b
  obtain ⟨w1, hw1⟩ : ∃ w1, w.alloc (.cells #[.int .u64 b.v.r, .int .u32 b.v.c, .int .u64 b.v.b, .int .u8 b.v.p, .int .u8 b.h, .int .u64 b.ver, .int .u8 b.role, .bool b.pr, .bool b.ag, .bool b.tp, .int .u64 b.ec] 37) = w1 := ⟨_, rfl⟩
  rw [hw1] at hb hbp
  have HS1 : Hid (HrR w m pb fb c cf b M w1) := Lib.hid ⟨hD.next hb, hbp, Chg.of_below hb⟩
  have HW := Lib.hid hw1
  have kL := link_ref (i := i) HS1.out.dm hi hS.fits.n8
  rw [hl] at kL
  have c1 : w1.cell? ⟨m, 1, none⟩ = some (.slice (some ⟨pb, 0, none⟩) n c) := by have := HS1.out.dm.hd.cell 1; rw [hn] at this; exact this
  have dn : decide (n ≤ i) = false := by simp; omega
  have hi' : i < n := by omega
  have hi8 : (i : Int) < 8 := by have := hS.fits.n8; omega
  have h8 : n ≤ 8 := by rw [← hn]; exact hS.fits.n8
  have HSM := Lib.hid (And.intro hS (And.intro hi (And.intro hn (And.intro hl hbf))))
  clear hi hD hn hb hbp hw1 hl hS hbf
  go_enter Try.func20, Try.ntmps20
  go_upto_region 1 with fail
  rw [HW.out]
  clear HW
  go_wp2_with fail
  refine kL.mono ?_
  rintro e w' ⟨rfl, rfl⟩
  clear kL
  obtain ⟨b5, hb5⟩ : ∃ b, w.heap.size = b := ⟨_, rfl⟩
  have HB5 : Hid (BpA 37 w' b5 b) := Lib.hid (by rw [← hb5]; exact HS1.out.bp)
  obtain ⟨d0, d1, d2, d3, d4, d5, d6, d7, d8, d9, d10⟩ := HB5.out.cells
  have HBB := Lib.hid hb5
  rw [hb5]
  clear hb5
  go_wp2_with fail
  go_still_tail 8, (by kernel_rfl)
  change wpList _ _ _ _ _ w'.drew
  clear d0 d1 d2 d3 d4 d5 d6 d7 d8 d9 d10 c1
  have HS2 : Hid (HrR w m pb fb c cf b M w'.drew) := Lib.hid (HS1.out.drewN 1)
  clear HS1 HB5
  generalize w'.drew = wd at *
  go_upto_region 4 with (refine wpl_rheard rfl 29 27 rfl HS2.out.dm HSM.out.2.1 rfl rfl ?_; intro w2 hD2 hC2; have HS3 : Hid (HrR w m pb fb c cf b (M.setP i { M.port i with b := b }) w2) := Lib.hid (HS2.out.to HL.out hD2 hC2); clear hD2 hC2)
  have hl3 : (M.setP i { M.port i with b := b }).ps.length = n := by rw [Mch.setP_len]; exact HSM.out.2.2.1
  have c1 : w2.cell? ⟨m, 1, none⟩ = some (.slice (some ⟨pb, 0, none⟩) n c) := by have := HS3.out.dm.hd.cell 1; rw [hl3] at this; exact this
  have s13 := (HS3.out.dm.sd (i := i) (by rw [hl3]; exact hi')).c13
  have f13 := HS3.out.dm.fzP (i * 16 + 13)
  have HS4 : Hid (HrR w m pb fb c cf b (M.setP i { M.port i with b := b, la := 3 }) (w2.setCell ⟨pb, i * 16 + 13, none⟩ (.int .i64 3))) := Lib.hid (by
    have h := HS3.out.dm.put (i := i) (by rw [hl3]; exact hi') 13 (by omega) (.int .i64 3) { M.port i with b := b, la := 3 } (by rw [Mch.setP_port _ HSM.out.2.1]; rfl)
    rw [Mch.setP_setP] at h
    exact HS3.out.to HL.out h ((Chg.refl (XD m pb fb) w2).setCell (p := ⟨pb, i * 16 + 13, none⟩) (.inr XD.p) _))
  have HN4 : Hid ((M.setP i { M.port i with b := b, la := 3 }).sane) := Lib.hid (by
    have hp := HSM.out.1.fits.port _ (Mch.port_mem HSM.out.2.1)
    exact ⟨Mch.setP_fits HSM.out.1.fits ⟨HSM.out.2.2.2.2, hp.cost, (show (0 : Int) ≤ 3 ∧ (3 : Int) ≤ 3 by decide), hp.sp⟩, HSM.out.1.inn, Mch.setP_lv HSM.out.1.lv (fun _ => HSM.out.2.2.2.1)⟩)
  clear hl3
  go_upto_region 5 with fail
  obtain ⟨w4, hw4⟩ : ∃ w4, w2.setCell ⟨pb, i * 16 + 13, none⟩ (.int .i64 3) = w4 := ⟨_, rfl⟩
  rw [hw4] at HS4
  rw [hw4]
  clear hw4 c1 s13 f13 HS3 HS2
  go_wp2_with fail
  refine (choose_ref HS4.out.dm HN4.out).mono ?_
  rintro e w5 ⟨rfl, hD5, hC5⟩
  obtain ⟨M1, hM1⟩ : ∃ M1, M.hear1 i b = M1 := ⟨_, rfl⟩
  have HM1 := Lib.hid hM1
  have hD5' : DmP w5 m pb fb c cf M1 := by rw [← hM1]; exact hD5
  have HS5 : Hid (HrR w m pb fb c cf b M1 w5) := Lib.hid (HS4.out.to HL.out hD5' hC5)
  have HN5 : Hid M1.sane := Lib.hid (by rw [← hM1]; exact Mch.hear1_sane HSM.out.1 HSM.out.2.1 HSM.out.2.2.2.1 HSM.out.2.2.2.2)
  have HL5 : Hid (M1.ps.length = n) := Lib.hid (by rw [← hM1, Mch.hear1_len]; exact HSM.out.2.2.1)
  clear hD5 hC5 hD5' hM1 HS4 HN4
  obtain ⟨r, hr⟩ : ∃ r, M1.role i = r := ⟨_, rfl⟩
  have HR := Lib.hid hr
  have kR := role_ref (i := i) HS5.out.dm HN5.out.good.cost HN5.out.good.inn HN5.out.good.n8
  rw [hr] at kR
  clear hr
  go_wp2_with fail
  refine kR.mono ?_
  rintro e w6 ⟨rfl, hg⟩
  have HS6 := Lib.hid (HS5.out.next hg.below)
  clear hg HS5 kR
  obtain ⟨v, hv⟩ : ∃ v, M1.ver = v := ⟨_, rfl⟩
  have HVV := Lib.hid hv
  clear hv
  obtain ⟨q, hq⟩ : ∃ q, (r == 2 && b.ag && (b.ec == v)) = q := ⟨_, rfl⟩
  have HQ := Lib.hid hq
  clear hq
  have HB6 : Hid (BpA 37 w6 b5 b) := Lib.hid (by rw [← HBB.out]; exact HS6.out.bp)
  go_upto_region 7 with fail
  go_cut [56] from 42 to 56 (fun s wx => s = .bool q ∧ ∃ n, wx = w6.drewN n)
  case first =>
    have C := HB6.out.cells
    have d8 := C.c8
    have d10 := C.c10
    have c6 : w6.cell? ⟨m, 6, none⟩ = some (.int .u64 v) := by have := HS6.out.dm.hd.cell 6; rw [← HVV.out]; exact this
    clear C
    by_cases h2 : r = 2
    · subst h2
      obtain ⟨x, ha⟩ : ∃ x, b.ag = x := ⟨_, rfl⟩
      rw [ha] at d8
      have HA := Lib.hid ha
      clear ha
      cases x with
      | false =>
        go_wp2_with fail
        go_quiet (fail)
        go_wp2_with fail
        go_meet
        exact ⟨congrArg Value.bool (by rw [← HQ.out, HA.out]; simp), _, rfl⟩
      | true =>
        obtain ⟨y, he⟩ : ∃ y, (b.ec == v) = y := ⟨_, rfl⟩
        have HEE := Lib.hid he
        cases y with
        | false =>
          go_wp2_with fail
          go_quiet (fail)
          go_wp2_with fail
          go_meet
          exact ⟨congrArg Value.bool (by rw [← HQ.out, HA.out, HEE.out]; simp), _, rfl⟩
        | true =>
          go_wp2_with fail
          go_quiet (fail)
          go_wp2_with fail
          go_meet
          exact ⟨congrArg Value.bool (by rw [← HQ.out, HA.out, HEE.out]; simp), _, rfl⟩
    · have e2 : ((r : Int) == 2) = false := by simp; omega
      have e2' : (r == 2) = false := by simpa using h2
      have E2 := Lib.hid e2'
      clear h2 e2'
      go_wp2_with fail
      go_quiet (fail)
      go_wp2_with fail
      go_meet
      exact ⟨congrArg Value.bool (by rw [← HQ.out, E2.out]; simp), _, rfl⟩
  obtain ⟨rfl, nd, rfl⟩ := hcut
  have HS7 : Hid (HrR w m pb fb c cf b M1 (w6.drewN nd)) := Lib.hid (HS6.out.drewN nd)
  clear HS6 HB6
  generalize w6.drewN nd = w7 at *
  obtain ⟨M2, hM2⟩ : ∃ M2, M1.hear2 i b = M2 := ⟨_, rfl⟩
  have HM2 := Lib.hid hM2
  have HN2 : Hid M2.sane := Lib.hid (by rw [← hM2]; exact Mch.hear2_sane HN5.out b (by rw [HL5.out]; exact hi'))
  have HL2 : Hid (M2.ps.length = n) := Lib.hid (by rw [← hM2, Mch.hear2_len]; exact HL5.out)
  clear hM2
  go_upto_if 56 with fail
  go_cut [56] from 57 to 63 (fun s wx => s = .bool q ∧ Hid (HrR w m pb fb c cf b M2 wx))
  case first =>
    cases q with
    | false =>
      have HS8 : Hid (HrR w m pb fb c cf b M2 w7) := Lib.hid (by
        have e : M2 = M1 := by
          rw [← HM2.out]
          unfold Mch.hear2
          rw [HR.out, HVV.out, if_neg]
          rintro ⟨h1, h2, h3⟩
          have := HQ.out
          rw [h1, h2, h3] at this
          simp at this
        rw [e]
        exact HS7.out)
      go_wp2_with fail
      go_meet
      exact ⟨rfl, HS8⟩
    | true =>
      have hs : r = 2 ∧ b.ag = true ∧ b.ec = v := by have := HQ.out; simpa [and_assoc] using this
      have he : M2 = M1.setP i { M1.port i with ag := true } := by rw [← HM2.out]; unfold Mch.hear2; rw [HR.out, HVV.out, if_pos hs]
      have c1 : w7.cell? ⟨m, 1, none⟩ = some (.slice (some ⟨pb, 0, none⟩) n c) := by have := HS7.out.dm.hd.cell 1; rw [HL5.out] at this; exact this
      have s14 := (HS7.out.dm.sd (i := i) (by rw [HL5.out]; exact hi')).c14
      have f14 := HS7.out.dm.fzP (i * 16 + 14)
      have HS8 : Hid (HrR w m pb fb c cf b M2 (w7.setCell ⟨pb, i * 16 + 14, none⟩ (.bool true))) := Lib.hid (by
        rw [he]
        exact HS7.out.to HL.out (HS7.out.dm.put (by rw [HL5.out]; exact hi') 14 (by omega) (.bool true) { M1.port i with ag := true } rfl) ((Chg.refl (XD m pb fb) w7).setCell (p := ⟨pb, i * 16 + 14, none⟩) (.inr XD.p) _))
      clear hs he
      go_wp2_with fail
      go_meet
      exact ⟨rfl, HS8⟩
  obtain ⟨rfl, HS8⟩ := hcut
  clear HS7
  obtain ⟨z, hz⟩ : ∃ z, (b.tp && along (r : Int) b.role) = z := ⟨_, rfl⟩
  have HZ := Lib.hid hz
  clear hz
  have HB8 : Hid (BpA 37 wc b5 b) := Lib.hid (by rw [← HBB.out]; exact HS8.out.bp)
  go_upto_region 9 with fail
  go_cut [83] from 64 to 83 (fun s wx => s = .bool z ∧ wx = wc)
  case first =>
    have C := HB8.out.cells
    have d9 := C.c9
    have d6 := C.c6
    clear C
    obtain ⟨x1, h1⟩ : ∃ x, ((r : Int) == 1) = x := ⟨_, rfl⟩
    obtain ⟨x2, h2⟩ : ∃ x, (b.role == 2) = x := ⟨_, rfl⟩
    obtain ⟨x3, h3⟩ : ∃ x, ((r : Int) == 2) = x := ⟨_, rfl⟩
    obtain ⟨x4, h4⟩ : ∃ x, (b.role == 1) = x := ⟨_, rfl⟩
    obtain ⟨x5, h5⟩ : ∃ x, b.tp = x := ⟨_, rfl⟩
    rw [h5] at d9
    have HE : Hid ((x5 && ((x1 && x2) || (x3 && x4))) = z) := Lib.hid (by rw [← HZ.out, ← h1, ← h2, ← h3, ← h4, ← h5]; rfl)
    clear h5
    cases x5 <;> cases x1 <;> cases x2 <;> cases x3 <;> cases x4 <;> (
      go_wp2_with fail
      go_meet
      exact ⟨congrArg Value.bool HE.out, rfl⟩)
  obtain ⟨rfl, rfl⟩ := hcut
  clear HB8
  obtain ⟨M3, hM3⟩ : ∃ M3, M.hear i b = M3 := ⟨_, rfl⟩
  have HM3 := Lib.hid hM3
  have hM3' : M2.hear3 i b r = M3 := by
    rw [← hM3]
    unfold Mch.hear
    rw [if_pos ⟨HSM.out.2.1, HSM.out.2.2.2.1⟩, HM1.out, HR.out, HM2.out]
  have HMM3 := Lib.hid hM3'
  clear hM3 hM3'
  go_upto_if 83 with fail
  go_cut [8] from 84 to 122 (fun s wx => Hid (HrR w m pb fb c cf b M3 wx))
  case first =>
    cases z with
    | false =>
      have HS9 : Hid (HrR w m pb fb c cf b M3 wc) := Lib.hid (by
        have e : M3 = M2 := by
          rw [← HMM3.out]
          unfold Mch.hear3
          rw [if_neg]
          rintro ⟨h1, h2⟩
          have := HZ.out
          rw [h1, h2] at this
          cases this
        rw [e]
        exact HS8.out)
      go_wp2_with fail
      go_meet
      exact HS9
    | true =>
      have HE3 : Hid (M3 = M2.spread i) := Lib.hid (by
        have h := HZ.out
        have h1 : b.tp = true := by cases h5 : b.tp with
          | true => rfl
          | false => (rw [h5] at h; cases h)
        rw [h1, Bool.true_and] at h
        rw [← HMM3.out]
        unfold Mch.hear3
        rw [if_pos ⟨h1, h⟩])
      have HNF : Hid (M2.fl.length = M2.ps.length) := Lib.hid HN2.out.fits.fl
      go_wp2_with fail
      go_loopw [8] (fun i_ wr => ∃ k : Nat, k ≤ n ∧ i_ = .int .i64 k ∧ Hid (HrR w m pb fb c cf b (M2.spreadTo i k) wr)) (fun i_ _ => n - (intOf i_).toNat)
      case atStart => exact ⟨0, Nat.zero_le _, rfl, Lib.hid (by rw [Mch.spreadTo_zero]; exact HS8.out)⟩
      case round =>
        obtain ⟨k, hk, rfl, hS⟩ := hrel
        have hkl : (M2.spreadTo i k).ps.length = n := by rw [Mch.spreadTo_len, HL2.out]
        have c1 : wr.cell? ⟨m, 1, none⟩ = some (.slice (some ⟨pb, 0, none⟩) n c) := by have := hS.out.dm.hd.cell 1; rw [hkl] at this; exact this
        by_cases hlt : k < n
        · have hlt' : k < M2.ps.length := by rw [HL2.out]; exact hlt
          have hltc : k < (M2.spreadTo i k).ps.length := by rw [hkl]; exact hlt
          have hk8 : k < 8 := by omega
          have hk8' : (k : Int) < 8 := by omega
          by_cases hki : k = i
          · subst hki
            have HS3 : Hid (HrR w m pb fb c cf b (M2.spreadTo k (k + 1)) wr) := Lib.hid (by rw [Mch.spreadTo_self M2 k hlt' HNF.out]; exact hS.out)
            clear hS hkl hltc hlt'
            go_wp2_with fail
            go_roundw
            case rel => exact ⟨k + 1, by omega, by go_num, HS3⟩
            case measure => simp [intOf]; omega
          · have dki : ((k : Int) == (i : Int)) = false := by simp; omega
            have dki' : (k == i) = false := by simpa using hki
            obtain ⟨p, hp⟩ : ∃ p, M2.port k = p := ⟨_, rfl⟩
            have hpk : (M2.spreadTo i k).port k = p := by rw [Mch.spreadTo_port _ _ _ hlt', hp]
            have c7 : wr.cell? ⟨m, 7, none⟩ = some (.slice (some ⟨fb, 0, none⟩) n cf) := by have := hS.out.dm.hd.cell 7; rw [hkl] at this; exact this
            have sF := hS.out.dm.fc (i := k) hltc
            have fF := hS.out.dm.fzF k
            have HS9 : Hid (HrR w m pb fb c cf b { M2.spreadTo i k with fl := (M2.spreadTo i k).fl.set k true } (wr.setCell ⟨fb, k, none⟩ (.bool true))) := Lib.hid (hS.out.to HL.out (hS.out.dm.putF k true) ((Chg.refl (XD m pb fb) wr).setCell (p := ⟨fb, k, none⟩) (.inr XD.f) _))
            obtain ⟨w9, hw9⟩ : ∃ w9, wr.setCell ⟨fb, k, none⟩ (.bool true) = w9 := ⟨_, rfl⟩
            have HW9 := Lib.hid hw9
            rw [hw9] at HS9
            have hport : ({ M2.spreadTo i k with fl := (M2.spreadTo i k).fl.set k true } : Mch).port k = p := hpk
            have kL := link_ref (i := k) HS9.out.dm hltc (by show (M2.spreadTo i k).ps.length ≤ 8; rw [hkl]; exact h8)
            rw [hport] at kL
            have s15 := (HS9.out.dm.sd (i := k) hltc).c15
            rw [hport] at s15
            have f15 := HS9.out.dm.fzP (k * 16 + 15)
            have c1' : w9.cell? ⟨m, 1, none⟩ = some (.slice (some ⟨pb, 0, none⟩) n c) := by
              have h := HS9.out.dm.hd.cell 1
              have e : ({ M2.spreadTo i k with fl := (M2.spreadTo i k).fl.set k true } : Mch).ps.length = n := hkl
              rw [e] at h
              exact h
            have HSU := Lib.hid (M2.spreadTo_succ i k hlt' HNF.out hki)
            have HPP := Lib.hid (And.intro hp (And.intro hport hltc))
            clear hw9 hp hpk hport hkl hlt' hki hltc
            go_upto_region 15 with fail
            rw [HW9.out]
            clear HW9 c7 sF fF hS c1
            cases hl : p.live with
            | false =>
              rw [hl] at kL
              have HS3 : Hid (HrR w m pb fb c cf b (M2.spreadTo i (k + 1)) w9) := Lib.hid (by
                have e : p.spr = p := by unfold Sd.spr; rw [hl]; simp
                rw [HSU.out, HPP.out.1, e]
                have := Mch.setP_self ({ M2.spreadTo i k with fl := (M2.spreadTo i k).fl.set k true } : Mch) (i := k) HPP.out.2.2
                rw [HPP.out.2.1] at this
                rw [this]
                exact HS9.out)
              clear hl
              go_wp2_with fail
              refine kL.mono ?_
              rintro e w' ⟨rfl, rfl⟩
              clear kL
              go_wp2_with fail
              go_roundw
              case rel => exact ⟨k + 1, by omega, by go_num, HS3⟩
              case measure => simp [intOf]; omega
            | true =>
              rw [hl] at kL
              by_cases h0 : p.sp = 0
              · have d0 : (p.sp == 0) = true := by simpa using h0
                have HS3 : Hid (HrR w m pb fb c cf b (M2.spreadTo i (k + 1)) (w9.setCell ⟨pb, k * 16 + 15, none⟩ (.int .i64 4))) := Lib.hid (by
                  have e : p.spr = { p with sp := 4 } := by unfold Sd.spr; rw [hl, if_pos ⟨rfl, h0⟩]
                  rw [HSU.out, HPP.out.1, e]
                  exact HS9.out.to HL.out (HS9.out.dm.put HPP.out.2.2 15 (by omega) _ _ (by rw [HPP.out.2.1]; rfl)) ((Chg.refl (XD m pb fb) w9).setCell (p := ⟨pb, k * 16 + 15, none⟩) (.inr XD.p) _))
                clear hl h0
                go_wp2_with fail
                refine kL.mono ?_
                rintro e w' ⟨rfl, rfl⟩
                clear kL
                go_wp2_with fail
                go_roundw
                case rel => exact ⟨k + 1, by omega, by go_num, HS3⟩
                case measure => simp [intOf]; omega
              · have d0 : (p.sp == 0) = false := by simpa using h0
                have HS3 : Hid (HrR w m pb fb c cf b (M2.spreadTo i (k + 1)) w9) := Lib.hid (by
                  have e : p.spr = p := by unfold Sd.spr; rw [if_neg (by rintro ⟨_, h⟩; exact h0 h)]
                  rw [HSU.out, HPP.out.1, e]
                  have := Mch.setP_self ({ M2.spreadTo i k with fl := (M2.spreadTo i k).fl.set k true } : Mch) (i := k) HPP.out.2.2
                  rw [HPP.out.2.1] at this
                  rw [this]
                  exact HS9.out)
                clear hl h0
                go_wp2_with fail
                refine kL.mono ?_
                rintro e w' ⟨rfl, rfl⟩
                clear kL
                go_wp2_with fail
                go_roundw
                case rel => exact ⟨k + 1, by omega, by go_num, HS3⟩
                case measure => simp [intOf]; omega
        · obtain rfl : k = n := by omega
          have HE : Hid (HrR w m pb fb c cf b M3 wr) := Lib.hid (by
            have := hS.out
            rw [← HL2.out, Mch.spreadTo_all M2 i HNF.out] at this
            rw [HE3.out]
            exact this)
          clear hS hlt hkl
          go_wp2_with fail
          go_meet
          exact HE
  have HS9 := hcut
  clear HS8 hcut
  have HB9 : Hid (BpA 37 wc b5 b) := Lib.hid (by rw [← HBB.out]; exact HS9.out.bp)
  have d7 := HB9.out.cells.c7
  obtain ⟨x, hx⟩ : ∃ x, b.pr = x := ⟨_, rfl⟩
  rw [hx] at d7
  obtain ⟨y, hy⟩ : ∃ y, ((r : Int) == 1) = y := ⟨_, rfl⟩
  have HNAT : Hid ((r == 1) = y) := Lib.hid (by rw [← hy, Bool.eq_iff_iff]; simp; omega)
  have HSE : Hid (M.hearS i b = if (x && y) = true then [(i, M3.word i)] else []) := Lib.hid (by
    rw [Mch.hearS_eq HSM.out.2.1 HSM.out.2.2.2.1, HM1.out, HR.out, HNAT.out, hx, HM3.out])
  have HNG : Hid (M3.good ∧ i < M3.ps.length) := Lib.hid (by
    rw [← HM3.out]
    exact ⟨(Mch.hear_sane HSM.out.1 i HSM.out.2.2.2.2).good, by rw [Mch.hear_len]; exact HSM.out.2.1⟩)
  clear hx HB9
  cases x with
  | false =>
    have HE : Hid (M.hearS i b = []) := Lib.hid (by rw [HSE.out]; rfl)
    go_wp2_with fail
    go_ret
    refine ⟨none, 0, by rw [HE.out]; rfl, by rw [HE.out]; exact fun h => absurd h (by simp), by rw [HM3.out]; exact HS9.out.dm, HS9.out.chg⟩
  | true =>
    cases y with
    | false =>
      have HE : Hid (M.hearS i b = []) := Lib.hid (by rw [HSE.out]; rfl)
      go_wp2_with fail
      go_ret
      refine ⟨none, 0, by rw [HE.out]; rfl, by rw [HE.out]; exact fun h => absurd h (by simp), by rw [HM3.out]; exact HS9.out.dm, HS9.out.chg⟩
    | true =>
      have HE : Hid (M.hearS i b = [(i, M3.word i)]) := Lib.hid (by rw [HSE.out]; rfl)
      have hu8 : IntKind.u8.wrap (i : Int) = (i : Int) := by
        have : i = 0 ∨ i = 1 ∨ i = 2 ∨ i = 3 ∨ i = 4 ∨ i = 5 ∨ i = 6 ∨ i = 7 := by omega
        rcases this with h | h | h | h | h | h | h | h <;> subst h <;> rfl
      go_wp2_with fail
      refine (word_ref HS9.out.dm HNG.out.1 HNG.out.2).mono ?_
      rintro e w12 ⟨rfl, hb⟩
      have HSx := Lib.hid (HS9.out.next hb)
      clear hb HS9 d7
      obtain ⟨z9, hz9⟩ : ∃ z, M3.word i = z := ⟨_, rfl⟩
      have HZ9 := Lib.hid hz9
      rw [hz9]
      clear hz9
      have HCN := Lib.hid (newcells w12 (encS (i, z9)) 101)
      have hba := (Below.refl w12.heap.size w12).alloc (Nat.le_refl _) (.cells (encS (i, z9)).toArray 101)
      have HFN := Lib.hid (HSx.out.next hba)
      clear hba hu8
      go_wp2_with fail
      go_ret
      refine ⟨some ⟨w12.heap.size, 0, none⟩, 1, by rw [HE.out]; rfl, ?_, by rw [HM3.out]; exact HFN.out.dm, HFN.out.chg⟩
      rw [HE.out, HZ9.out]
      intro _
      refine ⟨_, 0, rfl, by simp, fun j hj k u hu => ?_⟩
      have hj0 : j = 0 := by simpa using hj
      subst hj0
      have h := HCN.out k u hu
      have hadd : (⟨w12.heap.size, 0, none⟩ : Addr).add k = ⟨w12.heap.size, 0 + 0 * 12 + k, none⟩ := by unfold Addr.add; split <;> simp_all
      rw [hadd] at h
      exact h
/-- Hear -/
theorem hear_ref {w : World} {m pb fb c cf i : Nat} {M : Mch} (hD : DmP w m pb fb c cf M) {b : Bp} (hS : M.sane) (hbf : b.fit) :
    Calls Try.prog 20 #[.pointer (some ⟨m, 0, none⟩), .int .i64 (i : Nat), BV b] w fun e w' => ∃ A c', e = .returned (.slice A (M.hearS i b).length c') ∧ Els 12 encS w' A (M.hearS i b) ∧ DmP w' m pb fb c cf (M.hear i b) ∧ Chg (XD m pb fb) w w' := by
  by_cases hi : i < M.ps.length
  · cases hl : (M.port i).live with
    | true => exact rhear_go hD hS hbf hi hl
    | false =>
      have e1 : M.hear i b = M := by unfold Mch.hear; rw [if_neg (by rw [hl]; simp)]
      have e2 : M.hearS i b = [] := by unfold Mch.hearS; rw [if_neg (by rw [hl]; simp)]
      rw [e1, e2]
      exact (rhear_off hD hS.fits.n8 hi hl).mono fun e w' ⟨he, hM', hc⟩ => ⟨none, 0, he, fun h => absurd h (by simp), hM', hc⟩
  · have e1 : M.hear i b = M := by unfold Mch.hear; rw [if_neg (fun h => hi h.1)]
    have e2 : M.hearS i b = [] := by unfold Mch.hearS; rw [if_neg (fun h => hi h.1)]
    rw [e1, e2]
    exact (rhear_none hD hi).mono fun e w' ⟨he, hM', hc⟩ => ⟨none, 0, he, fun h => absurd h (by simp), hM', hc⟩
end Go.Proofs.Ytlpmilaofcakbaa
