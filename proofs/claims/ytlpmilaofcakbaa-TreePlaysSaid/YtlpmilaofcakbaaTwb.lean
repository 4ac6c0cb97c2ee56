/- Layer 9: Hear. -/
import Derived.Test.YtlpmilaofcakbaaTwa
import Derived.Test.YtlpmilaofcakbaaRunT
namespace Go.Proofs.Ytlpmilaofcakbaa
open Go.RowKit Go.Shelf
open Go.Sort (grow)
set_option linter.unusedVariables false
set_option linter.unusedSimpArgs false
set_option maxRecDepth 100000

theorem hear_nil {w : World} {i : Nat} {b : Bp} : Calls Try.prog 18 #[.pointer none, .int .u8 (i : Nat), BV b] w fun e w' => e = .returned (.slice none 0 0) ∧ Gro w w' := by
  have hb := ((Gro.refl w).alloc (.cells #[.int .u8 (i : Nat)] 5)).alloc (.cells #[.int .u64 b.v.r, .int .u32 b.v.c, .int .u64 b.v.b, .int .u8 b.v.p, .int .u8 b.h, .int .u64 b.ver, .int .u8 b.role, .bool b.pr, .bool b.ag, .bool b.tp, .int .u64 b.ec] 54)
  have hp := Blk.alloc (Blk.new w 5 #[.int .u8 (i : Nat)]) (.cells #[.int .u64 b.v.r, .int .u32 b.v.c, .int .u64 b.v.b, .int .u8 b.v.p, .int .u8 b.h, .int .u64 b.ver, .int .u8 b.role, .bool b.pr, .bool b.ag, .bool b.tp, .int .u64 b.ec] 54)
  obtain ⟨w1, hw1⟩ : ∃ w1, (w.alloc (.cells #[.int .u8 (i : Nat)] 5)).alloc (.cells #[.int .u64 b.v.r, .int .u32 b.v.c, .int .u64 b.v.b, .int .u8 b.v.p, .int .u8 b.h, .int .u64 b.ver, .int .u8 b.role, .bool b.pr, .bool b.ag, .bool b.tp, .int .u64 b.ec] 54) = w1 := ⟨_, rfl⟩
  have HW := Lib.hid hw1
  rw [hw1] at hb hp
  have HB := Lib.hid hb
  have b4 := hp.cell 0
  have kH : ∀ n, Calls Try.prog 34 #[.pointer none, .int .u8 (i : Nat)] (w1.drewN n) fun e w' => e = .returned (.bool false) ∧ w' = w1.drewN n := fun n => (has_nil (w := w1.drewN n) (i := i)).mono fun _ _ h => h
  clear hw1 hb hp
  go_enter Try.func18, Try.ntmps18
  go_upto_region 1 with fail
  rw [HW.out]
  clear HW
  go_wp2_with fail
  go_quiet ((go_at_call 34; exact Calls.quiet_of_same (kH _)))
  clear b4
  go_wp2
  go_ret
  exact ⟨rfl, HB.out.drewN _⟩
theorem Mch.pad_split (M : Mch) {i : Nat} (hi : i < M.ps.length) : M.pad = M.pad.take i ++ [M.port i] ++ M.pad.drop (i + 1) := by
  have hl : i < M.pad.length := by simp [Mch.pad]; omega
  rw [List.append_assoc, List.singleton_append, ← M.pad_at hi, List.getElem_cons_drop, List.take_append_drop]
theorem Mch.pad_set (M : Mch) {i : Nat} (hi : i < M.ps.length) (p : Sd) : (M.setP i p).pad = M.pad.take i ++ [p] ++ M.pad.drop (i + 1) := by
  have hl : i < M.pad.length := by simp [Mch.pad]; omega
  have e2 : (M.setP i p).pad = M.pad.set i p := by
    unfold Mch.pad Mch.setP
    rw [List.set_append_left _ _ hi]
    simp
  rw [e2, List.set_eq_take_append_cons_drop, if_pos hl]
  simp
/-- the word of a port stored -/
theorem wpl_heard {ops : Array Oper} {rest : List Oper} {o : Oper} {a : Act} {Q : Exit → Act → World → Prop} {w : World} {g i : Nat} {M : Mch} {b : Bp} (hgd : o.guard = none) (x y : Nat) (ho : o.op = .store 54 (.tmp x) (.tmp y)) (hM : MaP w g M) (h8 : M.ps.length ≤ 8) (hi : i < M.ps.length)
    (hx : a.eval (.tmp x) = .pointer (some ⟨g, 2 + i * 16 + 2, none⟩)) (hy : a.eval (.tmp y) = BV b)
    (hK : ∀ w', MaP w' g (M.setP i { M.port i with b := b }) → Chg (· = g) w w' → wpList Try.prog ops Q rest (a.put o.dst (.tuple #[])) w') : wpList Try.prog ops Q (o :: rest) a w := by
  obtain ⟨T, hT⟩ : ∃ T : List Value, T = [.int .u64 M.root, .int .u32 M.cost, .int .u8 M.inn, .int .u8 M.hops, .int .u64 M.ver, .int .u8 (flN M.fl : Nat)] := ⟨_, rfl⟩
  obtain ⟨H, hH⟩ : ∃ H : List Value, H = [.int .u64 M.id, .int .u8 (M.ps.length : Nat)] := ⟨_, rfl⟩
  have hHl : H.length = 2 := by rw [hH]; rfl
  have hlen : ∀ l : List Sd, (l.flatMap sdV).length = 16 * l.length := by
    intro l
    induction l with
    | nil => rfl
    | cons x l ih => simp only [List.flatMap_cons, List.length_append, ih, sdV_len, List.length_cons]; omega
  have hpl : (H ++ (M.pad.take i).flatMap sdV ++ ([.int .u32 (M.port i).cost, .bool (M.port i).up] : List Value)).length = 2 + i * 16 + 2 := by
    simp only [List.length_append, hHl, hlen, List.length_take, M.pad_len h8, List.length_cons, List.length_nil]
    have : min i 8 = i := by omega
    rw [this]; omega
  have e0 : mchV M = (H ++ (M.pad.take i).flatMap sdV ++ ([.int .u32 (M.port i).cost, .bool (M.port i).up] : List Value)) ++ encBp (M.port i).b ++ (([.int .i64 (M.port i).la, .bool (M.port i).ag, .int .i64 (M.port i).sp] : List Value) ++ (M.pad.drop (i + 1)).flatMap sdV ++ T) := by
    unfold mchV
    rw [← hT, ← hH]
    conv => lhs; rw [M.pad_split hi]
    simp [sdV, List.append_assoc]
  have e1 : mchV (M.setP i { M.port i with b := b }) = (H ++ (M.pad.take i).flatMap sdV ++ ([.int .u32 (M.port i).cost, .bool (M.port i).up] : List Value)) ++ encBp b ++ (([.int .i64 (M.port i).la, .bool (M.port i).ag, .int .i64 (M.port i).sp] : List Value) ++ (M.pad.drop (i + 1)).flatMap sdV ++ T) := by
    unfold mchV
    rw [M.pad_set hi]
    have h1 : (M.setP i { M.port i with b := b }).ps.length = M.ps.length := M.setP_len i _
    rw [h1]
    have h2 : ([.int .u64 (M.setP i { M.port i with b := b }).root, .int .u32 (M.setP i { M.port i with b := b }).cost, .int .u8 (M.setP i { M.port i with b := b }).inn, .int .u8 (M.setP i { M.port i with b := b }).hops, .int .u64 (M.setP i { M.port i with b := b }).ver, .int .u8 (flN (M.setP i { M.port i with b := b }).fl : Nat)] : List Value) = T := by rw [hT]; rfl
    have h3 : ([.int .u64 (M.setP i { M.port i with b := b }).id, .int .u8 (M.ps.length : Nat)] : List Value) = H := by rw [hH]; rfl
    rw [h2, h3]
    simp [sdV, List.append_assoc]
  have hB : Blk w g 90 ((H ++ (M.pad.take i).flatMap sdV ++ ([.int .u32 (M.port i).cost, .bool (M.port i).up] : List Value)) ++ encBp (M.port i).b ++ (([.int .i64 (M.port i).la, .bool (M.port i).ag, .int .i64 (M.port i).sp] : List Value) ++ (M.pad.drop (i + 1)).flatMap sdV ++ T)).toArray := by rw [← e0]; exact hM
  have h2 := blk_setCellsT (encBp b) _ _ _ w hB rfl
  have hc := chg_setCellsT (S := (· = g)) (w0 := w) (encBp b) (2 + i * 16 + 2) w (Chg.refl _ _) (.inr rfl)
  rw [hpl] at h2
  refine wpList_store_atT hgd 54 (.tmp x) (.tmp y) ho _ _ _ (encBp b) (by rw [hpl]; exact hx) hy hB rfl (by intro u hu; simp only [encBp, List.mem_cons, List.mem_nil_iff, or_false] at hu; rcases hu with rfl | rfl | rfl | rfl | rfl | rfl | rfl | rfl | rfl | rfl | rfl <;> rfl) (fun w => by have := Try.sizeOf54; exact this w) ?_
  rw [hpl]
  refine hK _ ?_ hc
  unfold MaP
  rw [e1]
  exact h2
/-- what Hear keeps of memory -/
structure HvS (w0 : World) (g i : Nat) (b : Bp) (M : Mch) (w : World) : Prop where
  mac : MaP w g M
  prt : Blk w w0.heap.size 5 #[.int .u8 (i : Nat)]
  bp : BpA 54 w (w0.heap.size + 1) b
  chg : Chg (· = g) w0 w
section
variable {w0 w w' : World} {g i : Nat} {b : Bp} {M M' : Mch}
theorem HvS.next (h : HvS w0 g i b M w) (hb : Below w.heap.size w w') : HvS w0 g i b M w' := ⟨h.mac.next hb, h.prt.below hb h.prt.lt, h.bp.next hb, h.chg.trans (Chg.of_below hb)⟩
theorem HvS.drewN (h : HvS w0 g i b M w) (n : Nat) : HvS w0 g i b M (w.drewN n) := h.next (Below.drewN' (Below.refl _ w) n)
theorem HvS.to (h : HvS w0 g i b M w) (hg : g < w0.heap.size) (hM : MaP w' g M') (hc : Chg (· = g) w w') : HvS w0 g i b M' w' := ⟨hM, h.prt.chg hc (by intro e; have e' : w0.heap.size = g := e; omega), Blk.chg h.bp hc (by intro e; have e' : w0.heap.size + 1 = g := e; omega), h.chg.trans hc⟩
theorem HvS.make (h : MaP w0 g M) : HvS w0 g i b M ((w0.alloc (.cells #[.int .u8 (i : Nat)] 5)).alloc (.cells #[.int .u64 b.v.r, .int .u32 b.v.c, .int .u64 b.v.b, .int .u8 b.v.p, .int .u8 b.h, .int .u64 b.ver, .int .u8 b.role, .bool b.pr, .bool b.ag, .bool b.tp, .int .u64 b.ec] 54)) := by
  have h1 := (Below.refl w0.heap.size w0).alloc (Nat.le_refl _) (.cells #[.int .u8 (i : Nat)] 5)
  have h2 := h1.alloc (by simp) (.cells #[.int .u64 b.v.r, .int .u32 b.v.c, .int .u64 b.v.b, .int .u8 b.v.p, .int .u8 b.h, .int .u64 b.ver, .int .u8 b.role, .bool b.pr, .bool b.ag, .bool b.tp, .int .u64 b.ec] 54)
  refine ⟨h.next h2, Blk.alloc (Blk.new _ _ _) _, ?_, Chg.of_below h2⟩
  have := BpA.new 54 (w0.alloc (.cells #[.int .u8 (i : Nat)] 5)) b
  simpa using this
end
set_option maxHeartbeats 2000000 in
theorem hear_none {w : World} {g i : Nat} {M : Mch} {b : Bp} (hM : MaP w g M) (hF : M.fits) (hi : ¬ i < M.ps.length) :
    Calls Try.prog 18 #[.pointer (some ⟨g, 0, none⟩), .int .u8 (i : Nat), BV b] w fun e w' => e = .returned (.slice none 0 0) ∧ MaP w' g M ∧ Chg (· = g) w w' := by
  have HS := Lib.hid (HvS.make (i := i) (b := b) hM)
  obtain ⟨w1, hw1⟩ : ∃ w1, (w.alloc (.cells #[.int .u8 (i : Nat)] 5)).alloc (.cells #[.int .u64 b.v.r, .int .u32 b.v.c, .int .u64 b.v.b, .int .u8 b.v.p, .int .u8 b.h, .int .u64 b.ver, .int .u8 b.role, .bool b.pr, .bool b.ag, .bool b.tp, .int .u64 b.ec] 54) = w1 := ⟨_, rfl⟩
  have HW := Lib.hid hw1
  rw [hw1] at HS
  have kH := fun n => has_any (i := i) ((HS.out.drewN n).mac.hd hF.n8).c1
  rw [decide_eq_false hi] at kH
  have b4 := HS.out.prt.cell 0
  clear hM hF hi hw1
  go_enter Try.func18, Try.ntmps18
  go_upto_region 1 with fail
  rw [HW.out]
  clear HW
  go_wp2_with fail
  go_quiet ((go_at_call 34; exact Calls.quiet_of_same (kH _)))
  clear b4
  go_wp2
  go_ret
  exact ⟨rfl, HS.out.mac, (HS.out.drewN _).chg⟩
set_option maxHeartbeats 2000000 in
theorem hear_off {w : World} {g i : Nat} {M : Mch} {b : Bp} (hM : MaP w g M) (hF : M.fits) (hi : i < M.ps.length) (hl : (M.port i).live = false) :
    Calls Try.prog 18 #[.pointer (some ⟨g, 0, none⟩), .int .u8 (i : Nat), BV b] w fun e w' => e = .returned (.slice none 0 0) ∧ MaP w' g M ∧ Chg (· = g) w w' := by
  have HS := Lib.hid (HvS.make (i := i) (b := b) hM)
  obtain ⟨w1, hw1⟩ : ∃ w1, (w.alloc (.cells #[.int .u8 (i : Nat)] 5)).alloc (.cells #[.int .u64 b.v.r, .int .u32 b.v.c, .int .u64 b.v.b, .int .u8 b.v.p, .int .u8 b.h, .int .u64 b.ver, .int .u8 b.role, .bool b.pr, .bool b.ag, .bool b.tp, .int .u64 b.ec] 54) = w1 := ⟨_, rfl⟩
  have HW := Lib.hid hw1
  rw [hw1] at HS
  have kH := fun n => has_any (i := i) ((HS.out.drewN n).mac.hd hF.n8).c1
  rw [decide_eq_true hi] at kH
  have kL := fun n => isLink_any ((HS.out.drewN n).mac.sd hF.n8 hi)
  rw [hl] at kL
  have hi8 : i < 8 := by have := hF.n8; omega
  have hi8' : (i : Int) < 8 := by omega
  have b4 := HS.out.prt.cell 0
  clear hM hF hi hw1 hl
  go_enter Try.func18, Try.ntmps18
  go_upto_region 1 with fail
  rw [HW.out]
  clear HW
  go_wp2_with fail
  go_quiet (first | (go_at_call 34; exact Calls.quiet_of_same (kH _)) | (go_at_call 43; exact Calls.quiet_of_same (kL _)))
  clear b4
  go_wp2
  go_ret
  exact ⟨rfl, HS.out.mac, (HS.out.drewN _).chg⟩
theorem along_any {w : World} (r x : Int) : Calls Try.prog 44 #[.int .u8 r, .int .u8 x] w fun e w' => e = .returned (.bool (along r x)) ∧ w = w' := by
  obtain ⟨a, ha⟩ : ∃ a, (r == 1) = a := ⟨_, rfl⟩
  obtain ⟨b, hb⟩ : ∃ a, (x == 2) = a := ⟨_, rfl⟩
  obtain ⟨c, hc⟩ : ∃ a, (r == 2) = a := ⟨_, rfl⟩
  obtain ⟨d, hd⟩ : ∃ a, (x == 1) = a := ⟨_, rfl⟩
  have E : Hid (along r x = ((a && b) || (c && d))) := Lib.hid (by unfold along; rw [ha, hb, hc, hd])
  rw [E.out]
  cases a <;> cases b <;> cases c <;> cases d <;> (
    go_enter Try.func44, Try.ntmps44
    go_wp2
    go_ret
    exact ⟨rfl, rfl⟩)
set_option maxHeartbeats 2000000 in
theorem hear1_any {w : World} {k i r g4 g8 g5 : Nat} {b : Bp} {t8 t4 : TypeId} (h8 : Blk w g8 t8 #[.int .u8 (r : Nat)]) (h4 : Blk w g4 t4 #[.int .u8 (i : Nat)]) (h5 : BpA 54 w g5 b) :
    Calls Try.prog 46 #[.int .u8 (k : Nat), .pointer (some ⟨g4, 0, none⟩), .pointer (some ⟨g8, 0, none⟩), .pointer (some ⟨g5, 0, none⟩)] w fun e w' => e = .returned (.bool (k == i && (r == 1) && b.pr)) ∧ w = w' := by
  have c4 := h4.cell 0
  have c8 := h8.cell 0
  have c7 := h5.cells.c7
  clear h4 h8 h5
  by_cases hk : k = i
  · subst hk
    by_cases h1 : r = 1
    · subst h1
      cases hp : b.pr with
      | false =>
        rw [hp] at c7
        clear hp
        go_enter Try.func46, Try.ntmps46
        go_wp2
        go_ret
        exact ⟨by simp, rfl⟩
      | true =>
        rw [hp] at c7
        clear hp
        go_enter Try.func46, Try.ntmps46
        go_wp2
        go_ret
        exact ⟨by simp, rfl⟩
    · have e1 : ((r : Int) == 1) = false := by simp; omega
      have e1' : (r == 1) = false := by simpa using h1
      rw [e1']
      clear h1 e1'
      go_enter Try.func46, Try.ntmps46
      go_wp2
      go_ret
      exact ⟨by simp, rfl⟩
  · have e1 : ((k : Int) == (i : Int)) = false := by simp; omega
    have e1' : (k == i) = false := by simpa using hk
    rw [e1']
    clear hk e1'
    go_enter Try.func46, Try.ntmps46
    go_wp2
    go_ret
    exact ⟨by simp, rfl⟩
set_option maxRecDepth 100000 in
set_option maxHeartbeats 4000000 in
theorem hear_go {w : World} {g i : Nat} {M : Mch} {b : Bp} (hM : MaP w g M) (hF : M.fits) (hb : b.fit) (hi : i < M.ps.length) (hl : (M.port i).live = true) :
    Calls Try.prog 18 #[.pointer (some ⟨g, 0, none⟩), .int .u8 (i : Nat), BV b] w fun e w' => ∃ A c, e = .returned (.slice A (M.hearS i b).length c) ∧ Els 12 encS w' A (M.hearS i b) ∧ MaP w' g (M.hear i b) ∧ Chg (· = g) w w' ∧ ∀ b off, A = some ⟨b, off, none⟩ → w.heap.size ≤ b := by
  have HS := Lib.hid (HvS.make (i := i) (b := b) hM)
  have HG : Hid (g < w.heap.size) := Lib.hid hM.lt
  obtain ⟨w1, hw1⟩ : ∃ w1, (w.alloc (.cells #[.int .u8 (i : Nat)] 5)).alloc (.cells #[.int .u64 b.v.r, .int .u32 b.v.c, .int .u64 b.v.b, .int .u8 b.v.p, .int .u8 b.h, .int .u64 b.ver, .int .u8 b.role, .bool b.pr, .bool b.ag, .bool b.tp, .int .u64 b.ec] 54) = w1 := ⟨_, rfl⟩
  have HW := Lib.hid hw1
  rw [hw1] at HS
  have kH := fun n => has_any (i := i) ((HS.out.drewN n).mac.hd hF.n8).c1
  rw [decide_eq_true hi] at kH
  have kL := fun n => isLink_any ((HS.out.drewN n).mac.sd hF.n8 hi)
  have HLV := Lib.hid hl
  rw [hl] at kL
  have hi8 : i < 8 := by have := hF.n8; omega
  have hi8' : (i : Int) < 8 := by omega
  have b4 := HS.out.prt.cell 0
  have HF := Lib.hid hF
  have HI := Lib.hid hi
  have HBF := Lib.hid hb
  clear hM hF hi hw1 hl hb
  go_enter Try.func18, Try.ntmps18
  go_upto_region 1 with fail
  rw [HW.out]
  clear HW
  go_wp2_with fail
  go_quiet (first | (go_at_call 34; exact Calls.quiet_of_same (kH _)) | (go_at_call 43; exact Calls.quiet_of_same (kL _)))
  have HS2 := Lib.hid (HS.out.drewN nq)
  have b4 : (w1.drewN nq).cell? ⟨w.heap.size, 0, none⟩ = some (.int .u8 (i : Nat)) := b4
  clear kH kL HS
  generalize w1.drewN nq = w2 at *
  go_wp2_with fail
  go_quiet (fail)
  have HS3 := Lib.hid (HS2.out.drewN nq)
  clear b4 HS2
  generalize w2.drewN nq = w3 at *
  go_upto_region 5 with (first | (refine load_bp 5 rfl (by kernel_rfl) (w.heap.size + 1) b rfl HS3.out.bp ?_) | (refine wpl_heard rfl 31 29 rfl HS3.out.mac HF.out.n8 HI.out rfl rfl ?_; intro w4 hM4 hc4; have HS4 := Lib.hid (HS3.out.to HG.out hM4 hc4); clear hM4 hc4; have s13 := (HS4.out.mac.sd (i := i) (by rw [Mch.setP_len]; exact HF.out.n8) (by rw [Mch.setP_len]; exact HI.out)).c13; have f13 := HS4.out.mac.fz (2 + i * 16 + 13)))
  have HS5 : Hid (HvS w g i b (M.setP i { M.port i with b := b, la := 3 }) (w4.setCell ⟨g, 2 + i * 16 + 13, none⟩ (.int .i64 3))) := Lib.hid (by
    have h := HS4.out.mac.put (i := i) (by rw [Mch.setP_len]; exact HF.out.n8) (by rw [Mch.setP_len]; exact HI.out) 13 (by omega) (.int .i64 3) { M.port i with b := b, la := 3 } (by rw [Mch.setP_port _ HI.out]; rfl)
    rw [Mch.setP_setP] at h
    exact HS4.out.to HG.out h ((Chg.refl (· = g) w4).setCell (p := ⟨g, 2 + i * 16 + 13, none⟩) (.inr rfl) _))
  have HF5 : Hid ((M.setP i { M.port i with b := b, la := 3 }).fits) := Lib.hid (Mch.setP_fits HF.out ⟨HBF.out, (HF.out.port _ (Mch.port_mem HI.out)).cost, (show (0 : Int) ≤ 3 ∧ (3 : Int) ≤ 3 by decide), (HF.out.port _ (Mch.port_mem HI.out)).sp⟩)
  clear b4 HS3 HS4 s13 f13
  generalize w4.setCell ⟨g, 2 + i * 16 + 13, none⟩ (.int .i64 3) = w5 at *
  go_wp2_with fail
  refine (choose_any HS5.out.mac HF5.out).mono ?_
  rintro e w6 ⟨rfl, hM6, hc6⟩
  obtain ⟨M1, hM1⟩ : ∃ M1, M.hear1 i b = M1 := ⟨_, rfl⟩
  have HM1 := Lib.hid hM1
  have hM6' : MaP w6 g M1 := by rw [← hM1]; exact hM6
  have HS6 : Hid (HvS w g i b M1 w6) := Lib.hid (HS5.out.to HG.out hM6' hc6)
  have HF6 : Hid M1.fits := Lib.hid (by rw [← hM1]; exact Mch.hear1_fits HF.out HI.out HBF.out)
  have HI6 : Hid (i < M1.ps.length) := Lib.hid (by rw [← hM1, Mch.hear1_len]; exact HI.out)
  have b4 := HS6.out.prt.cell 0
  clear hM6 hc6 hM1 hM6' HS5 HF5
  obtain ⟨r, hr⟩ : ∃ r, M1.role i = r := ⟨_, rfl⟩
  have kR := fun n => role_any (i := i) (HS6.out.drewN n).mac HF6.out.n8
  rw [hr] at kR
  have kR0 := role_any (i := i) HS6.out.mac HF6.out.n8
  rw [hr] at kR0
  have HR := Lib.hid hr
  clear hr
  go_wp2_with fail
  refine kR0.mono ?_
  rintro e w7 ⟨rfl, hg⟩
  have HS7 := Lib.hid (HS6.out.next hg.below)
  clear hg b4 kR kR0 HS6
  go_upto_region 7 with fail
  obtain ⟨b8, hb8⟩ : ∃ b, w7.heap.size = b := ⟨_, rfl⟩
  obtain ⟨w8, hw8⟩ : ∃ w8, w7.alloc (.cells #[.int .u8 (r : Nat)] 5) = w8 := ⟨_, rfl⟩
  have HS8 : Hid (HvS w g i b M1 w8) := Lib.hid (by rw [← hw8]; exact HS7.out.next ((Below.refl _ w7).alloc (Nat.le_refl _) _))
  have HP8 : Hid (Blk w8 b8 5 #[.int .u8 (r : Nat)]) := Lib.hid (by rw [← hw8, ← hb8]; exact Blk.new _ _ _)
  have HG8 : Hid (g ≠ b8) := Lib.hid (by have := HS7.out.mac.lt; omega)
  have HW8 := Lib.hid (And.intro hw8 hb8)
  clear hw8 hb8
  rw [HW8.out.1, HW8.out.2]
  clear HW8 HS7
  obtain ⟨v, hv⟩ : ∃ v, M1.ver = v := ⟨_, rfl⟩
  have HVV := Lib.hid hv
  clear hv
  obtain ⟨q, hq⟩ : ∃ q, (r == 2 && b.ag && (b.ec == v)) = q := ⟨_, rfl⟩
  have HQ := Lib.hid hq
  clear hq
  go_cut [53] (fun s wx => s = .bool q ∧ ∃ n, wx = w8.drewN n)
  case first =>
    have p8 := HP8.out.cell 0
    have C := HS8.out.bp.cells
    have d8 := C.c8
    have d10 := C.c10
    have c134 := (HS8.out.mac.hd HF6.out.n8).c134
    rw [HVV.out] at c134
    clear C
    by_cases h2 : r = 2
    · subst h2
      cases ha : b.ag with
      | false =>
        rw [ha] at d8
        have HA := Lib.hid ha
        clear ha
        go_wp2_with fail
        go_quiet (fail)
        go_wp2_with fail
        go_meet
        exact ⟨congrArg Value.bool (by rw [← HQ.out, HA.out]; simp), _, rfl⟩
      | true =>
        rw [ha] at d8
        have HA := Lib.hid ha
        clear ha
        cases he : b.ec == v with
        | false =>
          go_wp2_with fail
          go_quiet (fail)
          go_wp2_with fail
          go_meet
          exact ⟨congrArg Value.bool (by rw [← HQ.out, HA.out]; simpa using he), _, rfl⟩
        | true =>
          go_wp2_with fail
          go_quiet (fail)
          go_wp2_with fail
          go_meet
          exact ⟨congrArg Value.bool (by rw [← HQ.out, HA.out]; simpa using he), _, rfl⟩
    · have e2 : ((r : Int) == 2) = false := by simp; omega
      have e2' : (r == 2) = false := by simpa using h2
      have E2 := Lib.hid e2'
      clear h2 e2'
      go_wp2_with fail
      go_quiet (fail)
      go_wp2_with fail
      go_meet
      exact ⟨congrArg Value.bool (by rw [← HQ.out, E2.out]; simp), _, rfl⟩
  obtain ⟨rfl, n, rfl⟩ := hcut
  have HS9 : Hid (HvS w g i b M1 (w8.drewN n)) := Lib.hid (HS8.out.drewN n)
  have HP9 : Hid (Blk (w8.drewN n) b8 5 #[.int .u8 (r : Nat)]) := HP8
  clear HS8 HP8
  generalize w8.drewN n = w9 at *
  cases q with
  | true =>
    have hs : r = 2 ∧ b.ag = true ∧ b.ec = v := by have := HQ.out; simpa [and_assoc] using this
    have HH2 : Hid (M1.hear2 i b = M1.setP i { M1.port i with ag := true }) := Lib.hid (by unfold Mch.hear2; rw [HR.out, HVV.out, if_pos hs])
    have s14 := (HS9.out.mac.sd HF6.out.n8 HI6.out).c14
    have f14 := HS9.out.mac.fz (2 + i * 16 + 14)
    have HS10 : Hid (HvS w g i b (M1.setP i { M1.port i with ag := true }) (w9.setCell ⟨g, 2 + i * 16 + 14, none⟩ (.bool true))) := Lib.hid (HS9.out.to HG.out (HS9.out.mac.put HF6.out.n8 HI6.out 14 (by omega) (.bool true) { M1.port i with ag := true } rfl) ((Chg.refl (· = g) w9).setCell (p := ⟨g, 2 + i * 16 + 14, none⟩) (.inr rfl) _))
    have HP10 : Hid (Blk (w9.setCell ⟨g, 2 + i * 16 + 14, none⟩ (.bool true)) b8 5 #[.int .u8 (r : Nat)]) := Lib.hid (Blk.far HP9.out (p := ⟨g, 2 + i * 16 + 14, none⟩) (Ne.symm HG8.out) _)
    have HF10 : Hid ((M1.setP i { M1.port i with ag := true }).fits) := Lib.hid (by
      have hp := HF6.out.port _ (Mch.port_mem HI6.out)
      exact Mch.setP_fits HF6.out ⟨hp.b, hp.cost, hp.la, hp.sp⟩)
    clear hs
    go_upto_region 9 with fail
    clear s14 f14
    obtain ⟨w10, hw10⟩ : ∃ w10, w9.setCell ⟨g, 2 + i * 16 + 14, none⟩ (.bool true) = w10 := ⟨_, rfl⟩
    rw [hw10] at HS10 HP10
    rw [hw10]
    clear hw10
    have C := HS10.out.bp.cells
    have d9 := C.c9
    have d6 := C.c6
    clear C
    have p8 := HP10.out.cell 0
    cases htp : b.tp with
    | false =>
      rw [htp] at d9
      have HTP := Lib.hid htp
      clear htp
      have HS11 := HS10
      have HP11 := HP10
      have HF11 := HF10
      clear HS10 HP10 HF10 HS9 HP9
      obtain ⟨L, hL⟩ : ∃ L, (M.hearS i b) = L := ⟨_, rfl⟩
      have HLL := Lib.hid hL
      have hmf : ∀ (fn : Fn) (first cap : Array Value) (w : World), (Instr.makeFunc fn first cap).run Try.prog w = .ok (.func fn first cap) w := fun _ _ _ _ => rfl
      go_wp2_with fail
      clear d9 d6 p8
      refine (send_hear (HS11.out.mac) HF11.out.n8 (fun k => k == i && (r == 1) && b.pr) (fun k hk W hW => hear1_any ((HP11.out).below hW HP11.out.lt) ((HS11.out.prt).below hW HS11.out.prt.lt) (BpA.below HS11.out.bp hW (BpA.lt HS11.out.bp)))).mono ?_
      rintro e w12 ⟨A, c, rfl, hE, hb, hbn⟩
      have HEND : Hid (Els 12 encS w12 A (M.hearS i b) ∧ MaP w12 g (M.hear i b) ∧ Chg (· = g) w w12 ∧ (∀ b off, A = some ⟨b, off, none⟩ → w.heap.size ≤ b) ∧ (M.hearS i b) = (M1.setP i { M1.port i with ag := true }).send (fun k => k == i && (r == 1) && b.pr)) := Lib.hid (by
        have e1 : M.hear i b = M1.setP i { M1.port i with ag := true } := by
          unfold Mch.hear
          rw [if_pos ⟨HI.out, HLV.out⟩, HM1.out, HR.out]
          rw [HH2.out]; unfold Mch.hear3; rw [if_neg (by rw [HTP.out]; simp)]
        have e2 : M.hearS i b = (M1.setP i { M1.port i with ag := true }).send (fun k => k == i && (r == 1) && b.pr) := by
          unfold Mch.hearS
          rw [if_pos ⟨HI.out, HLV.out⟩, e1, HM1.out, HR.out]
        refine ⟨by rw [e2]; exact hE, by rw [e1]; exact (HS11.out.next hb).mac, (HS11.out.next hb).chg, fun b off e => Nat.le_trans HS11.out.chg.size (hbn b off e), e2⟩)
      rw [← HEND.out.2.2.2.2]
      clear hE hb hbn hL
      obtain ⟨l, hl⟩ : ∃ l, (M.hearS i b).length = l := ⟨_, rfl⟩
      have HLN := Lib.hid hl
      rw [hl]
      clear hl
      go_wp2_with fail
      go_ret
      rw [HLN.out]
      exact ⟨A, c, rfl, HEND.out.1, HEND.out.2.1, HEND.out.2.2.1, HEND.out.2.2.2.1⟩
    | true =>
      rw [htp] at d9
      have HTP := Lib.hid htp
      clear htp
      obtain ⟨z, hz⟩ : ∃ z, along (r : Int) b.role = z := ⟨_, rfl⟩
      have kA := along_any (w := w10) (r : Int) b.role
      rw [hz] at kA
      have HZ := Lib.hid hz
      clear hz
      go_wp2_with fail
      refine kA.mono ?_
      rintro e w11 ⟨rfl, rfl⟩
      cases z with
      | false =>
        have HS11 := HS10
        have HP11 := HP10
        have HF11 := HF10
        clear HS10 HP10 HF10 HS9 HP9 d9 d6 p8 kA
        obtain ⟨L, hL⟩ : ∃ L, (M.hearS i b) = L := ⟨_, rfl⟩
        have HLL := Lib.hid hL
        have hmf : ∀ (fn : Fn) (first cap : Array Value) (w : World), (Instr.makeFunc fn first cap).run Try.prog w = .ok (.func fn first cap) w := fun _ _ _ _ => rfl
        go_wp2_with fail
        refine (send_hear (HS11.out.mac) HF11.out.n8 (fun k => k == i && (r == 1) && b.pr) (fun k hk W hW => hear1_any ((HP11.out).below hW HP11.out.lt) ((HS11.out.prt).below hW HS11.out.prt.lt) (BpA.below HS11.out.bp hW (BpA.lt HS11.out.bp)))).mono ?_
        rintro e w12 ⟨A, c, rfl, hE, hb, hbn⟩
        have HEND : Hid (Els 12 encS w12 A (M.hearS i b) ∧ MaP w12 g (M.hear i b) ∧ Chg (· = g) w w12 ∧ (∀ b off, A = some ⟨b, off, none⟩ → w.heap.size ≤ b) ∧ (M.hearS i b) = (M1.setP i { M1.port i with ag := true }).send (fun k => k == i && (r == 1) && b.pr)) := Lib.hid (by
          have e1 : M.hear i b = M1.setP i { M1.port i with ag := true } := by
            unfold Mch.hear
            rw [if_pos ⟨HI.out, HLV.out⟩, HM1.out, HR.out]
            rw [HH2.out]; unfold Mch.hear3; rw [if_neg (by rw [HZ.out]; simp)]
          have e2 : M.hearS i b = (M1.setP i { M1.port i with ag := true }).send (fun k => k == i && (r == 1) && b.pr) := by
            unfold Mch.hearS
            rw [if_pos ⟨HI.out, HLV.out⟩, e1, HM1.out, HR.out]
          refine ⟨by rw [e2]; exact hE, by rw [e1]; exact (HS11.out.next hb).mac, (HS11.out.next hb).chg, fun b off e => Nat.le_trans HS11.out.chg.size (hbn b off e), e2⟩)
        rw [← HEND.out.2.2.2.2]
        clear hE hb hbn hL
        obtain ⟨l, hl⟩ : ∃ l, (M.hearS i b).length = l := ⟨_, rfl⟩
        have HLN := Lib.hid hl
        rw [hl]
        clear hl
        go_wp2_with fail
        go_ret
        rw [HLN.out]
        exact ⟨A, c, rfl, HEND.out.1, HEND.out.2.1, HEND.out.2.2.1, HEND.out.2.2.2.1⟩
      | true =>
        have b4 := HS10.out.prt.cell 0
        clear d9 d6 p8 kA
        go_wp2_with fail
        refine (spread_any (i := i) HS10.out.mac HF10.out.n8 HF10.out.fl).mono ?_
        rintro e w12 ⟨rfl, hM12, hc12⟩
        have HS11 : Hid (HvS w g i b ((M1.setP i { M1.port i with ag := true }).spread i) w12) := Lib.hid (HS10.out.to HG.out hM12 hc12)
        have HP11 : Hid (Blk w12 b8 5 #[.int .u8 (r : Nat)]) := Lib.hid (HP10.out.chg hc12 (fun e => HG8.out e.symm))
        have HF11 : Hid (((M1.setP i { M1.port i with ag := true }).spread i).fits) := Lib.hid (Mch.spread_fits HF10.out i)
        clear hM12 hc12 HS10 HP10 HF10 HS9 HP9 b4
        obtain ⟨L, hL⟩ : ∃ L, (M.hearS i b) = L := ⟨_, rfl⟩
        have HLL := Lib.hid hL
        have hmf : ∀ (fn : Fn) (first cap : Array Value) (w : World), (Instr.makeFunc fn first cap).run Try.prog w = .ok (.func fn first cap) w := fun _ _ _ _ => rfl
        go_wp2_with fail
        refine (send_hear (HS11.out.mac) HF11.out.n8 (fun k => k == i && (r == 1) && b.pr) (fun k hk W hW => hear1_any ((HP11.out).below hW HP11.out.lt) ((HS11.out.prt).below hW HS11.out.prt.lt) (BpA.below HS11.out.bp hW (BpA.lt HS11.out.bp)))).mono ?_
        rintro e w12 ⟨A, c, rfl, hE, hb, hbn⟩
        have HEND : Hid (Els 12 encS w12 A (M.hearS i b) ∧ MaP w12 g (M.hear i b) ∧ Chg (· = g) w w12 ∧ (∀ b off, A = some ⟨b, off, none⟩ → w.heap.size ≤ b) ∧ (M.hearS i b) = ((M1.setP i { M1.port i with ag := true }).spread i).send (fun k => k == i && (r == 1) && b.pr)) := Lib.hid (by
          have e1 : M.hear i b = (M1.setP i { M1.port i with ag := true }).spread i := by
            unfold Mch.hear
            rw [if_pos ⟨HI.out, HLV.out⟩, HM1.out, HR.out]
            rw [HH2.out]; unfold Mch.hear3; rw [if_pos ⟨HTP.out, HZ.out⟩]
          have e2 : M.hearS i b = ((M1.setP i { M1.port i with ag := true }).spread i).send (fun k => k == i && (r == 1) && b.pr) := by
            unfold Mch.hearS
            rw [if_pos ⟨HI.out, HLV.out⟩, e1, HM1.out, HR.out]
          refine ⟨by rw [e2]; exact hE, by rw [e1]; exact (HS11.out.next hb).mac, (HS11.out.next hb).chg, fun b off e => Nat.le_trans HS11.out.chg.size (hbn b off e), e2⟩)
        rw [← HEND.out.2.2.2.2]
        clear hE hb hbn hL
        obtain ⟨l, hl⟩ : ∃ l, (M.hearS i b).length = l := ⟨_, rfl⟩
        have HLN := Lib.hid hl
        rw [hl]
        clear hl
        go_wp2_with fail
        go_ret
        rw [HLN.out]
        exact ⟨A, c, rfl, HEND.out.1, HEND.out.2.1, HEND.out.2.2.1, HEND.out.2.2.2.1⟩
  | false =>
    have HH2 : Hid (M1.hear2 i b = M1) := Lib.hid (by
      unfold Mch.hear2
      rw [HR.out, HVV.out, if_neg]
      rintro ⟨h1, h2, h3⟩
      have := HQ.out
      rw [h1, h2, h3] at this
      simp at this)
    obtain ⟨w10, hw10⟩ : ∃ w10, w9 = w10 := ⟨_, rfl⟩
    subst hw10
    have HS10 := HS9
    have HP10 := HP9
    have HF10 := HF6
    have C := HS10.out.bp.cells
    have d9 := C.c9
    have d6 := C.c6
    clear C
    have p8 := HP10.out.cell 0
    cases htp : b.tp with
    | false =>
      rw [htp] at d9
      have HTP := Lib.hid htp
      clear htp
      have HS11 := HS10
      have HP11 := HP10
      have HF11 := HF10
      clear HS10 HP10 HF10 HS9 HP9
      obtain ⟨L, hL⟩ : ∃ L, (M.hearS i b) = L := ⟨_, rfl⟩
      have HLL := Lib.hid hL
      have hmf : ∀ (fn : Fn) (first cap : Array Value) (w : World), (Instr.makeFunc fn first cap).run Try.prog w = .ok (.func fn first cap) w := fun _ _ _ _ => rfl
      go_wp2_with fail
      clear d9 d6 p8
      refine (send_hear (HS11.out.mac) HF11.out.n8 (fun k => k == i && (r == 1) && b.pr) (fun k hk W hW => hear1_any ((HP11.out).below hW HP11.out.lt) ((HS11.out.prt).below hW HS11.out.prt.lt) (BpA.below HS11.out.bp hW (BpA.lt HS11.out.bp)))).mono ?_
      rintro e w12 ⟨A, c, rfl, hE, hb, hbn⟩
      have HEND : Hid (Els 12 encS w12 A (M.hearS i b) ∧ MaP w12 g (M.hear i b) ∧ Chg (· = g) w w12 ∧ (∀ b off, A = some ⟨b, off, none⟩ → w.heap.size ≤ b) ∧ (M.hearS i b) = (M1).send (fun k => k == i && (r == 1) && b.pr)) := Lib.hid (by
        have e1 : M.hear i b = M1 := by
          unfold Mch.hear
          rw [if_pos ⟨HI.out, HLV.out⟩, HM1.out, HR.out]
          rw [HH2.out]; unfold Mch.hear3; rw [if_neg (by rw [HTP.out]; simp)]
        have e2 : M.hearS i b = (M1).send (fun k => k == i && (r == 1) && b.pr) := by
          unfold Mch.hearS
          rw [if_pos ⟨HI.out, HLV.out⟩, e1, HM1.out, HR.out]
        refine ⟨by rw [e2]; exact hE, by rw [e1]; exact (HS11.out.next hb).mac, (HS11.out.next hb).chg, fun b off e => Nat.le_trans HS11.out.chg.size (hbn b off e), e2⟩)
      rw [← HEND.out.2.2.2.2]
      clear hE hb hbn hL
      obtain ⟨l, hl⟩ : ∃ l, (M.hearS i b).length = l := ⟨_, rfl⟩
      have HLN := Lib.hid hl
      rw [hl]
      clear hl
      go_wp2_with fail
      go_ret
      rw [HLN.out]
      exact ⟨A, c, rfl, HEND.out.1, HEND.out.2.1, HEND.out.2.2.1, HEND.out.2.2.2.1⟩
    | true =>
      rw [htp] at d9
      have HTP := Lib.hid htp
      clear htp
      obtain ⟨z, hz⟩ : ∃ z, along (r : Int) b.role = z := ⟨_, rfl⟩
      have kA := along_any (w := w9) (r : Int) b.role
      rw [hz] at kA
      have HZ := Lib.hid hz
      clear hz
      go_wp2_with fail
      refine kA.mono ?_
      rintro e w11 ⟨rfl, rfl⟩
      cases z with
      | false =>
        have HS11 := HS10
        have HP11 := HP10
        have HF11 := HF10
        clear HS10 HP10 HF10 HS9 HP9 d9 d6 p8 kA
        obtain ⟨L, hL⟩ : ∃ L, (M.hearS i b) = L := ⟨_, rfl⟩
        have HLL := Lib.hid hL
        have hmf : ∀ (fn : Fn) (first cap : Array Value) (w : World), (Instr.makeFunc fn first cap).run Try.prog w = .ok (.func fn first cap) w := fun _ _ _ _ => rfl
        go_wp2_with fail
        refine (send_hear (HS11.out.mac) HF11.out.n8 (fun k => k == i && (r == 1) && b.pr) (fun k hk W hW => hear1_any ((HP11.out).below hW HP11.out.lt) ((HS11.out.prt).below hW HS11.out.prt.lt) (BpA.below HS11.out.bp hW (BpA.lt HS11.out.bp)))).mono ?_
        rintro e w12 ⟨A, c, rfl, hE, hb, hbn⟩
        have HEND : Hid (Els 12 encS w12 A (M.hearS i b) ∧ MaP w12 g (M.hear i b) ∧ Chg (· = g) w w12 ∧ (∀ b off, A = some ⟨b, off, none⟩ → w.heap.size ≤ b) ∧ (M.hearS i b) = (M1).send (fun k => k == i && (r == 1) && b.pr)) := Lib.hid (by
          have e1 : M.hear i b = M1 := by
            unfold Mch.hear
            rw [if_pos ⟨HI.out, HLV.out⟩, HM1.out, HR.out]
            rw [HH2.out]; unfold Mch.hear3; rw [if_neg (by rw [HZ.out]; simp)]
          have e2 : M.hearS i b = (M1).send (fun k => k == i && (r == 1) && b.pr) := by
            unfold Mch.hearS
            rw [if_pos ⟨HI.out, HLV.out⟩, e1, HM1.out, HR.out]
          refine ⟨by rw [e2]; exact hE, by rw [e1]; exact (HS11.out.next hb).mac, (HS11.out.next hb).chg, fun b off e => Nat.le_trans HS11.out.chg.size (hbn b off e), e2⟩)
        rw [← HEND.out.2.2.2.2]
        clear hE hb hbn hL
        obtain ⟨l, hl⟩ : ∃ l, (M.hearS i b).length = l := ⟨_, rfl⟩
        have HLN := Lib.hid hl
        rw [hl]
        clear hl
        go_wp2_with fail
        go_ret
        rw [HLN.out]
        exact ⟨A, c, rfl, HEND.out.1, HEND.out.2.1, HEND.out.2.2.1, HEND.out.2.2.2.1⟩
      | true =>
        have b4 := HS10.out.prt.cell 0
        clear d9 d6 p8 kA
        go_wp2_with fail
        refine (spread_any (i := i) HS10.out.mac HF10.out.n8 HF10.out.fl).mono ?_
        rintro e w12 ⟨rfl, hM12, hc12⟩
        have HS11 : Hid (HvS w g i b ((M1).spread i) w12) := Lib.hid (HS10.out.to HG.out hM12 hc12)
        have HP11 : Hid (Blk w12 b8 5 #[.int .u8 (r : Nat)]) := Lib.hid (HP10.out.chg hc12 (fun e => HG8.out e.symm))
        have HF11 : Hid (((M1).spread i).fits) := Lib.hid (Mch.spread_fits HF10.out i)
        clear hM12 hc12 HS10 HP10 HF10 HS9 HP9 b4
        obtain ⟨L, hL⟩ : ∃ L, (M.hearS i b) = L := ⟨_, rfl⟩
        have HLL := Lib.hid hL
        have hmf : ∀ (fn : Fn) (first cap : Array Value) (w : World), (Instr.makeFunc fn first cap).run Try.prog w = .ok (.func fn first cap) w := fun _ _ _ _ => rfl
        go_wp2_with fail
        refine (send_hear (HS11.out.mac) HF11.out.n8 (fun k => k == i && (r == 1) && b.pr) (fun k hk W hW => hear1_any ((HP11.out).below hW HP11.out.lt) ((HS11.out.prt).below hW HS11.out.prt.lt) (BpA.below HS11.out.bp hW (BpA.lt HS11.out.bp)))).mono ?_
        rintro e w12 ⟨A, c, rfl, hE, hb, hbn⟩
        have HEND : Hid (Els 12 encS w12 A (M.hearS i b) ∧ MaP w12 g (M.hear i b) ∧ Chg (· = g) w w12 ∧ (∀ b off, A = some ⟨b, off, none⟩ → w.heap.size ≤ b) ∧ (M.hearS i b) = ((M1).spread i).send (fun k => k == i && (r == 1) && b.pr)) := Lib.hid (by
          have e1 : M.hear i b = (M1).spread i := by
            unfold Mch.hear
            rw [if_pos ⟨HI.out, HLV.out⟩, HM1.out, HR.out]
            rw [HH2.out]; unfold Mch.hear3; rw [if_pos ⟨HTP.out, HZ.out⟩]
          have e2 : M.hearS i b = ((M1).spread i).send (fun k => k == i && (r == 1) && b.pr) := by
            unfold Mch.hearS
            rw [if_pos ⟨HI.out, HLV.out⟩, e1, HM1.out, HR.out]
          refine ⟨by rw [e2]; exact hE, by rw [e1]; exact (HS11.out.next hb).mac, (HS11.out.next hb).chg, fun b off e => Nat.le_trans HS11.out.chg.size (hbn b off e), e2⟩)
        rw [← HEND.out.2.2.2.2]
        clear hE hb hbn hL
        obtain ⟨l, hl⟩ : ∃ l, (M.hearS i b).length = l := ⟨_, rfl⟩
        have HLN := Lib.hid hl
        rw [hl]
        clear hl
        go_wp2_with fail
        go_ret
        rw [HLN.out]
        exact ⟨A, c, rfl, HEND.out.1, HEND.out.2.1, HEND.out.2.2.1, HEND.out.2.2.2.1⟩
/-- Hear -/
theorem hear_any {w : World} {g i : Nat} {M : Mch} {b : Bp} (hM : MaP w g M) (hF : M.fits) (hb : b.fit) :
    Calls Try.prog 18 #[.pointer (some ⟨g, 0, none⟩), .int .u8 (i : Nat), BV b] w fun e w' => ∃ A c, e = .returned (.slice A (M.hearS i b).length c) ∧ Els 12 encS w' A (M.hearS i b) ∧ MaP w' g (M.hear i b) ∧ Chg (· = g) w w' ∧ ∀ b off, A = some ⟨b, off, none⟩ → w.heap.size ≤ b := by
  by_cases hi : i < M.ps.length
  · cases hl : (M.port i).live with
    | true => exact hear_go hM hF hb hi hl
    | false =>
      have e1 : M.hear i b = M := by unfold Mch.hear; rw [if_neg (by rw [hl]; simp)]
      have e2 : M.hearS i b = [] := by unfold Mch.hearS; rw [if_neg (by rw [hl]; simp)]
      rw [e1, e2]
      exact (hear_off hM hF hi hl).mono fun e w' ⟨he, hM', hc⟩ => ⟨none, 0, he, fun h => absurd h (by simp), hM', hc, fun b off e => by cases e⟩
  · have e1 : M.hear i b = M := by unfold Mch.hear; rw [if_neg (fun h => hi h.1)]
    have e2 : M.hearS i b = [] := by unfold Mch.hearS; rw [if_neg (fun h => hi h.1)]
    rw [e1, e2]
    exact (hear_none hM hF hi).mono fun e w' ⟨he, hM', hc⟩ => ⟨none, 0, he, fun h => absurd h (by simp), hM', hc, fun b off e => by cases e⟩
end Go.Proofs.Ytlpmilaofcakbaa
