/- Layer 9: a machine stays as it may be; the document's Power. -/
import Derived.Test.YtlpmilaofcakbaaR3c
namespace Go.Proofs.Ytlpmilaofcakbaa
open Go.RowKit Go.Shelf
open Go.Sort (grow)
set_option linter.unusedVariables false
set_option linter.unusedSimpArgs false
set_option maxRecDepth 100000

theorem Mch.bIn_ok (M : Mch) (h8 : M.ps.length ≤ 8) : 0 ≤ M.bIn ∧ M.bIn ≤ 8 := by
  unfold Mch.bIn
  split
  · rename_i hf
    obtain ⟨i, hi, hxi, _⟩ := Mch.best_port (M := M) (by intro e; unfold Mch.fit at hf; rw [e] at hf; cases hf)
    rw [hxi]; omega
  · decide
theorem Mch.choose_sane {M : Mch} (hf : M.fits) (hl : ∀ p ∈ M.ps, p.la ≠ 0 → p.live = true) : M.choose.sane := by
  refine ⟨Mch.choose_fits hf, ?_, ?_⟩
  · have := M.bIn_ok hf.n8
    unfold Mch.choose Mch.settle
    split <;> exact this
  · intro p hp
    have key : ∀ (N : Mch), (∀ p ∈ N.ps, p.la ≠ 0 → p.live = true) → ∀ p ∈ N.settle.ps, p.la ≠ 0 → p.live = true := by
      intro N hN p hp
      obtain ⟨i, hi, rfl⟩ := List.mem_mapIdx.1 hp
      exact (hN N.ps[i] (List.getElem_mem hi) : _)
    unfold Mch.choose at hp
    split at hp
    · exact key M.put hl p hp
    · refine key M.put.change ?_ p hp
      intro q hq
      obtain ⟨x, hx, rfl⟩ := List.mem_map.1 hq
      exact hl x hx
theorem Mch.setP_lv {M : Mch} {i : Nat} {q : Sd} (hl : ∀ p ∈ M.ps, p.la ≠ 0 → p.live = true) (hq : q.la ≠ 0 → q.live = true) : ∀ p ∈ (M.setP i q).ps, p.la ≠ 0 → p.live = true := by
  intro p hp
  rcases List.mem_or_eq_of_mem_set hp with e | rfl
  · exact hl p e
  · exact hq
theorem Mch.upP_sane {M : Mch} (h : M.sane) (i : Nat) : (M.upP i).sane := by
  unfold Mch.upP
  split
  · rename_i hc
    exact Mch.choose_sane (Mch.setP_fits h.fits (Sd.reset_fit (h.fits.port _ (Mch.port_mem hc.1)) _)) (Mch.setP_lv h.lv (fun hn => absurd rfl hn))
  · exact h
theorem Mch.downP_sane {M : Mch} (h : M.sane) (i : Nat) : (M.downP i).sane := by
  unfold Mch.downP
  split
  · rename_i hc
    have h1 := Mch.setP_fits h.fits (i := i) (Sd.reset_fit (h.fits.port _ (Mch.port_mem hc.1)) false)
    exact Mch.choose_sane (Mch.fits_of (M := M.setP i ((M.port i).reset false)) h1 rfl h1.port (by simp [Mch.setP, h.fits.fl])) (Mch.setP_lv h.lv (fun hn => absurd rfl hn))
  · exact h
theorem Mch.tick1_sane {M : Mch} (h : M.sane) : M.tick1.sane := by
  refine Mch.choose_sane (Mch.map_fits h.fits fun _ => Sd.less_fit) ?_
  intro p hp
  obtain ⟨x, hx, rfl⟩ := List.mem_map.1 hp
  intro hn
  have h0 := (h.fits.la x hx).1
  have hn' : max 0 (x.la - 1) ≠ 0 := hn
  exact h.lv x hx (by omega)
theorem Mch.tick_sane {M : Mch} (h : M.sane) : M.tick.sane := by
  refine ⟨Mch.tick_fits h.fits, (Mch.tick1_sane h).inn, ?_⟩
  intro p hp
  obtain ⟨x, hx, rfl⟩ := List.mem_map.1 hp
  exact (Mch.tick1_sane h).lv x hx
theorem Mch.hear1_sane {M : Mch} (h : M.sane) {i : Nat} {b : Bp} (hi : i < M.ps.length) (hlv : (M.port i).live = true) (hb : b.fit) : (M.hear1 i b).sane :=
  Mch.choose_sane (Mch.setP_fits h.fits ⟨hb, (h.fits.port _ (Mch.port_mem hi)).cost, (show (0 : Int) ≤ 3 ∧ (3 : Int) ≤ 3 by decide), (h.fits.port _ (Mch.port_mem hi)).sp⟩) (Mch.setP_lv h.lv (fun _ => hlv))
theorem Mch.hear2_sane {M : Mch} (h : M.sane) {i : Nat} (b : Bp) (hi : i < M.ps.length) : (M.hear2 i b).sane := by
  refine ⟨Mch.hear2_fits h.fits b hi, ?_, ?_⟩
  · unfold Mch.hear2; split <;> exact h.inn
  · unfold Mch.hear2
    split
    · exact Mch.setP_lv h.lv (fun hn => h.lv (M.port i) (Mch.port_mem hi) hn)
    · exact h.lv
theorem Mch.spread_sane {M : Mch} (h : M.sane) (i : Nat) : (M.spread i).sane := by
  refine ⟨Mch.spread_fits h.fits i, h.inn, ?_⟩
  intro p hp
  obtain ⟨k, hk, rfl⟩ := List.mem_mapIdx.1 hp
  have := h.lv _ (List.getElem_mem hk)
  split
  · exact this
  · unfold Sd.spr
    split <;> exact this
theorem Mch.hear_sane {M : Mch} (h : M.sane) (i : Nat) {b : Bp} (hb : b.fit) : (M.hear i b).sane := by
  unfold Mch.hear
  split
  · rename_i hc
    have h2 := Mch.hear2_sane (Mch.hear1_sane h hc.1 hc.2 hb) b (i := i) (by rw [Mch.hear1_len]; exact hc.1)
    unfold Mch.hear3
    split
    · exact Mch.spread_sane h2 i
    · exact h2
  · exact h
theorem newM_sane (id : Int) (cs : List Int) (h : mayC cs = true) (h0 : ∀ x ∈ cs, 0 ≤ x) : (newM id cs).sane := by
  refine ⟨newM_fits id cs h h0, (show (0 : Int) ≤ 8 ∧ (8 : Int) ≤ 8 by decide), ?_⟩
  intro p hp hn
  obtain ⟨x, hx, rfl⟩ := List.mem_map.1 hp
  exact absurd rfl hn
/-- a port of the document's machine stored whole -/
theorem wpl_rport {ops : Array Oper} {rest : List Oper} {o : Oper} {a : Act} {Q : Exit → Act → World → Prop} {w : World} {m pb fb c cf i : Nat} {M : Mch} {p : Sd} (hgd : o.guard = none) (x y : Nat) (ho : o.op = .store 94 (.tmp x) (.tmp y)) (hD : DmP w m pb fb c cf M) (hi : i < M.ps.length)
    (hx : a.eval (.tmp x) = .pointer (some ⟨pb, i * 16, none⟩)) (hy : a.eval (.tmp y) = .agg (sdV p).toArray)
    (hK : ∀ w', DmP w' m pb fb c cf (M.setP i p) → Chg (XD m pb fb) w w' → wpList Try.prog ops Q rest (a.put o.dst (.tuple #[])) w') : wpList Try.prog ops Q (o :: rest) a w := by
  have hlen : ∀ l : List Sd, (l.flatMap sdV).length = 16 * l.length := by
    intro l
    induction l with
    | nil => rfl
    | cons x l ih => simp only [List.flatMap_cons, List.length_append, ih, sdV_len, List.length_cons]; omega
  obtain ⟨cs, h2, h3⟩ := hD.pr
  have hsp : M.ps = M.ps.take i ++ [M.port i] ++ M.ps.drop (i + 1) := by
    rw [List.append_assoc, List.singleton_append, ← Mch.port_at hi, List.getElem_cons_drop, List.take_append_drop]
  have hcs : cs = (((M.ps.take i).flatMap sdV) ++ sdV (M.port i) ++ ((M.ps.drop (i + 1)).flatMap sdV ++ cs.toList.drop (M.ps.length * 16))).toArray := by
    apply Array.ext'
    have e4 : M.ps.flatMap sdV = (M.ps.take i).flatMap sdV ++ sdV (M.port i) ++ (M.ps.drop (i + 1)).flatMap sdV := (congrArg (List.flatMap sdV) hsp).trans (by simp only [List.flatMap_append, List.flatMap_cons, List.flatMap_nil, List.append_nil])
    have e5 : cs.toList = M.ps.flatMap sdV ++ cs.toList.drop (M.ps.length * 16) := by rw [← h3, List.take_append_drop]
    show cs.toList = (M.ps.take i).flatMap sdV ++ sdV (M.port i) ++ ((M.ps.drop (i + 1)).flatMap sdV ++ cs.toList.drop (M.ps.length * 16))
    rw [← List.append_assoc, ← e4]
    exact e5
  have hpl : ((M.ps.take i).flatMap sdV).length = i * 16 := by rw [hlen, List.length_take]; omega
  rw [hcs] at h2
  have h5 := blk_setCellsT (sdV p) _ _ _ w h2 rfl
  have hc := chg_setCellsT (S := (· = pb)) (w0 := w) (sdV p) (i * 16) w (Chg.refl _ _) (.inr rfl)
  rw [hpl] at h5
  have hone : ∀ u ∈ sdV p, u.oneCell' = true := by
    intro u hu
    simp only [sdV, encBp, List.cons_append, List.nil_append, List.mem_cons, List.mem_nil_iff, or_false] at hu
    rcases hu with rfl | rfl | rfl | rfl | rfl | rfl | rfl | rfl | rfl | rfl | rfl | rfl | rfl | rfl | rfl | rfl <;> rfl
  refine wpList_store_atT hgd 94 (.tmp x) (.tmp y) ho _ _ _ (sdV p) (by rw [hpl]; exact hx) hy h2 rfl hone (fun w => by have := Try.sizeOf94; exact this w) ?_
  rw [hpl]
  refine hK _ ⟨?_, ⟨_, h5, ?_⟩, ?_, hD.ne, by rw [Mch.setP_len]; exact hD.nf⟩ (hc.mono fun k _ hk => by rw [hk]; exact XD.p)
  · rw [Mch.setP_len]
    exact hD.hd.chg hc hD.ne.1
  · rw [Mch.setP_len]
    have e : (M.setP i p).ps = M.ps.take i ++ [p] ++ M.ps.drop (i + 1) := by
      unfold Mch.setP
      rw [List.set_eq_take_append_cons_drop, if_pos hi]
      simp
    have e2 : ((M.ps.take i).flatMap sdV ++ sdV p ++ ((M.ps.drop (i + 1)).flatMap sdV ++ cs.toList.drop (M.ps.length * 16))) = (M.setP i p).ps.flatMap sdV ++ cs.toList.drop (M.ps.length * 16) := by
      rw [e]; simp [List.append_assoc]
    rw [e2]
    exact List.take_left' (by rw [hlen, Mch.setP_len]; omega)
  · obtain ⟨ds, h6, h7⟩ := hD.fl
    exact ⟨ds, h6.chg hc (Ne.symm hD.ne.2.2), by rw [Mch.setP_len]; exact h7⟩

set_option maxHeartbeats 2000000 in
theorem power_none {w : World} {m pb fb c cf i : Nat} {M : Mch} (hD : DmP w m pb fb c cf M) (hi : ¬ i < M.ps.length) {u : Bool} : Calls Try.prog 12 #[.pointer (some ⟨m, 0, none⟩), .int .i64 (i : Nat), .bool u] w fun e w' => e = .returned (.tuple #[]) ∧ DmP w' m pb fb c cf M ∧ Chg (XD m pb fb) w w' := by
  obtain ⟨n, hn⟩ : ∃ n, M.ps.length = n := ⟨_, rfl⟩
  have c1 := hD.hd.cell 1
  rw [hn] at c1
  have dn : decide (n ≤ i) = true := by simp; omega
  have HD := Lib.hid hD
  clear hi hD hn
  go_enter Try.func12, Try.ntmps12
  go_wp2
  exact bodyPost_ret (v := .tuple #[]) (by simp [results, Try.results12, go_sem]) rfl ⟨rfl, HD.out, Chg.refl _ _⟩
set_option maxHeartbeats 2000000 in
theorem power_same {w : World} {m pb fb c cf i : Nat} {M : Mch} (hD : DmP w m pb fb c cf M) (hi : i < M.ps.length) (h8 : M.ps.length ≤ 8) {u : Bool} (hu : (M.port i).up = u) : Calls Try.prog 12 #[.pointer (some ⟨m, 0, none⟩), .int .i64 (i : Nat), .bool u] w fun e w' => e = .returned (.tuple #[]) ∧ DmP w' m pb fb c cf M ∧ Chg (XD m pb fb) w w' := by
  obtain ⟨n, hn⟩ : ∃ n, M.ps.length = n := ⟨_, rfl⟩
  have c1 := hD.hd.cell 1
  rw [hn] at c1
  have s1 := (hD.sd hi).c1
  rw [hu] at s1
  have dn : decide (n ≤ i) = false := by simp; omega
  have hi' : i < n := by omega
  have HD := Lib.hid hD
  clear hi hD hn hu
  cases u <;> (
    go_enter Try.func12, Try.ntmps12
    go_wp2
    exact bodyPost_ret (v := .tuple #[]) (by simp [results, Try.results12, go_sem]) rfl ⟨rfl, HD.out, Chg.refl _ _⟩)
set_option maxRecDepth 100000 in
set_option maxHeartbeats 4000000 in
theorem power_up {w : World} {m pb fb c cf i : Nat} {M : Mch} (hD : DmP w m pb fb c cf M) (hS : M.sane) (hi : i < M.ps.length) (hu : (M.port i).up = false) : Calls Try.prog 12 #[.pointer (some ⟨m, 0, none⟩), .int .i64 (i : Nat), .bool true] w fun e w' => e = .returned (.tuple #[]) ∧ DmP w' m pb fb c cf (M.setP i ((M.port i).reset true)).choose ∧ Chg (XD m pb fb) w w' := by
  obtain ⟨n, hn⟩ : ∃ n, M.ps.length = n := ⟨_, rfl⟩
  have c1 : w.cell? ⟨m, 1, none⟩ = some (.slice (some ⟨pb, 0, none⟩) n c) := by have := hD.hd.cell 1; rw [hn] at this; exact this
  have S := hD.sd hi
  have s0 := S.c0
  have s1 := S.c1
  rw [hu] at s1
  have dn : decide (n ≤ i) = false := by simp; omega
  have hi' : i < n := by omega
  have h8 := hS.fits.n8
  have hi8 : (i : Int) < 8 := by omega
  have HD := Lib.hid hD
  have HI := Lib.hid (And.intro hi (And.intro hn hS))
  obtain ⟨p, hp⟩ : ∃ p, M.port i = p := ⟨_, rfl⟩
  rw [hp] at s0
  have HP := Lib.hid hp
  clear hi hD hn hu S h8 hp hS
  go_enter Try.func12, Try.ntmps12
  go_upto_region 1 with fail
  clear s1
  go_wp2_with fail
  go_still_tail 16, (by kernel_rfl)
  change wpList _ _ _ _ _ w.drew
  have HD1 : Hid (DmP w.drew m pb fb c cf M) := Lib.hid (HD.out.drewN 1)
  have HC1 : Hid (Chg (XD m pb fb) w w.drew) := Lib.hid (Chg.refl _ w).drew
  clear s0 c1
  generalize w.drew = wd at *
  go_upto_region 2 with (refine wpl_rport (p := p.reset true) rfl 40 39 rfl HD1.out HI.out.1 rfl rfl ?_; intro w2 hD2 hC2; have HD2 : Hid (DmP w2 m pb fb c cf (M.setP i (p.reset true))) := Lib.hid hD2; have HC2 : Hid (Chg (XD m pb fb) w w2) := Lib.hid (HC1.out.trans hC2); clear hD2 hC2)
  have hl2 : (M.setP i (p.reset true)).ps.length = n := by rw [Mch.setP_len]; exact HI.out.2.1
  have c7 : w2.cell? ⟨m, 7, none⟩ = some (.slice (some ⟨fb, 0, none⟩) n cf) := by have := HD2.out.hd.cell 7; rw [hl2] at this; exact this
  have sF := HD2.out.fc (i := i) (by rw [hl2]; exact hi')
  have fF := HD2.out.fzF i
  obtain ⟨x, hx⟩ : ∃ x, (M.setP i (p.reset true)).fl.getD i false = x := ⟨_, rfl⟩
  rw [hx] at sF
  have HF3 : Hid (∀ y, DmP (w2.drew.setCell ⟨fb, i, none⟩ (.bool y)) m pb fb c cf { M.setP i (p.reset true) with fl := M.fl.set i y }) := Lib.hid fun y => (show DmP w2.drew m pb fb c cf (M.setP i (p.reset true)) from HD2.out.drewN 1).putF i y
  have HC3 : Hid (∀ y, Chg (XD m pb fb) w (w2.drew.setCell ⟨fb, i, none⟩ (.bool y))) := Lib.hid fun y => (HC2.out.drew).setCell (p := ⟨fb, i, none⟩) (.inr XD.f) _
  have HX := Lib.hid hx
  clear hx hl2 HD1 HC1
  cases x <;> (
    go_wp2_with fail
    go_still_tail 17, (by kernel_rfl)
    change wpList _ _ _ _ _ w2.drew
    go_upto_region 3 with fail
    clear c7 sF fF
    first
      | (
      have e : ({ M.setP i (p.reset true) with fl := M.fl.set i false } : Mch) = M.setP i ((M.port i).reset true) := by
        have h := HX.out
        have h' : M.fl.getD i false = false := h
        have hi2 : i < M.fl.length := by rw [HI.out.2.2.fits.fl]; exact HI.out.1
        have e2 : M.fl.set i false = M.fl := by
          apply List.ext_getElem?
          intro j
          rw [List.getElem?_set]
          by_cases hj : i = j
          · subst hj
            rw [if_pos rfl, if_pos hi2, ← h', List.getD_eq_getElem?_getD, List.getElem?_eq_getElem hi2]; rfl
          · rw [if_neg hj]
        rw [HP.out, e2]
        rfl
      have hD4 := HF3.out false
      have hC4 := HC3.out false
      rw [e] at hD4
      have HD4 := Lib.hid hD4
      have HC4 := Lib.hid hC4
      have HS4 : Hid ((M.setP i ((M.port i).reset true)).sane) := Lib.hid ⟨Mch.setP_fits HI.out.2.2.fits (Sd.reset_fit (HI.out.2.2.fits.port _ (Mch.port_mem HI.out.1)) _), HI.out.2.2.inn, Mch.setP_lv HI.out.2.2.lv (fun hn => absurd rfl hn)⟩
      clear hD4 hC4 e
      go_wp2_with fail
      refine (choose_ref HD4.out HS4.out).mono ?_
      rintro e w5 ⟨rfl, hD5, hC5⟩
      have HD5 := Lib.hid hD5
      have HC5 := Lib.hid (HC4.out.trans hC5)
      clear hD5 hC5
      go_wp2_with fail
      go_end0
      exact ⟨rfl, HD5.out, HC5.out⟩)
      | (
      have e : ({ M.setP i (p.reset true) with fl := M.fl.set i true } : Mch) = M.setP i ((M.port i).reset true) := by
        have h := HX.out
        have h' : M.fl.getD i false = true := h
        have hi2 : i < M.fl.length := by rw [HI.out.2.2.fits.fl]; exact HI.out.1
        have e2 : M.fl.set i true = M.fl := by
          apply List.ext_getElem?
          intro j
          rw [List.getElem?_set]
          by_cases hj : i = j
          · subst hj
            rw [if_pos rfl, if_pos hi2, ← h', List.getD_eq_getElem?_getD, List.getElem?_eq_getElem hi2]; rfl
          · rw [if_neg hj]
        rw [HP.out, e2]
        rfl
      have hD4 := HF3.out true
      have hC4 := HC3.out true
      rw [e] at hD4
      have HD4 := Lib.hid hD4
      have HC4 := Lib.hid hC4
      have HS4 : Hid ((M.setP i ((M.port i).reset true)).sane) := Lib.hid ⟨Mch.setP_fits HI.out.2.2.fits (Sd.reset_fit (HI.out.2.2.fits.port _ (Mch.port_mem HI.out.1)) _), HI.out.2.2.inn, Mch.setP_lv HI.out.2.2.lv (fun hn => absurd rfl hn)⟩
      clear hD4 hC4 e
      go_wp2_with fail
      refine (choose_ref HD4.out HS4.out).mono ?_
      rintro e w5 ⟨rfl, hD5, hC5⟩
      have HD5 := Lib.hid hD5
      have HC5 := Lib.hid (HC4.out.trans hC5)
      clear hD5 hC5
      go_wp2_with fail
      go_end0
      exact ⟨rfl, HD5.out, HC5.out⟩))
set_option maxRecDepth 100000 in
set_option maxHeartbeats 4000000 in
theorem power_down {w : World} {m pb fb c cf i : Nat} {M : Mch} (hD : DmP w m pb fb c cf M) (hS : M.sane) (hi : i < M.ps.length) (hu : (M.port i).up = true) : Calls Try.prog 12 #[.pointer (some ⟨m, 0, none⟩), .int .i64 (i : Nat), .bool false] w fun e w' => e = .returned (.tuple #[]) ∧ DmP w' m pb fb c cf ({ M.setP i ((M.port i).reset false) with fl := M.fl.set i true } : Mch).choose ∧ Chg (XD m pb fb) w w' := by
  obtain ⟨n, hn⟩ : ∃ n, M.ps.length = n := ⟨_, rfl⟩
  have c1 : w.cell? ⟨m, 1, none⟩ = some (.slice (some ⟨pb, 0, none⟩) n c) := by have := hD.hd.cell 1; rw [hn] at this; exact this
  have S := hD.sd hi
  have s0 := S.c0
  have s1 := S.c1
  rw [hu] at s1
  have dn : decide (n ≤ i) = false := by simp; omega
  have hi' : i < n := by omega
  have h8 := hS.fits.n8
  have hi8 : (i : Int) < 8 := by omega
  have HD := Lib.hid hD
  have HI := Lib.hid (And.intro hi (And.intro hn hS))
  obtain ⟨p, hp⟩ : ∃ p, M.port i = p := ⟨_, rfl⟩
  rw [hp] at s0
  have HP := Lib.hid hp
  clear hi hD hn hu S h8 hp hS
  go_enter Try.func12, Try.ntmps12
  go_upto_region 1 with fail
  clear s1
  go_wp2_with fail
  go_still_tail 16, (by kernel_rfl)
  change wpList _ _ _ _ _ w.drew
  have HD1 : Hid (DmP w.drew m pb fb c cf M) := Lib.hid (HD.out.drewN 1)
  have HC1 : Hid (Chg (XD m pb fb) w w.drew) := Lib.hid (Chg.refl _ w).drew
  clear s0 c1
  generalize w.drew = wd at *
  go_upto_region 2 with (refine wpl_rport (p := p.reset false) rfl 40 39 rfl HD1.out HI.out.1 rfl rfl ?_; intro w2 hD2 hC2; have HD2 : Hid (DmP w2 m pb fb c cf (M.setP i (p.reset false))) := Lib.hid hD2; have HC2 : Hid (Chg (XD m pb fb) w w2) := Lib.hid (HC1.out.trans hC2); clear hD2 hC2)
  have hl2 : (M.setP i (p.reset false)).ps.length = n := by rw [Mch.setP_len]; exact HI.out.2.1
  have c7 : w2.cell? ⟨m, 7, none⟩ = some (.slice (some ⟨fb, 0, none⟩) n cf) := by have := HD2.out.hd.cell 7; rw [hl2] at this; exact this
  have sF := HD2.out.fc (i := i) (by rw [hl2]; exact hi')
  have fF := HD2.out.fzF i
  obtain ⟨x, hx⟩ : ∃ x, (M.setP i (p.reset false)).fl.getD i false = x := ⟨_, rfl⟩
  rw [hx] at sF
  have HF3 : Hid (∀ y, DmP (w2.drew.setCell ⟨fb, i, none⟩ (.bool y)) m pb fb c cf { M.setP i (p.reset false) with fl := M.fl.set i y }) := Lib.hid fun y => (show DmP w2.drew m pb fb c cf (M.setP i (p.reset false)) from HD2.out.drewN 1).putF i y
  have HC3 : Hid (∀ y, Chg (XD m pb fb) w (w2.drew.setCell ⟨fb, i, none⟩ (.bool y))) := Lib.hid fun y => (HC2.out.drew).setCell (p := ⟨fb, i, none⟩) (.inr XD.f) _
  have HX := Lib.hid hx
  clear hx hl2 HD1 HC1
  cases x <;> (
    go_wp2_with fail
    go_still_tail 17, (by kernel_rfl)
    change wpList _ _ _ _ _ w2.drew
    go_upto_region 3 with fail
    clear c7 sF fF
    (
      have e : ({ M.setP i (p.reset false) with fl := M.fl.set i true } : Mch) = { M.setP i ((M.port i).reset false) with fl := M.fl.set i true } := by rw [HP.out]
      have hD4 := HF3.out true
      have hC4 := HC3.out true
      rw [e] at hD4
      have HD4 := Lib.hid hD4
      have HC4 := Lib.hid hC4
      have HS4 : Hid (({ M.setP i ((M.port i).reset false) with fl := M.fl.set i true } : Mch).sane) := Lib.hid (by
        have h1 := Mch.setP_fits HI.out.2.2.fits (i := i) (Sd.reset_fit (HI.out.2.2.fits.port _ (Mch.port_mem HI.out.1)) false)
        exact ⟨Mch.fits_of (M := M.setP i ((M.port i).reset false)) h1 rfl h1.port (by simp [Mch.setP, HI.out.2.2.fits.fl]), HI.out.2.2.inn, Mch.setP_lv HI.out.2.2.lv (fun hn => absurd rfl hn)⟩)
      clear hD4 hC4 e
      go_wp2_with fail
      refine (choose_ref HD4.out HS4.out).mono ?_
      rintro e w5 ⟨rfl, hD5, hC5⟩
      have HD5 := Lib.hid hD5
      have HC5 := Lib.hid (HC4.out.trans hC5)
      clear hD5 hC5
      go_wp2_with fail
      go_end0
      exact ⟨rfl, HD5.out, HC5.out⟩))
/-- Power -/
theorem power_ref {w : World} {m pb fb c cf i : Nat} {M : Mch} (hD : DmP w m pb fb c cf M) (hS : M.sane) (u : Bool) : Calls Try.prog 12 #[.pointer (some ⟨m, 0, none⟩), .int .i64 (i : Nat), .bool u] w fun e w' => e = .returned (.tuple #[]) ∧ DmP w' m pb fb c cf (if u then M.upP i else M.downP i) ∧ Chg (XD m pb fb) w w' := by
  by_cases hi : i < M.ps.length
  · cases u with
    | true =>
      simp only [if_true]
      unfold Mch.upP
      cases hu : (M.port i).up with
      | true => rw [if_neg (by simp)]; exact power_same hD hi hS.fits.n8 hu
      | false => rw [if_pos ⟨hi, rfl⟩]; exact power_up hD hS hi hu
    | false =>
      simp only [Bool.false_eq_true, if_false]
      unfold Mch.downP
      cases hu : (M.port i).up with
      | false => rw [if_neg (by simp)]; exact power_same hD hi hS.fits.n8 hu
      | true => rw [if_pos ⟨hi, rfl⟩]; exact power_down hD hS hi hu
  · have e : (if u then M.upP i else M.downP i) = M := by
      unfold Mch.upP Mch.downP
      cases u
      · simp only [Bool.false_eq_true, if_false]; rw [if_neg (fun h => hi h.1)]
      · simp only [if_true]; rw [if_neg (fun h => hi h.1)]
    rw [e]
    exact power_none hD hi
end Go.Proofs.Ytlpmilaofcakbaa
