/- Layer 9: best. -/
import Derived.Test.YtlpmilaofcakbaaTw3
import Derived.Test.YtlpmilaofcakbaaOwnEls
import Derived.Test.YtlpmilaofcakbaaOwn
import Derived.BigRegion
namespace Go.Proofs.Ytlpmilaofcakbaa
open Go.RowKit Go.Shelf
open Go.Sort (grow)
set_option linter.unusedVariables false
set_option linter.unusedSimpArgs false
set_option maxRecDepth 100000

theorem infoPt : (Try.prog.info? 124).map (fun i => (i.zero, i.size, i.bytes)) = some (some (.agg #[.int .u64 0, .int .u32 0, .int .u64 0, .int .u8 0, .int .u8 0]), 5, 40) := by kernel_rfl
theorem encPt_one (x : Pa) : ∀ u ∈ encP x, u.oneCell' = true := by
  intro u hu
  simp only [encP, List.mem_cons, List.mem_nil_iff, or_false] at hu
  rcases hu with rfl | rfl | rfl | rfl | rfl <;> rfl
theorem info_partsT {P : Program} {t : TypeId} {z : Value} {n m : Nat} (h : (P.info? t).map (fun i => (i.zero, i.size, i.bytes)) = some (some z, n, m)) : ∃ i, P.info? t = some i ∧ i.zero = some z ∧ i.size = n ∧ i.bytes = m := by
  cases hi : P.info? t with
  | none => rw [hi] at h; cases h
  | some i => rw [hi] at h; simp only [Option.map_some, Option.some.injEq, Prod.mk.injEq] at h; exact ⟨i, rfl, h.1, h.2.1, h.2.2⟩
theorem pathsFrom_snoc (id : Int) (l : List Sd) (j : Nat) (p : Sd) : pathsFrom id j (l ++ [p]) = pathsFrom id j l ++ (if p.okFar id = true then [⟨farV p.b.v p.cost, (j + l.length : Nat)⟩] else []) := by
  induction l generalizing j with
  | nil => simp [pathsFrom]
  | cons x l ih =>
    have e : j + 1 + l.length = j + (l.length + 1) := by omega
    have h1 := ih (j + 1)
    rw [e] at h1
    have e1 : pathsFrom id j (x :: l ++ [p]) = if x.okFar id then ⟨farV x.b.v x.cost, j⟩ :: pathsFrom id (j + 1) (l ++ [p]) else pathsFrom id (j + 1) (l ++ [p]) := rfl
    have e2 : pathsFrom id j (x :: l) = if x.okFar id then ⟨farV x.b.v x.cost, j⟩ :: pathsFrom id (j + 1) l else pathsFrom id (j + 1) l := rfl
    have e3 : (x :: l).length = l.length + 1 := rfl
    rw [e1, e2, h1, e3]
    split <;> rfl
theorem Below.drewN' {B : Nat} {w w' : World} (h : Below B w w') (n : Nat) : Below B w (w'.drewN n) := ⟨h.os, h.tape, h.output, h.size, h.block⟩
theorem put3 {w : World} {b : Nat} {t : TypeId} {a0 a1 a2 : Value} (h : Blk w b t #[a0, a1, a2]) (x y z : Value) : Blk (((w.setCell ⟨b, 0, none⟩ x).setCell ⟨b, 1, none⟩ y).setCell ⟨b, 2, none⟩ z) b t #[x, y, z] := by
  simpa using Blk.put (Blk.put (Blk.put h 0 x) 1 y) 2 z
theorem below3 {B : Nat} {w0 w : World} (h : Below B w0 w) (b : Nat) (hb : B ≤ b) (x y z : Value) : Below B w0 (((w.setCell ⟨b, 0, none⟩ x).setCell ⟨b, 1, none⟩ y).setCell ⟨b, 2, none⟩ z) :=
  ((h.setCell hb _).setCell hb _).setCell hb _
/-- its numbers fit -/
structure Mch.fits (M : Mch) : Prop where
  n8 : M.ps.length ≤ 8
  vc : ∀ p ∈ M.ps, 0 ≤ p.b.v.c ∧ p.b.v.c ≤ 4294967295
  cost : ∀ p ∈ M.ps, 0 ≤ p.cost ∧ p.cost ≤ 65535
  hops : ∀ p ∈ M.ps, 0 ≤ p.b.h ∧ p.b.h ≤ 255
  la : ∀ p ∈ M.ps, 0 ≤ p.la ∧ p.la ≤ 3
  sp : ∀ p ∈ M.ps, 0 ≤ p.sp ∧ p.sp ≤ 4
  fl : M.fl.length = M.ps.length
theorem Mch.port_mem {M : Mch} {i : Nat} (hi : i < M.ps.length) : M.port i ∈ M.ps := by
  unfold Mch.port
  rw [List.getD_eq_getElem?_getD, List.getElem?_eq_getElem hi]
  exact List.getElem_mem hi
theorem Mch.port_at {M : Mch} {i : Nat} (hi : i < M.ps.length) : M.ps[i] = M.port i := by
  unfold Mch.port
  rw [List.getD_eq_getElem?_getD, List.getElem?_eq_getElem hi]
  rfl
theorem paths_len (id : Int) (l : List Sd) (j : Nat) : (pathsFrom id j l).length ≤ l.length := by
  induction l generalizing j with
  | nil => simp [pathsFrom]
  | cons x l ih =>
    have := ih (j + 1)
    simp only [pathsFrom, List.length_cons]
    split <;> (try simp only [List.length_cons]) <;> omega
/-- a path is of a port -/
theorem paths_mem (id : Int) (l : List Sd) (j : Nat) (x : Pa) (h : x ∈ pathsFrom id j l) : ∃ i, i < l.length ∧ x.i = (j + i : Nat) ∧ (l.getD i Sd.zero).okFar id = true ∧ x.v = farV (l.getD i Sd.zero).b.v (l.getD i Sd.zero).cost := by
  induction l generalizing j with
  | nil => simp [pathsFrom] at h
  | cons p l ih =>
    have key : x ∈ pathsFrom id (j + 1) l → ∃ i, i < (p :: l).length ∧ x.i = (j + i : Nat) ∧ ((p :: l).getD i Sd.zero).okFar id = true ∧ x.v = farV ((p :: l).getD i Sd.zero).b.v ((p :: l).getD i Sd.zero).cost := fun h => by
      obtain ⟨i, hi, hx, ho, hv⟩ := ih (j + 1) h
      exact ⟨i + 1, by simp; omega, by rw [hx]; congr 1; omega, by simpa using ho, by simpa using hv⟩
    simp only [pathsFrom] at h
    split at h
    · rename_i ho
      rcases List.mem_cons.1 h with rfl | h
      · exact ⟨0, by simp, by simp, by simpa using ho, by simp⟩
      · exact key h
    · exact key h
theorem minP_mem : ∀ (l : List Pa), l ≠ [] → minP l ∈ l := by
  have h : ∀ (l : List Pa) (x : Pa), l.foldl stepP x = x ∨ l.foldl stepP x ∈ l := by
    intro l
    induction l with
    | nil => intro x; exact .inl rfl
    | cons y l ih =>
      intro x
      rw [List.foldl_cons]
      rcases ih (stepP x y) with e | e
      · rw [e]
        unfold stepP
        split
        · exact .inr (List.mem_cons_self ..)
        · exact .inl rfl
      · exact .inr (List.mem_cons_of_mem _ e)
  intro l hl
  cases l with
  | nil => exact absurd rfl hl
  | cons x l =>
    rcases h l x with e | e
    · show l.foldl stepP x ∈ _
      rw [e]; exact List.mem_cons_self ..
    · exact List.mem_cons_of_mem _ e
/-- the least path is of a port -/
theorem Mch.best_port {M : Mch} (h : M.paths ≠ []) : ∃ i : Nat, i < M.ps.length ∧ (minP M.paths).i = i ∧ (M.port i).okFar M.id = true ∧ (minP M.paths).v = farV (M.port i).b.v (M.port i).cost := by
  obtain ⟨i, hi, hx, ho, hv⟩ := paths_mem M.id M.ps 0 _ (minP_mem _ h)
  exact ⟨i, hi, by unfold Mch.paths; rw [hx]; simp, ho, hv⟩
theorem own_mono {w : World} {base : Nat} {e : TypeId} {size n : Nat} {v : Value} {xs : List Value} (h : w.ownsRow (base + 1) e size v n xs) : w.ownsRow base e size v n xs := by
  refine ⟨h.1, ?_⟩
  rcases h.2 with hn | ⟨g, cap, cur, hv, hg, rest⟩
  · exact .inl hn
  · exact .inr ⟨g, cap, cur, hv, by omega, rest⟩
/-- what a round of best keeps -/
structure BeS (w0 w : World) (g : Nat) (M : Mch) (k : Nat) (v : Value) : Prop where
  row : w.ownsRow (w0.heap.size + 1) 124 5 v (pathsFrom M.id 0 (M.ps.take k)).length ((pathsFrom M.id 0 (M.ps.take k)).flatMap encP)
  res : Blk w w0.heap.size 88 #[.int .u64 0, .int .u32 0, .int .u8 0]
  mac : MaP w g M
  bel : Below w0.heap.size w0 w
section
variable {w0 w w' : World} {g k : Nat} {M : Mch} {v : Value}
theorem BeS.next (h : BeS w0 w g M k v) (hb : Below w.heap.size w w') : BeS w0 w' g M k v := ⟨own_below h.row hb, h.res.below hb h.res.lt, h.mac.next hb, h.bel.trans (hb.mono h.bel.size)⟩
theorem BeS.drew (h : BeS w0 w g M k v) : BeS w0 w.drew g M k v := h.next (Below.refl _ _).drew
end
set_option maxRecDepth 100000 in
set_option maxHeartbeats 4000000 in
theorem best_any {w : World} {g : Nat} {M : Mch} (hM : MaP w g M) (hF : M.fits) :
    Calls Try.prog 33 #[.pointer (some ⟨g, 0, none⟩)] w fun e w' => e = .returned (.tuple #[.agg #[.int .u64 M.bRoot, .int .u32 M.bCost, .int .u8 M.bIn], .int .u8 M.bHops]) ∧ Below w.heap.size w w' := by
  obtain ⟨n, hn⟩ : ∃ n, M.ps.length = n := ⟨_, rfl⟩
  have h8 : n ≤ 8 := by rw [← hn]; exact hF.n8
  obtain ⟨i0, hi, hz0, hz1, hz2⟩ := info_partsT infoPt
  have HI := Lib.hid (And.intro hi (And.intro hz0 (And.intro hz1 hz2)))
  have HF := Lib.hid hF
  have HM := Lib.hid hM
  have HN := Lib.hid hn
  have c1 := (hM.hd hF.n8).c1
  rw [hn] at c1
  have hbk : Hid (g < w.heap.size) := Lib.hid hM.lt
  have c1' : (w.alloc (.cells #[.int .u64 0, .int .u32 0, .int .u8 0] 88)).cell? ⟨g, 1, none⟩ = some (.int .u8 (n : Nat)) := by
    rw [← c1]
    exact ((Below.refl _ w).alloc (Nat.le_refl _) _).cell (p := ⟨g, 1, none⟩) hM.lt
  clear hi hz0 hz1 hz2 hF hM hn c1
  go_enter Try.func33, Try.ntmps33
  go_wp2_with fail
  clear c1'
  go_loopw [4, 14] (fun v i wr => ∃ k : Nat, k ≤ n ∧ i = .int .u8 k ∧ Hid (BeS w wr g M k v)) (fun _ i _ => n - (intOf i).toNat)
  case atStart =>
    have hb := (Below.refl w.heap.size w).alloc (Nat.le_refl _) (.cells #[.int .u64 0, .int .u32 0, .int .u8 0] 88)
    exact ⟨0, Nat.zero_le _, rfl, Lib.hid ⟨World.ownsRow_nil _ _ _ _, Blk.new w _ _, HM.out.next hb, hb⟩⟩
  case round =>
    obtain ⟨k, hk, rfl, hS⟩ := hrel
    by_cases hlt : k < n
    · have hlt' : k < M.ps.length := by rw [HN.out]; exact hlt
      obtain ⟨p, hp⟩ : ∃ p, M.port k = p := ⟨_, rfl⟩
      have HP := Lib.hid hp
      obtain ⟨y, hy⟩ : ∃ y, (if p.okFar M.id = true then farV p.b.v p.cost else Ve.zero) = y := ⟨_, rfl⟩
      obtain ⟨q, hq⟩ : ∃ q, p.okFar M.id = q := ⟨_, rfl⟩
      have hmem : p ∈ M.ps := by rw [← hp]; exact Mch.port_mem hlt'
      have kT := fun (W : World) (S : SdC W g (2 + k * 16) p) => tfar_any (id := M.id) S (HF.out.vc p hmem).1 (HF.out.vc p hmem).2 (HF.out.cost p hmem).1 (by have := (HF.out.cost p hmem).2; omega)
      rw [hy, hq] at kT
      have HKT := Lib.hid kT
      have HSD : Hid (SdC wr g (2 + k * 16) p) := Lib.hid (by rw [← hp]; exact hS.out.mac.sd (by rw [HN.out]; exact h8) hlt')
      have HQ := Lib.hid (And.intro hy hq)
      have c0 := (hS.out.mac.hd (by rw [HN.out]; exact h8)).c0
      have c0a : (wr.alloc (.cells #[.int .u64 0, .int .u32 0, .int .u64 0, .int .u8 0] 52)).cell? ⟨g, 0, none⟩ = some (.int .u64 M.id) := (Below.cell ((Below.refl _ wr).alloc (Nat.le_refl _) _) (p := ⟨g, 0, none⟩) hS.out.mac.lt).trans c0
      have hk8 : k < 8 := by omega
      have hk8' : (k : Int) < 8 := by omega
      have HSd : Hid (BeS w wr g M k u4) := Lib.hid hS.out
      clear hp hmem kT hy hq
      go_upto_region 5 with fail
      go_cut [6, 7] (fun s6 s7 wx => ∃ b, s6 = .pointer (some ⟨b, 0, none⟩) ∧ s7 = .bool q ∧ Hid (BeS w wx g M k u4) ∧ Hid (Blk wx b 52 #[.int .u64 y.r, .int .u32 y.c, .int .u64 y.b, .int .u8 y.p]))
      case first =>
        go_wp2_with fail
        go_region_law (first
          | (go_simp; go_at_call 55; refine (HKT.out _ (HSD.out.next (by repeat (first | exact Below.refl _ _ | (refine Below.drew ?_) | (refine Below.alloc ?_ (by simp) _))))).mono ?_; rintro e w2 ⟨rfl, hbl⟩; have HBl : Hid (Below wr.heap.size wr w2) := Lib.hid (Below.trans (by repeat (first | exact Below.refl _ _ | (refine Below.drew ?_) | (refine Below.alloc ?_ (by simp) _))) (hbl.mono (by simp))); (first | (have HBn := Lib.hid (Blk.below (show Blk (wr.alloc (.cells #[.int .u64 0, .int .u32 0, .int .u64 0, .int .u8 0] 52)).drew wr.heap.size 52 #[.int .u64 0, .int .u32 0, .int .u64 0, .int .u8 0] from Blk.new _ _ _) hbl (by simp)); have b0 := Blk.cell HBn.out 0; have b1 := Blk.cell HBn.out 1; have b2 := Blk.cell HBn.out 2; have b3 := Blk.cell HBn.out 3; have bf := Blk.frozen HBn.out) | skip); clear hbl)
          | fail "no")
        all_goals (
          go_wp2_with fail
          go_meet
          first
            | exact ⟨_, rfl, rfl, Lib.hid (HSd.out.next (HBl.out.alloc HBl.out.size _)), Lib.hid (Blk.new _ _ _)⟩
            | exact ⟨_, rfl, rfl, Lib.hid (HSd.out.next (below4 HBl.out _ (Nat.le_refl _) y)), Lib.hid (put4 HBn.out y)⟩)
      obtain ⟨b, rfl, rfl, hS2, hB2⟩ := hcut
      clear hS c0 c0a HSD HKT HSd
      have HT : Hid (pathsFrom M.id 0 (M.ps.take (k + 1)) = pathsFrom M.id 0 (M.ps.take k) ++ (if q = true then [⟨y, (k : Nat)⟩] else [])) := Lib.hid (by
        rw [List.take_succ_eq_append_getElem hlt', Mch.port_at hlt', HP.out, pathsFrom_snoc, HQ.out.2]
        have e : (M.ps.take k).length = k := by rw [List.length_take]; omega
        rw [e]
        have e2 : 0 + k = k := Nat.zero_add k
        rw [e2]
        cases q with
        | false => rfl
        | true =>
          have := HQ.out.1
          rw [HQ.out.2] at this
          simp only [if_true] at this
          rw [this])
      have HLE : Hid ((pathsFrom M.id 0 (M.ps.take k)).length ≤ 8) := Lib.hid (Nat.le_trans (paths_len _ _ _) (by rw [List.length_take]; omega))
      clear hlt'
      cases q with
      | false =>
        have HS3 : Hid (BeS w wc g M (k + 1) u4) := Lib.hid (by
          have e := HT.out
          simp only [Bool.false_eq_true, if_false, List.append_nil] at e
          exact ⟨by rw [e]; exact hS2.out.row, hS2.out.res, hS2.out.mac, hS2.out.bel⟩)
        clear hS2 hB2
        go_wp2
        go_roundw
        case rel => exact ⟨k + 1, by omega, by go_num, HS3⟩
        case measure => simp [intOf]; omega
      | true =>
        have b0 := hB2.out.cell 0
        have b1 := hB2.out.cell 1
        have b2 := hB2.out.cell 2
        have b3 := hB2.out.cell 3
        obtain ⟨m, hm⟩ : ∃ m, (pathsFrom M.id 0 (M.ps.take k)).length = m := ⟨_, rfl⟩
        have HMM := Lib.hid hm
        have h8m : m ≤ 8 := by rw [← hm]; exact HLE.out
        have HO1 : Hid (wc.ownsRow (w.heap.size + 1) 124 5 u4 m ((pathsFrom M.id 0 (M.ps.take k)).flatMap encP)) := Lib.hid (by rw [← hm]; exact hS2.out.row)
        have HCN := Lib.hid (newcells wc (encP ⟨y, (k : Nat)⟩) 124)
        have HB1 := Lib.hid hS2.out.bel
        have HSz : Hid (w.heap.size + 1 ≤ wc.heap.size) := Lib.hid (by have := hS2.out.res.lt; omega)
        clear hm
        go_wp2_with (at_builtin; refine wpl_append_own rfl (.tmp 31) (.tmp 35) 120 rfl (w.heap.size + 1) 124 i0 (.agg #[.int .u64 0, .int .u32 0, .int .u64 0, .int .u8 0, .int .u8 0]) 5 40 Try.underlying120 HI.out.1 HI.out.2.1 HI.out.2.2.1 HI.out.2.2.2 rfl (by decide) u4 m ((pathsFrom M.id 0 (M.ps.take k)).flatMap encP) (by simp [Act.eval, Act.put]) (HO1.out.alloc _) ⟨wc.heap.size, 0, none⟩ 1 1 (encP ⟨y, (k : Nat)⟩) (by simp [Act.eval, Act.put]) rfl HCN.out (encPt_one _) (by simp only [maxLen]; omega) (by omega) (by have := HSz.out; simp; omega) ?_; intro v6 w6 ho6 hg6; have HO6 := Lib.hid ho6; have HG6 := Lib.hid hg6; clear ho6 hg6)
        have HS6 : Hid (BeS w w6 g M (k + 1) v6) := Lib.hid (by
          have e := HT.out
          simp only [if_true] at e
          have hba := (Below.refl wc.heap.size wc).alloc (Nat.le_refl _) (.cells (encP ⟨y, (k : Nat)⟩).toArray 124)
          have hS3 := hS2.out.next hba
          have hne : ∀ j, u4.ownBlock = some j → w.heap.size + 1 ≤ j ∧ j < wc.heap.size := fun j ej => HO1.out.lt j ej
          refine ⟨?_, ?_, ?_, ?_⟩
          · rw [e, List.length_append, List.flatMap_append, HMM.out]
            simpa using HO6.out
          · exact (HG6.out.block _ hS3.res.lt (fun ej => by have := (hne _ ej.symm).1; omega)).trans hS3.res
          · exact (HG6.out.block _ hS3.mac.lt (fun ej => by have := (hne _ ej.symm).1; have := hbk.out; omega)).trans hS3.mac
          · exact grown_below (base := w.heap.size) hS3.bel (Nat.le_refl _) (own_mono (HO1.out.alloc _)) HG6.out)
        go_roundw
        case rel => exact ⟨k + 1, by omega, by go_num, HS6⟩
        case measure => simp [intOf]; omega
    · obtain rfl : k = n := by omega
      have hl : M.ps.take k = M.ps := by rw [← HN.out, List.take_length]
      obtain ⟨A', c', hv, hE, _⟩ := own_elsB (k := 5) (enc := encP) (fun _ => rfl) hS.out.row
      rw [hl] at hv hE
      have hle : M.paths.length ≤ 8 := Nat.le_trans (paths_len _ _ _) (by rw [HN.out]; exact h8)
      have kL := fun (W' : World) (h : Els 5 encP W' A' M.paths) => least_any W' A' c' M.paths (by omega) h
      obtain ⟨x, hx⟩ : ∃ x, minP M.paths = x := ⟨_, rfl⟩
      obtain ⟨q, hq⟩ : ∃ q, (!M.paths.isEmpty) = q := ⟨_, rfl⟩
      rw [hx, hq] at kL
      have HX := Lib.hid (And.intro hx hq)
      have HE : Hid (Els 5 encP wr A' M.paths) := Lib.hid hE
      have HKL := Lib.hid kL
      obtain ⟨r, hr⟩ : ∃ r, (pathsFrom M.id 0 M.ps).length = r := ⟨_, rfl⟩
      have hv' : u4 = .slice A' r c' := by rw [hv, hr]
      have HKL2 : Hid (∀ W', Els 5 encP W' A' M.paths → Calls Try.prog 56 #[.slice A' r c'] W' fun e w' => e = .returned (.tuple #[PV x, .bool q]) ∧ Below W'.heap.size W' w') := Lib.hid (by rw [← hr]; exact HKL.out)
      have HR : Hid (Blk wr w.heap.size 88 #[.int .u64 0, .int .u32 0, .int .u8 0] ∧ MaP wr g M ∧ Below w.heap.size w wr) := Lib.hid ⟨hS.out.res, hS.out.mac, hS.out.bel⟩
      subst hv'
      clear hv hx hq kL hE HKL hr hle hl hS hlt
      go_wp2_with fail
      refine (HKL2.out _ HE.out).mono ?_
      rintro e w2 ⟨rfl, hbl⟩
      have HR2 : Hid (Blk w2 w.heap.size 88 #[.int .u64 0, .int .u32 0, .int .u8 0] ∧ MaP w2 g M ∧ Below w.heap.size w w2) := Lib.hid ⟨HR.out.1.below hbl HR.out.1.lt, HR.out.2.1.next hbl, HR.out.2.2.trans (hbl.mono HR.out.2.2.size)⟩
      clear hbl HR HE HKL2
      go_upto_region 10 with fail
      obtain ⟨w3, hw3⟩ : ∃ w3, w2.alloc (.cells #[.int .u64 x.v.r, .int .u32 x.v.c, .int .u64 x.v.b, .int .u8 x.v.p, .int .u8 x.i] 124) = w3 := ⟨_, rfl⟩
      obtain ⟨b3, hb3⟩ : ∃ b3, w2.heap.size = b3 := ⟨_, rfl⟩
      have HR3 : Hid (Blk w3 w.heap.size 88 #[.int .u64 0, .int .u32 0, .int .u8 0] ∧ MaP w3 g M ∧ Below w.heap.size w w3) := Lib.hid (by
        have hbl := (Below.refl w2.heap.size w2).alloc (Nat.le_refl _) (.cells #[.int .u64 x.v.r, .int .u32 x.v.c, .int .u64 x.v.b, .int .u8 x.v.p, .int .u8 x.i] 124)
        rw [hw3] at hbl
        exact ⟨HR2.out.1.below hbl HR2.out.1.lt, HR2.out.2.1.next hbl, HR2.out.2.2.trans (hbl.mono HR2.out.2.2.size)⟩)
      have HP3 : Hid (PA w3 b3 x) := Lib.hid (by rw [← hw3, ← hb3]; exact PA.new w2 x)
      have HWB := Lib.hid (And.intro hw3 hb3)
      clear hw3 hb3
      rw [HWB.out.1, HWB.out.2]
      clear HR2 HWB
      have hend : M.fit = false → M.bRoot = M.id ∧ M.bCost = 0 ∧ M.bIn = 8 ∧ M.bHops = 0 := fun h => by unfold Mch.bRoot Mch.bCost Mch.bIn Mch.bHops; rw [h]; exact ⟨rfl, rfl, rfl, rfl⟩
      have HEND := Lib.hid hend
      clear hend
      have m0 := (HR3.out.2.1.hd HF.out.n8).c0
      obtain ⟨p0, p1, p2, p3, p4⟩ := HP3.out.cells
      have hfit : M.fit = (q && decide (x.v.r < M.id)) := by unfold Mch.fit; rw [HX.out.1, HX.out.2]
      have HFIT := Lib.hid hfit
      clear hfit
      cases q with
      | false =>
        have HNO := Lib.hid (HEND.out (by rw [HFIT.out]; rfl))
        go_wp2_with fail
        go_quiet (fail)
        clear p0 p1 p2 p3 p4
        go_wp2_with (refine wpList_store_row rfl 88 (.tmp 2) (.tmp 59) rfl w.heap.size rfl #[.int .u64 M.id, .int .u32 0, .int .u8 8] rfl 88 _ (Blk.drewN HR3.out.1 _) (by kernel_rfl) rfl (by kernel_rfl) ?_)
        exact bodyPost_ret (v := .tuple #[.agg #[.int .u64 M.id, .int .u32 0, .int .u8 8], .int .u8 0]) (results_cell_slot (p := 2) (q := 3) (by kernel_rfl) _ _ w.heap.size 88 _ _ rfl (Blk.row (Blk.drewN HR3.out.1 _) _) Try.underlying88 rfl (by kernel_rfl) _ rfl) rfl ⟨by rw [HNO.out.1, HNO.out.2.1, HNO.out.2.2.1, HNO.out.2.2.2], below_row (Below.drewN' HR3.out.2.2 _) (Nat.le_refl _) _⟩
      | true =>
        by_cases hlt : x.v.r < M.id
        · have d1 : decide (M.id ≤ x.v.r) = false := by simp; omega
          obtain ⟨i, hi, hxi, hok, hxv⟩ := Mch.best_port (M := M) (by intro e; have := HX.out.2; rw [e] at this; cases this)
          rw [HX.out.1] at hxi hxv
          have hi8 : i < 8 := by have := HN.out; omega
          have hi8' : (i : Int) < 8 := by omega
          have s6 := (HR3.out.2.1.sd HF.out.n8 hi).c6
          rw [hxi] at p4
          have HXI := Lib.hid (And.intro hxi hxv)
          have hft : M.fit = true := by rw [HFIT.out]; simpa using hlt
          have hh := HF.out.hops _ (Mch.port_mem hi)
          have hh2 : (M.port i).b.h < 20 := by
            unfold Sd.okFar at hok
            simp only [Bool.and_eq_true, Bool.not_eq_true', Bool.or_eq_false_iff, decide_eq_false_iff_not] at hok
            omega
          have HYES : Hid (M.bRoot = x.v.r ∧ M.bCost = x.v.c ∧ M.bIn = (i : Int) ∧ M.bHops = ((M.port i).b.h + 1) % 256) := Lib.hid (by
            unfold Mch.bRoot Mch.bCost Mch.bIn Mch.bHops
            rw [hft, HX.out.1]
            simp only [if_true]
            refine ⟨trivial, trivial, hxi, ?_⟩
            rw [hxi]
            simp only [Int.toNat_natCast]
            omega)
          clear hxi hxv hok hlt hft hh hh2
          go_wp2_with fail
          go_quiet (fail)
          have q0 : (w3.drewN nq).cell? ⟨b3, 0, none⟩ = some (.int .u64 x.v.r) := p0
          have q1 : (w3.drewN nq).cell? ⟨b3, 1, none⟩ = some (.int .u32 x.v.c) := p1
          have q4 : (w3.drewN nq).cell? ⟨b3, 4, none⟩ = some (.int .u8 (i : Nat)) := p4
          have q6 : (w3.drewN nq).cell? ⟨g, 2 + i * 16 + 6, none⟩ = some (.int .u8 (M.port i).b.h) := s6
          have HR4 : Hid (Blk (w3.drewN nq) w.heap.size 88 #[.int .u64 0, .int .u32 0, .int .u8 0] ∧ Below w.heap.size w (w3.drewN nq)) := Lib.hid ⟨Blk.drewN HR3.out.1 _, Below.drewN' HR3.out.2.2 _⟩
          clear m0 p0 p1 p2 p3 p4 s6 HR3 HP3 HEND
          generalize w3.drewN nq = w4 at *
          have r0 := HR4.out.1.cell 0
          have r1 := HR4.out.1.cell 1
          have r2 := HR4.out.1.cell 2
          have rf := HR4.out.1.frozen
          go_wp2_with fail
          go_region
          have HR5 := Lib.hid (put3 HR4.out.1 (.int .u64 x.v.r) (.int .u32 x.v.c) (.int .u8 (i : Nat)))
          have HB5 := Lib.hid (below3 HR4.out.2 w.heap.size (Nat.le_refl _) (.int .u64 x.v.r) (.int .u32 x.v.c) (.int .u8 (i : Nat)))
          go_wp2_with fail
          exact bodyPost_ret (v := .tuple #[.agg #[.int .u64 x.v.r, .int .u32 x.v.c, .int .u8 (i : Nat)], .int .u8 (((M.port i).b.h + 1) % 256)]) (results_cell_slot (p := 2) (q := 3) (by kernel_rfl) _ _ w.heap.size 88 _ _ rfl (Blk.drew HR5.out) Try.underlying88 rfl (by kernel_rfl) _ rfl) rfl ⟨by rw [HYES.out.1, HYES.out.2.1, HYES.out.2.2.1, HYES.out.2.2.2], HB5.out.drew⟩
        · have d1 : decide (M.id ≤ x.v.r) = true := by simp; omega
          have HNO := Lib.hid (HEND.out (by rw [HFIT.out]; simpa using hlt))
          clear hlt
          go_wp2_with fail
          go_quiet (fail)
          clear p0 p1 p2 p3 p4
          go_wp2_with (refine wpList_store_row rfl 88 (.tmp 2) (.tmp 59) rfl w.heap.size rfl #[.int .u64 M.id, .int .u32 0, .int .u8 8] rfl 88 _ (Blk.drewN HR3.out.1 _) (by kernel_rfl) rfl (by kernel_rfl) ?_)
          exact bodyPost_ret (v := .tuple #[.agg #[.int .u64 M.id, .int .u32 0, .int .u8 8], .int .u8 0]) (results_cell_slot (p := 2) (q := 3) (by kernel_rfl) _ _ w.heap.size 88 _ _ rfl (Blk.row (Blk.drewN HR3.out.1 _) _) Try.underlying88 rfl (by kernel_rfl) _ rfl) rfl ⟨by rw [HNO.out.1, HNO.out.2.1, HNO.out.2.2.1, HNO.out.2.2.2], below_row (Below.drewN' HR3.out.2.2 _) (Nat.le_refl _) _⟩
end Go.Proofs.Ytlpmilaofcakbaa
