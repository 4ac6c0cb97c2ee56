/- Layer 9: the document's Tick. -/
import Derived.Test.YtlpmilaofcakbaaR4
namespace Go.Proofs.Ytlpmilaofcakbaa
open Go.RowKit Go.Shelf
open Go.Sort (grow)
set_option linter.unusedVariables false
set_option linter.unusedSimpArgs false
set_option maxRecDepth 100000

theorem infoRS : (Try.prog.info? 101).map (fun i => (i.zero, i.size, i.bytes)) = some (some (.agg #[.int .u8 0, .int .u64 0, .int .u32 0, .int .u64 0, .int .u8 0, .int .u8 0, .int .u64 0, .int .u8 0, .bool false, .bool false, .bool false, .int .u64 0]), 12, 72) := by kernel_rfl
/-- what a round of the words keeps -/
structure RnS (w0 w1 : World) (m pb fb c cf : Nat) (T : Mch) (k : Nat) (v : Value) (w : World) : Prop where
  row : w.ownsRow w1.heap.size 101 12 v (T.sendTo (fun _ => true) k).length ((T.sendTo (fun _ => true) k).flatMap encS)
  dm : DmP w m pb fb c cf T
  bel : Below w1.heap.size w1 w
  chg : Chg (XD m pb fb) w0 w
theorem RnS.next {w0 w1 w w' : World} {m pb fb c cf k : Nat} {T : Mch} {v : Value} (h : RnS w0 w1 m pb fb c cf T k v w) (hb : Below w.heap.size w w') : RnS w0 w1 m pb fb c cf T k v w' := ⟨own_below h.row hb, h.dm.next hb, h.bel.trans (hb.mono h.bel.size), h.chg.trans (Chg.of_below hb)⟩
set_option maxRecDepth 100000 in
set_option maxHeartbeats 4000000 in
theorem tick_ref {w : World} {m pb fb c cf : Nat} {M : Mch} (hD : DmP w m pb fb c cf M) (hS : M.sane) :
    Calls Try.prog 15 #[.pointer (some ⟨m, 0, none⟩)] w fun e w' => ∃ A c', e = .returned (.slice A M.tickS.length c') ∧ Els 12 encS w' A M.tickS ∧ DmP w' m pb fb c cf M.tick ∧ Chg (XD m pb fb) w w' := by
  obtain ⟨k, hn⟩ : ∃ n, M.ps.length = n := ⟨_, rfl⟩
  have h8 : k ≤ 8 := by rw [← hn]; exact hS.fits.n8
  obtain ⟨i0, hi, hz0, hz1, hz2⟩ := info_partsT infoRS
  have HI := Lib.hid (And.intro hi (And.intro hz0 (And.intro hz1 hz2)))
  have HS := Lib.hid hS
  have HD := Lib.hid hD
  have HN := Lib.hid hn
  have HL := Lib.hid hD.lt
  clear hi hz0 hz1 hz2 hS hD hn
  go_enter Try.func15, Try.ntmps15
  go_wp2_with fail
  go_loopw [3] (fun i_ wr => ∃ j : Nat, j ≤ k ∧ i_ = .int .i64 j ∧ Hid (DmP wr m pb fb c cf (M.mapTo Sd.less j)) ∧ Hid (Chg (XD m pb fb) w wr)) (fun i_ _ => k - (intOf i_).toNat)
  case atStart => exact ⟨0, Nat.zero_le _, rfl, Lib.hid (by rw [Mch.mapTo_zero]; exact HD.out), Lib.hid (Chg.refl _ _)⟩
  case round =>
    obtain ⟨j, hj, rfl, hS, hC⟩ := hrel
    have hjl : (M.mapTo Sd.less j).ps.length = k := by rw [Mch.mapTo_len, HN.out]
    have c1 : wr.cell? ⟨m, 1, none⟩ = some (.slice (some ⟨pb, 0, none⟩) k c) := by have := hS.out.hd.cell 1; rw [hjl] at this; exact this
    by_cases hlt : j < k
    · have hlt' : j < M.ps.length := by rw [HN.out]; exact hlt
      have hk8 : j < 8 := by omega
      have hk8' : (j : Int) < 8 := by omega
      have hltc : j < (M.mapTo Sd.less j).ps.length := by rw [hjl]; exact hlt
      have hpk := Mch.mapTo_port M Sd.less j hlt'
      obtain ⟨p, hp⟩ : ∃ p, M.port j = p := ⟨_, rfl⟩
      rw [hp] at hpk
      have hb : p.fit := by rw [← hp]; exact HS.out.fits.port _ (Mch.port_mem hlt')
      have sk := (hS.out.sd hltc).c13
      rw [hpk] at sk
      have fk := hS.out.fzP (j * 16 + 13)
      have HSU : Hid (M.mapTo Sd.less (j + 1) = (M.mapTo Sd.less j).setP j (Sd.less p)) := Lib.hid (by rw [Mch.mapTo_succ _ _ _ hlt', hp])
      have hv0 := hb.la
      by_cases h0 : 0 < p.la
      · have HP : Hid (DmP (wr.setCell ⟨pb, j * 16 + 13, none⟩ (.int .i64 (p.la - 1))) m pb fb c cf (M.mapTo Sd.less (j + 1))) := Lib.hid (by
          rw [HSU.out]
          refine hS.out.put hltc 13 (by omega) _ _ ?_
          rw [hpk]
          have e : max 0 (p.la - 1) = p.la - 1 := by omega
          unfold Sd.less
          rw [e]
          rfl)
        have HC3 : Hid (Chg (XD m pb fb) w (wr.setCell ⟨pb, j * 16 + 13, none⟩ (.int .i64 (p.la - 1)))) := Lib.hid (hC.out.setCell (p := ⟨pb, j * 16 + 13, none⟩) (.inr XD.p) _)
        have h1 : p.la ≤ 4 := by omega
        clear hp hb hS hC hpk hltc hlt' hjl hv0
        go_wp2_with fail
        go_roundw
        case rel => exact ⟨j + 1, by omega, by go_num, HP, HC3⟩
        case measure => simp [intOf]; omega
      · have HP : Hid (DmP wr m pb fb c cf (M.mapTo Sd.less (j + 1))) := Lib.hid (by
          have e : Sd.less p = p := by
            have e1 : max 0 (p.la - 1) = p.la := by omega
            unfold Sd.less
            rw [e1]
          rw [HSU.out, e, ← hpk]
          rw [Mch.setP_self _ hltc]
          exact hS.out)
        have d0 : decide (0 < p.la) = false := by simpa using h0
        clear hp hb hS hpk hltc hlt' hjl hv0 h0
        go_wp2_with fail
        go_roundw
        case rel => exact ⟨j + 1, by omega, by go_num, HP, hC⟩
        case measure => simp [intOf]; omega
    · obtain rfl : j = k := by omega
      obtain ⟨N, hN⟩ : ∃ N, ({ M with ps := M.ps.map Sd.less } : Mch) = N := ⟨_, rfl⟩
      have HD2 : Hid (DmP wr m pb fb c cf N) := Lib.hid (by
        have := hS.out
        rw [← HN.out, Mch.mapTo_all, hN] at this
        exact this)
      have HNS : Hid (N.sane) := Lib.hid (by
        rw [← hN]
        refine ⟨Mch.map_fits HS.out.fits fun _ => Sd.less_fit, HS.out.inn, ?_⟩
        intro p hp
        obtain ⟨x, hx, rfl⟩ := List.mem_map.1 hp
        intro hne
        have h0 := (HS.out.fits.la x hx).1
        have hne' : max 0 (x.la - 1) ≠ 0 := hne
        exact HS.out.lv x hx (by omega))
      have HNT : Hid (N.choose = M.tick1) := Lib.hid (by rw [← hN]; rfl)
      clear hN hS hlt hjl
      go_wp2_with fail
      refine (choose_ref HD2.out HNS.out).mono ?_
      rintro e w1 ⟨rfl, hD1, hC1⟩
      obtain ⟨T, hT⟩ : ∃ T, M.tick1 = T := ⟨_, rfl⟩
      have hD1' : DmP w1 m pb fb c cf T := by rw [← hT, ← HNT.out]; exact hD1
      have HD1 := Lib.hid hD1'
      have HC1 : Hid (Chg (XD m pb fb) w w1) := Lib.hid (hC.out.trans hC1)
      have HTS : Hid T.sane := Lib.hid (by rw [← hT]; exact Mch.tick1_sane HS.out)
      have HTL : Hid (T.ps.length = j) := Lib.hid (by rw [← hT]; unfold Mch.tick1; rw [Mch.choose_len]; simpa using HN.out)
      have HTT := Lib.hid hT
      have HLW := Lib.hid hD1'.lt
      clear hD1 hD1' hC1 hC hT HD2 HNS HNT c1
      go_wp2_with fail
      go_loopw [4, 5] (fun v i_ wr => ∃ q : Nat, q ≤ j ∧ i_ = .int .i64 q ∧ Hid (RnS w w1 m pb fb c cf T q v wr)) (fun _ i_ _ => j - (intOf i_).toNat)
      case atStart => exact ⟨0, Nat.zero_le _, rfl, Lib.hid ⟨World.ownsRow_nil _ _ _ _, HD1.out, Below.refl _ _, HC1.out⟩⟩
      case round =>
        obtain ⟨q, hq, rfl, hR⟩ := hrel
        have c1 : wr.cell? ⟨m, 1, none⟩ = some (.slice (some ⟨pb, 0, none⟩) j c) := by have := hR.out.dm.hd.cell 1; rw [HTL.out] at this; exact this
        by_cases hlt : q < j
        · have hlt' : q < T.ps.length := by rw [HTL.out]; exact hlt
          have hk8 : q < 8 := by omega
          have hk8' : (q : Int) < 8 := by omega
          have hu8 : IntKind.u8.wrap (q : Int) = (q : Int) := by
            have : q = 0 ∨ q = 1 ∨ q = 2 ∨ q = 3 ∨ q = 4 ∨ q = 5 ∨ q = 6 ∨ q = 7 := by omega
            rcases this with h | h | h | h | h | h | h | h <;> subst h <;> rfl
          obtain ⟨p, hp⟩ : ∃ p, T.port q = p := ⟨_, rfl⟩
          have kL := link_ref (i := q) hR.out.dm hlt' HTS.out.fits.n8
          rw [hp] at kL
          have HT : Hid (T.sendTo (fun _ => true) (q + 1) = T.sendTo (fun _ => true) q ++ (if p.live then [(q, T.word q)] else [])) := Lib.hid (by rw [Mch.sendTo_succ, hp, Bool.and_true])
          have HQ := Lib.hid hlt'
          clear hp hlt'
          cases hl : p.live with
          | false =>
            rw [hl] at kL HT
            have HS3 : Hid (RnS w w1 m pb fb c cf T (q + 1) u4 wr) := Lib.hid (by
              have e := HT.out
              simp only [Bool.false_eq_true, if_false, List.append_nil] at e
              exact ⟨by rw [e]; exact hR.out.row, hR.out.dm, hR.out.bel, hR.out.chg⟩)
            clear hl hR
            go_wp2_with fail
            refine kL.mono ?_
            rintro e w' ⟨rfl, rfl⟩
            clear kL
            go_wp2_with fail
            go_roundw
            case rel => exact ⟨q + 1, by omega, by go_num, HS3⟩
            case measure => simp [intOf]; omega
          | true =>
            rw [hl] at kL HT
            clear hl
            go_wp2_with fail
            refine kL.mono ?_
            rintro e w' ⟨rfl, rfl⟩
            clear kL
            go_wp2_with fail
            refine (word_ref hR.out.dm HTS.out.good HQ.out).mono ?_
            rintro e w2 ⟨rfl, hb⟩
            have HS2 := Lib.hid (hR.out.next hb)
            clear hb hR c1
            obtain ⟨x, hx⟩ : ∃ x, T.word q = x := ⟨_, rfl⟩
            rw [hx] at HT
            rw [hx]
            clear hx
            obtain ⟨r, hr⟩ : ∃ r, (T.sendTo (fun _ => true) q).length = r := ⟨_, rfl⟩
            have HMM := Lib.hid hr
            have h8m : r ≤ 8 := by rw [← hr]; exact Nat.le_trans (Mch.sendTo_len _ _ _) (by omega)
            have HO1 : Hid (w2.ownsRow w1.heap.size 101 12 u4 r ((T.sendTo (fun _ => true) q).flatMap encS)) := Lib.hid (by rw [← hr]; exact HS2.out.row)
            have HCN := Lib.hid (newcells w2 (encS (q, x)) 101)
            clear hr
            go_wp2_with (at_builtin; refine wpl_append_own rfl (.tmp 50) (.tmp 57) 41 rfl w1.heap.size 101 i0 (.agg #[.int .u8 0, .int .u64 0, .int .u32 0, .int .u64 0, .int .u8 0, .int .u8 0, .int .u64 0, .int .u8 0, .bool false, .bool false, .bool false, .int .u64 0]) 12 72 Try.underlying41 HI.out.1 HI.out.2.1 HI.out.2.2.1 HI.out.2.2.2 rfl (by decide) u4 r ((T.sendTo (fun _ => true) q).flatMap encS) (by simp [Act.eval, Act.put]) (HO1.out.alloc _) ⟨w2.heap.size, 0, none⟩ 1 1 (encS (q, x)) (by simp [Act.eval, Act.put]) rfl HCN.out (encS_one _) (by simp only [maxLen]; omega) (by omega) (by have := HS2.out.bel.size; simp; omega) ?_; intro v6 w6 ho6 hg6; have HO6 := Lib.hid ho6; have HG6 := Lib.hid hg6; clear ho6 hg6)
            have HS6 : Hid (RnS w w1 m pb fb c cf T (q + 1) v6 w6) := Lib.hid (by
              have e := HT.out
              simp only [if_true] at e
              have hba := (Below.refl w2.heap.size w2).alloc (Nat.le_refl _) (.cells (encS (q, x)).toArray 101)
              have hS3 := HS2.out.next hba
              have hne : ∀ j, u4.ownBlock = some j → w1.heap.size ≤ j ∧ j < w2.heap.size := fun j ej => HO1.out.lt j ej
              have hl := HLW.out
              have hbg := grown_below (base := w1.heap.size) hS3.bel (Nat.le_refl _) (HO1.out.alloc _) HG6.out
              have hcg : Chg (fun k => u4.ownBlock = some k) (w2.alloc (.cells (encS (q, x)).toArray 101)) w6 := Chg.of_grown HG6.out (fun k ek => .inr ek)
              refine ⟨?_, ?_, hbg, HC1.out.trans (Chg.of_below hbg)⟩
              · rw [e, List.length_append, List.flatMap_append, HMM.out]
                simpa using HO6.out
              · refine hS3.dm.chg hcg ?_ ?_ ?_
                · intro ej; have := (hne _ ej).1; omega
                · intro ej; have := (hne _ ej).1; omega
                · intro ej; have := (hne _ ej).1; omega)
            go_roundw
            case rel => exact ⟨q + 1, by omega, by go_num, HS6⟩
            case measure => simp [intOf]; omega
        · obtain rfl : q = j := by omega
          obtain ⟨A', c', hv, hE, hbs⟩ := own_elsB (k := 12) encS_len hR.out.row
          have e : T.sendTo (fun _ => true) q = M.tickS := by unfold Mch.tickS; rw [HTT.out, ← HTL.out]; rfl
          rw [e] at hv hE
          obtain ⟨L, hL⟩ : ∃ L, M.tickS = L := ⟨_, rfl⟩
          have HLL := Lib.hid hL
          rw [hL] at hv hE
          obtain ⟨l, hl⟩ : ∃ l, L.length = l := ⟨_, rfl⟩
          have HLen := Lib.hid hl
          rw [hl] at hv
          have HNE : Hid (∀ b off, A' = some ⟨b, off, none⟩ → b ≠ pb) := Lib.hid (fun b off e => by have := hbs b off e; have := HLW.out; omega)
          have HE := Lib.hid hE
          have HD2 : Hid (DmP wr m pb fb c cf T) := Lib.hid hR.out.dm
          have HC2 : Hid (Chg (XD m pb fb) w wr) := Lib.hid hR.out.chg
          subst hv
          clear hE hbs e hL hl hR hlt
          go_wp2_with fail
          clear c1
          go_loopw [6] (fun i_ wr => ∃ q' : Nat, q' ≤ q ∧ i_ = .int .i64 q' ∧ Hid (DmP wr m pb fb c cf (T.mapTo Sd.lessS q')) ∧ Hid (Chg (XD m pb fb) w wr) ∧ Hid (Els 12 encS wr A' L)) (fun i_ _ => q - (intOf i_).toNat)
          case atStart => exact ⟨0, Nat.zero_le _, rfl, Lib.hid (by rw [Mch.mapTo_zero]; exact HD2.out), HC2, HE⟩
          case round =>
            obtain ⟨u, hu, rfl, hS, hC, hE⟩ := hrel
            have hjl : (T.mapTo Sd.lessS u).ps.length = q := by rw [Mch.mapTo_len, HTL.out]
            have c1 : wr.cell? ⟨m, 1, none⟩ = some (.slice (some ⟨pb, 0, none⟩) q c) := by have := hS.out.hd.cell 1; rw [hjl] at this; exact this
            by_cases hlt : u < q
            · have hlt' : u < T.ps.length := by rw [HTL.out]; exact hlt
              have hk8 : u < 8 := by omega
              have hk8' : (u : Int) < 8 := by omega
              have hltc : u < (T.mapTo Sd.lessS u).ps.length := by rw [hjl]; exact hlt
              have hpk := Mch.mapTo_port T Sd.lessS u hlt'
              obtain ⟨p, hp⟩ : ∃ p, T.port u = p := ⟨_, rfl⟩
              rw [hp] at hpk
              have hb : p.fit := by rw [← hp]; exact HTS.out.fits.port _ (Mch.port_mem hlt')
              have sk := (hS.out.sd hltc).c15
              rw [hpk] at sk
              have fk := hS.out.fzP (u * 16 + 15)
              have HSU : Hid (T.mapTo Sd.lessS (u + 1) = (T.mapTo Sd.lessS u).setP u (Sd.lessS p)) := Lib.hid (by rw [Mch.mapTo_succ _ _ _ hlt', hp])
              have hv0 := hb.sp
              by_cases h0 : 0 < p.sp
              · have HP : Hid (DmP (wr.setCell ⟨pb, u * 16 + 15, none⟩ (.int .i64 (p.sp - 1))) m pb fb c cf (T.mapTo Sd.lessS (u + 1))) := Lib.hid (by
                  rw [HSU.out]
                  refine hS.out.put hltc 15 (by omega) _ _ ?_
                  rw [hpk]
                  have e : max 0 (p.sp - 1) = p.sp - 1 := by omega
                  unfold Sd.lessS
                  rw [e]
                  rfl)
                have HC3 : Hid (Chg (XD m pb fb) w (wr.setCell ⟨pb, u * 16 + 15, none⟩ (.int .i64 (p.sp - 1)))) := Lib.hid (hC.out.setCell (p := ⟨pb, u * 16 + 15, none⟩) (.inr XD.p) _)
                have HE5 := Lib.hid (els_set hE.out HNE.out (u * 16 + 15) (.int .i64 (p.sp - 1)))
                have h1 : p.sp ≤ 4 := by omega
                clear hp hb hS hC hpk hltc hlt' hjl hv0
                go_wp2_with fail
                go_roundw
                case rel => exact ⟨u + 1, by omega, by go_num, HP, HC3, HE5⟩
                case measure => simp [intOf]; omega
              · have HP : Hid (DmP wr m pb fb c cf (T.mapTo Sd.lessS (u + 1))) := Lib.hid (by
                  have e : Sd.lessS p = p := by
                    have e1 : max 0 (p.sp - 1) = p.sp := by omega
                    unfold Sd.lessS
                    rw [e1]
                  rw [HSU.out, e, ← hpk]
                  rw [Mch.setP_self _ hltc]
                  exact hS.out)
                have d0 : decide (0 < p.sp) = false := by simpa using h0
                clear hp hb hS hpk hltc hlt' hjl hv0 h0
                go_wp2_with fail
                go_roundw
                case rel => exact ⟨u + 1, by omega, by go_num, HP, hC, hE⟩
                case measure => simp [intOf]; omega
            · obtain rfl : u = q := by omega
              have HF : Hid (DmP wr m pb fb c cf M.tick) := Lib.hid (by
                have := hS.out
                rw [← HTL.out, Mch.mapTo_all] at this
                unfold Mch.tick
                rw [HTT.out]
                exact this)
              clear hS hlt hjl
              go_wp2_with fail
              go_ret
              rw [HLL.out, HLen.out]
              exact ⟨A', c', rfl, hE.out, HF.out, hC.out⟩
end Go.Proofs.Ytlpmilaofcakbaa
