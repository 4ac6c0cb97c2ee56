/- Layer 16: the document's AddMep. -/
import Derived.Test.YtfdiolfelecccaaZzAm16
import Derived.Test.YtfdiolfelecccaaZzDe16
namespace Go.Proofs.Ytfdiolfelecccaa
open Go.RowKit
set_option linter.unusedVariables false
set_option linter.unusedSimpArgs false
set_option maxRecDepth 100000

theorem clash_yes : ∀ a b c d e f : Bool, ((a && b) || (c && (d && (e && f)))) = true → (a = true ∧ b = true) ∨ ((a = false ∨ (a = true ∧ b = false)) ∧ c = true ∧ d = true ∧ e = true ∧ f = true) := by decide
theorem clash_not : ∀ a b c d e f : Bool, ((a && b) || (c && (d && (e && f)))) = false → (a = false ∨ (a = true ∧ b = false)) ∧ (c = false ∨ (c = true ∧ (d = false ∨ (d = true ∧ (e = false ∨ (e = true ∧ f = false)))))) := by decide
theorem u8_eqB (a b : UInt8) : ((a.toNat : Int) == (b.toNat : Int)) = (a == b) := by
  by_cases h : a = b
  · rw [h]; simp
  · rw [u8_ne h]; simp [h]
theorem u16_eqB (a b : UInt16) : ((a.toNat : Int) == (b.toNat : Int)) = (a == b) := by
  by_cases h : a = b
  · rw [h]; simp
  · rw [u16_ne h]; simp [h]
theorem take_has16 {l : List UInt16} {k : Nat} {c : UInt16} (x : UInt16) (hc : l[k]? = some c) : (l.take (k + 1)).contains x = ((l.take k).contains x || (c == x)) := by
  obtain ⟨hk', he⟩ := List.getElem?_eq_some_iff.1 hc
  rw [List.take_succ_eq_append_getElem hk', he, List.contains_eq_any_beq, List.contains_eq_any_beq, List.any_append, Bool.beq_comm (a := c)]
  simp
set_option maxHeartbeats 16000000 in
theorem refadde16_any (T : Tb) (X : TbX) (m : Mp) (w : World) (hT : TbD w T X) (hI : TbInv T) (ha : T.A.length ≤ 1000) (he : T.E.length ≤ 1000) (hm : T.M.length ≤ 1000) :
    Calls Try.prog 24 #[.agg (TbC T X), .agg #[.int .i64 m.a, .int .u16 m.m.toNat, .int .u8 m.p.toNat, .bool m.u]] w fun e w' => ∃ X', e = .returned (.tuple #[.agg (TbC (T.addE m).1 X'), .int .i64 ((T.addE m).2 : Nat)]) ∧ TbD w' (T.addE m).1 X' ∧ Below w.heap.size w w' := by
  have HI := Lib.hid hI
  have HT := Lib.hid hT
  show Calls _ _ #[.agg #[.int .i64 (T.n : Int), .slice X.A T.A.length X.ca, .slice X.E T.E.length X.ce, .slice X.M T.M.length X.cm], _] _ _
  obtain ⟨nE, hnE⟩ : ∃ n, T.E.length = n := ⟨_, rfl⟩
  obtain ⟨nM, hnM⟩ : ∃ n, T.M.length = n := ⟨_, rfl⟩
  obtain ⟨nA, hnA⟩ : ∃ n, T.A.length = n := ⟨_, rfl⟩
  have HNS := Lib.hid (And.intro hnA (And.intro hnE hnM))
  rw [hnA, hnE, hnM]
  rw [hnE] at he
  rw [hnA] at ha
  rw [hnM] at hm
  clear hnE hnM hnA hI hT
  have HB0 : Hid (Below w.heap.size w (((w.alloc (.cells #[.int .i64 (T.n : Int), .slice X.A nA X.ca, .slice X.E nE X.ce, .slice X.M nM X.cm] 34)).alloc (.cells #[.int .i64 m.a, .int .u16 m.m.toNat, .int .u8 m.p.toNat, .bool m.u] 39)).alloc (.cells #[.int .i64 0, .slice none 0 0, .slice none 0 0, .slice none 0 0] 34))) := Lib.hid ((((Below.refl _ _).alloc (Nat.le_refl _) _).alloc (by simp) _).alloc (by simp; omega) _)
  have HK0 : Hid (Blk (((w.alloc (.cells #[.int .i64 (T.n : Int), .slice X.A nA X.ca, .slice X.E nE X.ce, .slice X.M nM X.cm] 34)).alloc (.cells #[.int .i64 m.a, .int .u16 m.m.toNat, .int .u8 m.p.toNat, .bool m.u] 39)).alloc (.cells #[.int .i64 0, .slice none 0 0, .slice none 0 0, .slice none 0 0] 34)) w.heap.size 34 #[.int .i64 (T.n : Int), .slice X.A nA X.ca, .slice X.E nE X.ce, .slice X.M nM X.cm]) := Lib.hid (((Blk.new _ _ _).alloc _).alloc _)
  have HX0 : Hid (Blk (((w.alloc (.cells #[.int .i64 (T.n : Int), .slice X.A nA X.ca, .slice X.E nE X.ce, .slice X.M nM X.cm] 34)).alloc (.cells #[.int .i64 m.a, .int .u16 m.m.toNat, .int .u8 m.p.toNat, .bool m.u] 39)).alloc (.cells #[.int .i64 0, .slice none 0 0, .slice none 0 0, .slice none 0 0] 34)) (w.heap.size + 1) 39 #[.int .i64 m.a, .int .u16 m.m.toNat, .int .u8 m.p.toNat, .bool m.u]) := Lib.hid (by
    have := (Blk.new (w.alloc (.cells #[.int .i64 (T.n : Int), .slice X.A nA X.ca, .slice X.E nE X.ce, .slice X.M nM X.cm] 34)) 39 #[.int .i64 m.a, .int .u16 m.m.toNat, .int .u8 m.p.toNat, .bool m.u]).alloc (.cells #[.int .i64 0, .slice none 0 0, .slice none 0 0, .slice none 0 0] 34)
    simpa using this)
  have HR0 : Hid (Blk (((w.alloc (.cells #[.int .i64 (T.n : Int), .slice X.A nA X.ca, .slice X.E nE X.ce, .slice X.M nM X.cm] 34)).alloc (.cells #[.int .i64 m.a, .int .u16 m.m.toNat, .int .u8 m.p.toNat, .bool m.u] 39)).alloc (.cells #[.int .i64 0, .slice none 0 0, .slice none 0 0, .slice none 0 0] 34)) (w.heap.size + 2) 34 #[.int .i64 0, .slice none 0 0, .slice none 0 0, .slice none 0 0]) := Lib.hid (by
    have := Blk.new ((w.alloc (.cells #[.int .i64 (T.n : Int), .slice X.A nA X.ca, .slice X.E nE X.ce, .slice X.M nM X.cm] 34)).alloc (.cells #[.int .i64 m.a, .int .u16 m.m.toNat, .int .u8 m.p.toNat, .bool m.u] 39)) 34 #[.int .i64 0, .slice none 0 0, .slice none 0 0, .slice none 0 0]
    simpa using this)
  obtain ⟨w0, hw0⟩ : ∃ w0, (((w.alloc (.cells #[.int .i64 (T.n : Int), .slice X.A nA X.ca, .slice X.E nE X.ce, .slice X.M nM X.cm] 34)).alloc (.cells #[.int .i64 m.a, .int .u16 m.m.toNat, .int .u8 m.p.toNat, .bool m.u] 39)).alloc (.cells #[.int .i64 0, .slice none 0 0, .slice none 0 0, .slice none 0 0] 34)) = w0 := ⟨_, rfl⟩
  rw [hw0] at HB0 HK0 HX0 HR0
  have HLE := Lib.hid he
  obtain ⟨i0, hi⟩ := info_parts infoMp
  have HIT := Lib.hid hi
  clear hi
  have hwp : IntKind.i64.wrap (m.p.toNat : Int) = (m.p.toNat : Int) := by have := m.p.toNat_lt; simp [IntKind.wrap, IntKind.signed, IntKind.bits]; omega
  by_cases hR : 0 ≤ m.a ∧ m.a < T.A.length ∧ m.p.toNat < T.n
  · obtain ⟨r1, r2, r3⟩ := hR
    obtain ⟨z, hz, hza⟩ := as_of HT.out.la (show m.a.toNat < T.A.length by omega)
    have hzo : z.a = T.of m := hza
    obtain ⟨b3, off3, hA3, hlt3, z0, z1, z2, z3, z4, z5⟩ := as_at (HT.out.ea.next HB0.out) hz
    have HZ3 : Hid (Els 1 u16c w0 z.b z.a.m) := Lib.hid ((HT.out.em z (List.mem_of_getElem? hz)).next HB0.out)
    obtain ⟨nz, hnz⟩ : ∃ n, z.a.m.length = n := ⟨_, rfl⟩
    rw [hnz] at z5
    have hz8 : nz ≤ 8 := by
      have hmem : T.of m ∈ T.A := by
        unfold Tb.of
        rw [List.getD_eq_getElem?_getD, List.getElem?_eq_getElem (show m.a.toNat < T.A.length by omega)]
        exact List.getElem_mem _
      have := (asM_head (HI.out.ass _ hmem)).2.2.2.2.2.2.1
      rw [← hzo, hnz] at this
      exact this
    have HZO := Lib.hid (And.intro hzo hnz)
    have hhas : T.hasE m = z.a.m.contains m.m := by
      unfold Tb.hasE
      rw [hzo, decide_eq_true r1, decide_eq_true r2, decide_eq_true r3]
      simp
    have HHA := Lib.hid hhas
    have p1 : ¬ m.a < 0 := by omega
    have p2 : m.a < (nA : Int) := by have := HNS.out.1; omega
    have p2' : decide ((nA : Int) ≤ m.a) = false := by simp; omega
    have p3 : (m.p.toNat : Int) < (T.n : Int) := by omega
    have hltK := HK0.out.lt
    have k0 := HK0.out.cell 0
    have k1 := HK0.out.cell 1
    simp only [List.getElem?_toArray, List.getElem?_cons_succ, List.getElem?_cons_zero] at k0 k1
    have x0 := HX0.out.cell 0
    have x1 := HX0.out.cell 1
    have x2 := HX0.out.cell 2
    have x3 := HX0.out.cell 3
    simp only [List.getElem?_toArray, List.getElem?_cons_succ, List.getElem?_cons_zero] at x0 x1 x2 x3
    rw [hA3] at k1
    have HB1 : Hid (Below w.heap.size w (w0.alloc (.cells #[.int .u8 z.a.l.toNat, .string ⟨z.a.d.toArray⟩, .string ⟨z.a.n.toArray⟩, .int .u16 z.a.v.toNat, .int .u8 z.a.i.toNat, .slice z.b nz z.c] 37))) := Lib.hid (HB0.out.alloc HB0.out.size _)
    have HK1 := Lib.hid (HK0.out.alloc (.cells #[.int .u8 z.a.l.toNat, .string ⟨z.a.d.toArray⟩, .string ⟨z.a.n.toArray⟩, .int .u16 z.a.v.toNat, .int .u8 z.a.i.toNat, .slice z.b nz z.c] 37))
    have HX1 := Lib.hid (HX0.out.alloc (.cells #[.int .u8 z.a.l.toNat, .string ⟨z.a.d.toArray⟩, .string ⟨z.a.n.toArray⟩, .int .u16 z.a.v.toNat, .int .u8 z.a.i.toNat, .slice z.b nz z.c] 37))
    have HR1 := Lib.hid (HR0.out.alloc (.cells #[.int .u8 z.a.l.toNat, .string ⟨z.a.d.toArray⟩, .string ⟨z.a.n.toArray⟩, .int .u16 z.a.v.toNat, .int .u8 z.a.i.toNat, .slice z.b nz z.c] 37))
    have HG1 := Lib.hid (Blk.new w0 37 #[.int .u8 z.a.l.toNat, .string ⟨z.a.d.toArray⟩, .string ⟨z.a.n.toArray⟩, .int .u16 z.a.v.toNat, .int .u8 z.a.i.toNat, .slice z.b nz z.c])
    have HZ1 : Hid (Els 1 u16c (w0.alloc (.cells #[.int .u8 z.a.l.toNat, .string ⟨z.a.d.toArray⟩, .string ⟨z.a.n.toArray⟩, .int .u16 z.a.v.toNat, .int .u8 z.a.i.toNat, .slice z.b nz z.c] 37)) z.b z.a.m) := Lib.hid (HZ3.out.next ((Below.refl _ _).alloc (Nat.le_refl _) _))
    clear r1 r2 r3 hz hza hzo hA3 hnz hhas HZ3
    go_enter Try.func24, Try.ntmps24
    go_upto_region 4 with (first | (rw [hw0]) | fail)
    clear hw0 k0 k1 x0 x1 x2 x3 p1 p2 p2' p3 hwp z0 z1 z2 z3 z4 z5 hlt3 hltK
    obtain ⟨w1, hw1⟩ : ∃ w1, w0.alloc (.cells #[.int .u8 z.a.l.toNat, .string ⟨z.a.d.toArray⟩, .string ⟨z.a.n.toArray⟩, .int .u16 z.a.v.toNat, .int .u8 z.a.i.toNat, .slice z.b nz z.c] 37) = w1 := ⟨_, rfl⟩
    obtain ⟨g, hg⟩ : ∃ g, w0.heap.size = g := ⟨_, rfl⟩
    rw [hw1] at HB1 HK1 HX1 HR1 HG1 HZ1
    rw [hg] at HG1
    rw [hw1, hg]
    clear hw1 hg HB0 HK0 HX0 HR0
    go_wp2
    go_loopw [7, 8] (fun v i wr => ∃ (k : Nat) (acc : Bool), k ≤ nz ∧ i = .int .i64 k ∧ v = .bool acc ∧ Hid ((z.a.m.take k).contains m.m = acc) ∧ Hid (Below w1.heap.size w1 wr)) (fun _ i _ => nz - (intOf i).toNat)
    case atStart => exact ⟨0, false, Nat.zero_le _, rfl, rfl, Lib.hid rfl, Lib.hid (Below.refl _ _)⟩
    case round =>
      obtain ⟨k, acc, hk, rfl, rfl, HAC, HBw⟩ := hrel
      have HX := Lib.hid (HX1.out.below HBw.out HX1.out.lt)
      have HG := Lib.hid (HG1.out.below HBw.out HG1.out.lt)
      have g5 := HG.out.cell 5
      simp only [List.getElem?_toArray, List.getElem?_cons_succ, List.getElem?_cons_zero] at  g5
      by_cases hlt : k < nz
      · obtain ⟨c, hc⟩ : ∃ c, z.a.m[k]? = some c := ⟨_, List.getElem?_eq_getElem (by rw [HZO.out.2]; exact hlt)⟩
        obtain ⟨bq, offq, hQ, hltq, q0⟩ := u16c_at (HZ1.out.next HBw.out) hc
        have hki : (k : Int) < nz := by omega
        have HN1 := Lib.hid (take_has16 m.m hc)
        obtain ⟨d, hd⟩ : ∃ d, (c == m.m) = d := ⟨_, rfl⟩
        have qd : ((c.toNat : Int) == (m.m.toNat : Int)) = d := by rw [u16_eqB, hd]
        have HN2 : Hid ((z.a.m.take (k + 1)).contains m.m = (acc || d)) := Lib.hid (by rw [HN1.out, HAC.out, hd])
        rw [hQ] at g5
        have HLT := Lib.hid hlt
        have x1 := HX.out.cell 1
        simp only [List.getElem?_toArray, List.getElem?_cons_succ, List.getElem?_cons_zero] at x1
        clear hc hQ hltq hd hlt HN1 HAC
        cases acc
        all_goals (
          go_wp2_with fail
          go_quiet (fail)
          go_wp2
          go_roundw
          case rel => exact ⟨k + 1, _, by have := HLT.out; omega, by go_num, rfl, by first | exact HN2 | (have h := HN2.out; simp only [Bool.true_or, Bool.false_or] at h; exact Lib.hid h), Lib.hid (below_drewN16 HBw.out _)⟩
          case measure => have := HLT.out; simp [intOf]; omega)
      · obtain rfl : nz = k := by omega
        rw [List.take_of_length_le (by rw [HZO.out.2]; exact Nat.le_refl _)] at HAC
        have HB : Hid (Below w.heap.size w wr) := Lib.hid (HB1.out.trans (HBw.out.mono HB1.out.size))
        have HK := Lib.hid (HK1.out.below HBw.out HK1.out.lt)
        have HR := Lib.hid (HR1.out.below HBw.out HR1.out.lt)
        clear hlt hk
        cases acc
        · have HD : Hid (T.addE m = (T, 2)) := Lib.hid (by
            unfold Tb.addE
            rw [if_pos (by rw [HHA.out, HAC.out])])
          have k0 := HK.out.cell 0
          have k1 := HK.out.cell 1
          have k2 := HK.out.cell 2
          have k3 := HK.out.cell 3
          simp only [List.getElem?_toArray, List.getElem?_cons_succ, List.getElem?_cons_zero] at  k0 k1 k2 k3
          go_wp2_with (refine wpList_store_row rfl 34 (.tmp 4) (.tmp 59) rfl (w.heap.size + 2) rfl _ rfl 34 _ HR.out (by kernel_rfl) rfl (by kernel_rfl) ?_)
          refine bodyPost_ret (v := .tuple #[.agg #[.int .i64 (T.n : Int), .slice X.A nA X.ca, .slice X.E nE X.ce, .slice X.M nM X.cm], .int .i64 2]) (results_cell_slot (p := 4) (q := 5) (by kernel_rfl) _ _ (w.heap.size + 2) 34 _ _ rfl (Blk.row HR.out _) Try.underlying34 rfl (by kernel_rfl) _ rfl) rfl ?_
          rw [HD.out]
          exact ⟨X, by rw [← HNS.out.1, ← HNS.out.2.1, ← HNS.out.2.2]; rfl, HT.out.next (below_row HB.out (by omega) _), below_row HB.out (by omega) _⟩
        · have HHE : Hid (T.hasE m = true) := Lib.hid (by rw [HHA.out, HAC.out])
          go_wp2
          obtain ⟨w2, hw2⟩ : ∃ w2, w2 = wr := ⟨_, rfl⟩
          have HB2 := HB
          have HK2 := HK
          have HX2 := HX
          have HR2 := HR
          have HG2 := HG
          rw [← hw2] at HB2 HK2 HX2 HR2 HG2
          rw [← hw2]
          clear HB HK HX HR HG HBw hw2 HB1 HK1 HX1 HR1 HG1 HZ1 g5 HAC HHA
          go_loopw [9] (fun i wr => ∃ j : Nat, j ≤ nE ∧ i = .int .i64 j ∧ Hid (∀ y ∈ T.E.take j, T.clash y m = false) ∧ Hid (Below w2.heap.size w2 wr)) (fun i _ => nE - (intOf i).toNat)
          case atStart => exact ⟨0, Nat.zero_le _, rfl, Lib.hid (by simp), Lib.hid (Below.refl _ _)⟩
          case round =>
            obtain ⟨k, hk, rfl, HZ, HBw⟩ := hrel
            have HB : Hid (Below w.heap.size w wr) := Lib.hid (HB2.out.trans (HBw.out.mono HB2.out.size))
            have HK := Lib.hid (HK2.out.below HBw.out HK2.out.lt)
            have HX := Lib.hid (HX2.out.below HBw.out HX2.out.lt)
            have HR := Lib.hid (HR2.out.below HBw.out HR2.out.lt)
            have HG := Lib.hid (HG2.out.below HBw.out HG2.out.lt)
            by_cases hlt : k < nE
            · obtain ⟨x, hx⟩ : ∃ x, T.E[k]? = some x := ⟨_, List.getElem?_eq_getElem (by rw [HNS.out.2.1]; exact hlt)⟩
              have hki : (k : Int) < nE := by omega
              have hltK := HK.out.lt
              have hltX := HX.out.lt
              have hltG := HG.out.lt
              have k1 := HK.out.cell 1
              have k2 := HK.out.cell 2
              simp only [List.getElem?_toArray, List.getElem?_cons_succ, List.getElem?_cons_zero] at  k1 k2
              obtain ⟨b1, off1, hE1, hltE, e0, e1, e2, e3⟩ := mp_at (HT.out.ee.next HB.out) hx
              have hlv := of_level HI.out (List.mem_of_getElem? hx)
              obtain ⟨ja, hja⟩ : ∃ ja : Nat, x.a = ja := ⟨x.a.toNat, by omega⟩
              obtain ⟨y, hy, hya⟩ := as_of HT.out.la (show ja < T.A.length by omega)
              have hyo : y.a = T.of x := by unfold Tb.of; rw [hya, hja, Int.toNat_natCast]
              obtain ⟨b2, off2, hA2, hltA, a0, a1, a2, a3, a4, a5⟩ := as_at (HT.out.ea.next HB.out) hy
              rw [hja] at e0
              rw [hE1] at k2
              rw [hA2] at k1
              have hjl : (ja : Int) < T.A.length := by omega
              have hl8 : y.a.l.toNat < 8 := by rw [hyo]; exact hlv.1
              have HYO := Lib.hid hyo
              have HX_ := Lib.hid hx
              rw [HNS.out.1] at hjl
              have HLT := Lib.hid hlt
              have x0 := HX.out.cell 0
              have x1 := HX.out.cell 1
              have x2 := HX.out.cell 2
              have x3 := HX.out.cell 3
              simp only [List.getElem?_toArray, List.getElem?_cons_succ, List.getElem?_cons_zero] at x0 x1 x2 x3
              have g0 := HG.out.cell 0
              have g3 := HG.out.cell 3
              simp only [List.getElem?_toArray, List.getElem?_cons_succ, List.getElem?_cons_zero] at g0 g3
              obtain ⟨B1, hB1⟩ : ∃ b, decide (x.a = m.a) = b := ⟨_, rfl⟩
              obtain ⟨B2, hB2⟩ : ∃ b, (x.m == m.m) = b := ⟨_, rfl⟩
              obtain ⟨B3, hB3⟩ : ∃ b, (x.p == m.p) = b := ⟨_, rfl⟩
              obtain ⟨B4, hB4⟩ : ∃ b, ((T.of x).v == (T.of m).v) = b := ⟨_, rfl⟩
              obtain ⟨B5, hB5⟩ : ∃ b, ((T.of x).l == (T.of m).l) = b := ⟨_, rfl⟩
              obtain ⟨B6, hB6⟩ : ∃ b, (x.u == m.u) = b := ⟨_, rfl⟩
              have hcl : T.clash x m = ((B1 && B2) || (B3 && (B4 && (B5 && B6)))) := by unfold Tb.clash; rw [hB1, hB2, hB3, hB4, hB5, hB6]
              have Q1 : ((ja : Int) == m.a) = B1 := by rw [← hB1, hja, Bool.eq_iff_iff]; simp
              have Q2 : ((x.m.toNat : Int) == (m.m.toNat : Int)) = B2 := by rw [u16_eqB, hB2]
              have Q3 : ((x.p.toNat : Int) == (m.p.toNat : Int)) = B3 := by rw [u8_eqB, hB3]
              have Q4 : ((y.a.v.toNat : Int) == (z.a.v.toNat : Int)) = B4 := by rw [u16_eqB, HYO.out, HZO.out.1, hB4]
              have Q5 : ((y.a.l.toNat : Int) == (z.a.l.toNat : Int)) = B5 := by rw [u8_eqB, HYO.out, HZO.out.1, hB5]
              have Q6 : (x.u == m.u) = B6 := hB6
              have HB3 : Hid (Below w.heap.size w ((wr.alloc (.cells #[.int .i64 (ja : Int), .int .u16 x.m.toNat, .int .u8 x.p.toNat, .bool x.u] 39)).alloc (.cells #[.int .u8 y.a.l.toNat, .string ⟨y.a.d.toArray⟩, .string ⟨y.a.n.toArray⟩, .int .u16 y.a.v.toNat, .int .u8 y.a.i.toNat, .slice y.b y.a.m.length y.c] 37))) := Lib.hid ((HB.out.alloc HB.out.size _).alloc (by have := HB.out.size; simp; omega) _)
              have HBn : Hid (Below w2.heap.size w2 ((wr.alloc (.cells #[.int .i64 (ja : Int), .int .u16 x.m.toNat, .int .u8 x.p.toNat, .bool x.u] 39)).alloc (.cells #[.int .u8 y.a.l.toNat, .string ⟨y.a.d.toArray⟩, .string ⟨y.a.n.toArray⟩, .int .u16 y.a.v.toNat, .int .u8 y.a.i.toNat, .slice y.b y.a.m.length y.c] 37))) := Lib.hid ((HBw.out.alloc HBw.out.size _).alloc (by have := HBw.out.size; simp; omega) _)
              have HK3 : Hid (Blk ((wr.alloc (.cells #[.int .i64 (ja : Int), .int .u16 x.m.toNat, .int .u8 x.p.toNat, .bool x.u] 39)).alloc (.cells #[.int .u8 y.a.l.toNat, .string ⟨y.a.d.toArray⟩, .string ⟨y.a.n.toArray⟩, .int .u16 y.a.v.toNat, .int .u8 y.a.i.toNat, .slice y.b y.a.m.length y.c] 37)) w.heap.size 34 #[.int .i64 (T.n : Int), .slice X.A nA X.ca, .slice X.E nE X.ce, .slice X.M nM X.cm]) := Lib.hid ((HK.out.alloc _).alloc _)
              have HR3 : Hid (Blk ((wr.alloc (.cells #[.int .i64 (ja : Int), .int .u16 x.m.toNat, .int .u8 x.p.toNat, .bool x.u] 39)).alloc (.cells #[.int .u8 y.a.l.toNat, .string ⟨y.a.d.toArray⟩, .string ⟨y.a.n.toArray⟩, .int .u16 y.a.v.toNat, .int .u8 y.a.i.toNat, .slice y.b y.a.m.length y.c] 37)) (w.heap.size + 2) 34 #[.int .i64 0, .slice none 0 0, .slice none 0 0, .slice none 0 0]) := Lib.hid ((HR.out.alloc _).alloc _)
              have HCL := Lib.hid hcl
              have HXx : Hid (Blk ((wr.alloc (.cells #[.int .i64 (ja : Int), .int .u16 x.m.toNat, .int .u8 x.p.toNat, .bool x.u] 39)).alloc (.cells #[.int .u8 y.a.l.toNat, .string ⟨y.a.d.toArray⟩, .string ⟨y.a.n.toArray⟩, .int .u16 y.a.v.toNat, .int .u8 y.a.i.toNat, .slice y.b y.a.m.length y.c] 37)) wr.heap.size 39 #[.int .i64 (ja : Int), .int .u16 x.m.toNat, .int .u8 x.p.toNat, .bool x.u]) := Lib.hid ((Blk.new _ _ _).alloc _)
              have HYy : Hid (Blk ((wr.alloc (.cells #[.int .i64 (ja : Int), .int .u16 x.m.toNat, .int .u8 x.p.toNat, .bool x.u] 39)).alloc (.cells #[.int .u8 y.a.l.toNat, .string ⟨y.a.d.toArray⟩, .string ⟨y.a.n.toArray⟩, .int .u16 y.a.v.toNat, .int .u8 y.a.i.toNat, .slice y.b y.a.m.length y.c] 37)) (wr.heap.size + 1) 37 #[.int .u8 y.a.l.toNat, .string ⟨y.a.d.toArray⟩, .string ⟨y.a.n.toArray⟩, .int .u16 y.a.v.toNat, .int .u8 y.a.i.toNat, .slice y.b y.a.m.length y.c]) := Lib.hid (by
                have := Blk.new (wr.alloc (.cells #[.int .i64 (ja : Int), .int .u16 x.m.toNat, .int .u8 x.p.toNat, .bool x.u] 39)) 37 #[.int .u8 y.a.l.toNat, .string ⟨y.a.d.toArray⟩, .string ⟨y.a.n.toArray⟩, .int .u16 y.a.v.toNat, .int .u8 y.a.i.toNat, .slice y.b y.a.m.length y.c]
                simpa using this)
              have HX5 : Hid (Blk ((wr.alloc (.cells #[.int .i64 (ja : Int), .int .u16 x.m.toNat, .int .u8 x.p.toNat, .bool x.u] 39)).alloc (.cells #[.int .u8 y.a.l.toNat, .string ⟨y.a.d.toArray⟩, .string ⟨y.a.n.toArray⟩, .int .u16 y.a.v.toNat, .int .u8 y.a.i.toNat, .slice y.b y.a.m.length y.c] 37)) (w.heap.size + 1) 39 #[.int .i64 m.a, .int .u16 m.m.toNat, .int .u8 m.p.toNat, .bool m.u]) := Lib.hid ((HX.out.alloc _).alloc _)
              have HG5 : Hid (Blk ((wr.alloc (.cells #[.int .i64 (ja : Int), .int .u16 x.m.toNat, .int .u8 x.p.toNat, .bool x.u] 39)).alloc (.cells #[.int .u8 y.a.l.toNat, .string ⟨y.a.d.toArray⟩, .string ⟨y.a.n.toArray⟩, .int .u16 y.a.v.toNat, .int .u8 y.a.i.toNat, .slice y.b y.a.m.length y.c] 37)) g 37 #[.int .u8 z.a.l.toNat, .string ⟨z.a.d.toArray⟩, .string ⟨z.a.n.toArray⟩, .int .u16 z.a.v.toNat, .int .u8 z.a.i.toNat, .slice z.b nz z.c]) := Lib.hid ((HG.out.alloc _).alloc _)
              have HCL := Lib.hid hcl
              clear hx hlt hlv hja hy hya hyo hl8 hB1 hB2 hB3 hB4 hB5 hB6 hcl HB HK HX HR HG HBw hE1 hA2
              clear x0 x1 x2 x3 g0 g3
              go_upto_region 16 with (fail)
              obtain ⟨w5, hw5⟩ : ∃ w5, ((wr.alloc (.cells #[.int .i64 (ja : Int), .int .u16 x.m.toNat, .int .u8 x.p.toNat, .bool x.u] 39)).alloc (.cells #[.int .u8 y.a.l.toNat, .string ⟨y.a.d.toArray⟩, .string ⟨y.a.n.toArray⟩, .int .u16 y.a.v.toNat, .int .u8 y.a.i.toNat, .slice y.b y.a.m.length y.c] 37)) = w5 := ⟨_, rfl⟩
              rw [hw5] at HB3 HBn HK3 HR3 HXx HYy HX5 HG5
              rw [hw5]
              clear hw5 e0 e1 e2 e3 a0 a1 a2 a3 a4 a5 k1 k2 hltE hltA hltK hltX hltG hjl hki
              have x0 := HX5.out.cell 0
              have x1 := HX5.out.cell 1
              have x2 := HX5.out.cell 2
              have x3 := HX5.out.cell 3
              simp only [List.getElem?_toArray, List.getElem?_cons_succ, List.getElem?_cons_zero] at x0 x1 x2 x3
              have g0 := HG5.out.cell 0
              have g3 := HG5.out.cell 3
              simp only [List.getElem?_toArray, List.getElem?_cons_succ, List.getElem?_cons_zero] at g0 g3
              have e0 := HXx.out.cell 0
              have e1 := HXx.out.cell 1
              have e2 := HXx.out.cell 2
              have e3 := HXx.out.cell 3
              simp only [List.getElem?_toArray, List.getElem?_cons_succ, List.getElem?_cons_zero] at e0 e1 e2 e3
              have a0 := HYy.out.cell 0
              have a3 := HYy.out.cell 3
              simp only [List.getElem?_toArray, List.getElem?_cons_succ, List.getElem?_cons_zero] at a0 a3
              cases hc : T.clash x m
              · have HZ1 := Lib.hid (all_snoc16 (p := fun y => T.clash y m) HZ.out HX_.out hc)
                have hq := clash_not B1 B2 B3 B4 B5 B6 (HCL.out.symm.trans hc)
                clear hc
                rcases hq with ⟨rfl | ⟨rfl, rfl⟩, rfl | ⟨rfl, rfl | ⟨rfl, rfl | ⟨rfl, rfl⟩⟩⟩⟩
                all_goals (
                  go_wp2
                  go_roundw
                  case rel => exact ⟨k + 1, by have := HLT.out; omega, by go_num, HZ1, HBn⟩
                  case measure => have := HLT.out; simp [intOf]; omega)
              · have HD : Hid (T.addE m = (T, 8)) := Lib.hid (by
                  unfold Tb.addE
                  rw [if_neg (by rw [HHE.out]; decide), if_pos (List.any_eq_true.2 ⟨x, List.mem_of_getElem? HX_.out, hc⟩)])
                have hq := clash_yes B1 B2 B3 B4 B5 B6 (HCL.out.symm.trans hc)
                clear hc
                rcases hq with ⟨rfl, rfl⟩ | ⟨rfl | ⟨rfl, rfl⟩, rfl, rfl, rfl, rfl⟩
                all_goals (
                  go_upto_region 17 with (fail)
                  have k0 := HK3.out.cell 0
                  have k1 := HK3.out.cell 1
                  have k2 := HK3.out.cell 2
                  have k3 := HK3.out.cell 3
                  simp only [List.getElem?_toArray, List.getElem?_cons_succ, List.getElem?_cons_zero] at  k0 k1 k2 k3
                  go_wp2_with (refine wpList_store_row rfl 34 (.tmp 4) (.tmp 118) rfl (w.heap.size + 2) rfl _ rfl 34 _ HR3.out (by kernel_rfl) rfl (by kernel_rfl) ?_)
                  refine bodyPost_ret (v := .tuple #[.agg #[.int .i64 (T.n : Int), .slice X.A nA X.ca, .slice X.E nE X.ce, .slice X.M nM X.cm], .int .i64 8]) (results_cell_slot (p := 4) (q := 5) (by kernel_rfl) _ _ (w.heap.size + 2) 34 _ _ rfl (Blk.row HR3.out _) Try.underlying34 rfl (by kernel_rfl) _ rfl) rfl ?_
                  rw [HD.out]
                  exact ⟨X, by rw [← HNS.out.1, ← HNS.out.2.1, ← HNS.out.2.2]; rfl, HT.out.next (below_row HB3.out (by omega) _), below_row HB3.out (by omega) _⟩)
            · obtain rfl : nE = k := by omega
              rw [List.take_of_length_le (by rw [HNS.out.2.1]; exact Nat.le_refl _)] at HZ
              have HCN := HZ
              have k2 := HK.out.cell 2
              simp only [List.getElem?_toArray, List.getElem?_cons_succ, List.getElem?_cons_zero] at  k2
              clear hlt hk
              go_wp2
              clear k2
              obtain ⟨w3, hw3⟩ : ∃ w3, w3 = wr := ⟨_, rfl⟩
              have HB3 := HB
              have HK3 := HK
              have HX3 := HX
              have HR3 := HR
              have HG3 := HG
              rw [← hw3] at HB3 HK3 HX3 HR3 HG3
              rw [← hw3]
              clear HB HK HX HR HG HBw hw3 HB2 HK2 HX2 HR2 HG2 HZ
              go_loopw [12] (fun i wr => ∃ j : Nat, j ≤ nM ∧ i = .int .i64 j ∧ Hid (∀ y ∈ T.M.take j, T.under m y = false) ∧ Hid (Below w3.heap.size w3 wr)) (fun i _ => nM - (intOf i).toNat)
              case atStart => exact ⟨0, Nat.zero_le _, rfl, Lib.hid (by simp), Lib.hid (Below.refl _ _)⟩
              case round =>
                obtain ⟨k, hk, rfl, HZ, HBw⟩ := hrel
                have HB : Hid (Below w.heap.size w wr) := Lib.hid (HB3.out.trans (HBw.out.mono HB3.out.size))
                have HK := Lib.hid (HK3.out.below HBw.out HK3.out.lt)
                have HX := Lib.hid (HX3.out.below HBw.out HX3.out.lt)
                have HR := Lib.hid (HR3.out.below HBw.out HR3.out.lt)
                have HG := Lib.hid (HG3.out.below HBw.out HG3.out.lt)
                by_cases hlt : k < nM
                · obtain ⟨x, hx⟩ : ∃ x, T.M[k]? = some x := ⟨_, List.getElem?_eq_getElem (by rw [HNS.out.2.2]; exact hlt)⟩
                  obtain ⟨b, off, hA, hb, c0, c1, c2⟩ := mi_at (HT.out.mm.next HB.out) hx
                  have hki : (k : Int) < nM := by omega
                  have HLT := Lib.hid hlt
                  have HXX := Lib.hid hx
                  have k3 := HK.out.cell 3
                  simp only [List.getElem?_toArray, List.getElem?_cons_succ, List.getElem?_cons_zero] at k3
                  have x2 := HX.out.cell 2
                  simp only [List.getElem?_toArray, List.getElem?_cons_succ, List.getElem?_cons_zero] at x2
                  have g0 := HG.out.cell 0
                  have g3 := HG.out.cell 3
                  simp only [List.getElem?_toArray, List.getElem?_cons_succ, List.getElem?_cons_zero] at g0 g3
                  rw [hA] at k3
                  obtain ⟨B1, hB1⟩ : ∃ b, (x.p == m.p) = b := ⟨_, rfl⟩
                  obtain ⟨B2, hB2⟩ : ∃ b, (x.v == (T.of m).v) = b := ⟨_, rfl⟩
                  obtain ⟨B3, hB3⟩ : ∃ b, decide (x.l.toNat ≤ (T.of m).l.toNat) = b := ⟨_, rfl⟩
                  have hu : T.under m x = (B1 && (B2 && B3)) := by unfold Tb.under; rw [hB1, hB2, hB3]
                  have Q1 : ((x.p.toNat : Int) == (m.p.toNat : Int)) = B1 := by rw [u8_eqB, hB1]
                  have Q2 : ((x.v.toNat : Int) == (z.a.v.toNat : Int)) = B2 := by rw [u16_eqB, HZO.out.1, hB2]
                  have Q3 : decide (x.l.toNat ≤ z.a.l.toNat) = B3 := by rw [HZO.out.1]; exact hB3
                  have HU := Lib.hid hu
                  clear hlt hx hA hb hB1 hB2 hB3 hu
                  cases hc : T.under m x
                  · have HZ1 := Lib.hid (all_snoc16 (p := fun y => T.under m y) HZ.out HXX.out hc)
                    have hq : B1 = false ∨ (B1 = true ∧ (B2 = false ∨ (B2 = true ∧ B3 = false))) := by
                      have h := HU.out.symm.trans hc
                      revert h
                      cases B1 <;> cases B2 <;> cases B3 <;> simp
                    clear hc
                    rcases hq with rfl | ⟨rfl, rfl | ⟨rfl, rfl⟩⟩
                    all_goals (
                      go_wp2_with fail
                      go_quiet (fail)
                      go_wp2
                      go_roundw
                      case rel => exact ⟨k + 1, by have := HLT.out; omega, by go_num, HZ1, Lib.hid (below_drewN16 HBw.out _)⟩
                      case measure => have := HLT.out; simp [intOf]; omega)
                  · have HD : Hid (T.addE m = (T, 9)) := Lib.hid (by
                      unfold Tb.addE
                      rw [if_neg (by rw [HHE.out]; decide), if_neg (by rw [any_no16 HCN.out]; decide), if_pos (List.any_eq_true.2 ⟨x, List.mem_of_getElem? HXX.out, hc⟩)])
                    obtain ⟨rfl, rfl, rfl⟩ : B1 = true ∧ B2 = true ∧ B3 = true := by
                      have h := HU.out.symm.trans hc
                      revert h
                      cases B1 <;> cases B2 <;> cases B3 <;> simp
                    clear hc
                    go_wp2_with fail
                    go_quiet (fail)
                    have HKq : Hid (Blk (wr.drewN nq) w.heap.size 34 #[.int .i64 (T.n : Int), .slice X.A nA X.ca, .slice X.E nE X.ce, .slice X.M nM X.cm]) := Lib.hid HK.out
                    have HRq : Hid (Blk (wr.drewN nq) (w.heap.size + 2) 34 #[.int .i64 0, .slice none 0 0, .slice none 0 0, .slice none 0 0]) := Lib.hid HR.out
                    have HBq : Hid (Below w.heap.size w (wr.drewN nq)) := Lib.hid (below_drewN16 HB.out _)
                    have k0 := HKq.out.cell 0
                    have k1 := HKq.out.cell 1
                    have k2 := HKq.out.cell 2
                    have k3 := HKq.out.cell 3
                    simp only [List.getElem?_toArray, List.getElem?_cons_succ, List.getElem?_cons_zero] at  k0 k1 k2 k3
                    go_wp2_with (refine wpList_store_row rfl 34 (.tmp 4) (.tmp 157) rfl (w.heap.size + 2) rfl _ rfl 34 _ HRq.out (by kernel_rfl) rfl (by kernel_rfl) ?_)
                    refine bodyPost_ret (v := .tuple #[.agg #[.int .i64 (T.n : Int), .slice X.A nA X.ca, .slice X.E nE X.ce, .slice X.M nM X.cm], .int .i64 9]) (results_cell_slot (p := 4) (q := 5) (by kernel_rfl) _ _ (w.heap.size + 2) 34 _ _ rfl (Blk.row HRq.out _) Try.underlying34 rfl (by kernel_rfl) _ rfl) rfl ?_
                    rw [HD.out]
                    exact ⟨X, by rw [← HNS.out.1, ← HNS.out.2.1, ← HNS.out.2.2]; rfl, HT.out.next (below_row HBq.out (by omega) _), below_row HBq.out (by omega) _⟩
                · obtain rfl : nM = k := by omega
                  rw [List.take_of_length_le (by rw [HNS.out.2.2]; exact Nat.le_refl _)] at HZ
                  have HD : Hid (T.addE m = ({ T with E := T.E ++ [m] }, 0)) := Lib.hid (by
                    unfold Tb.addE
                    rw [if_neg (by rw [HHE.out]; decide), if_neg (by rw [any_no16 HCN.out]; decide), if_neg (by rw [any_no16 HZ.out]; decide)])
                  have HE : Hid (Els 4 mpE wr X.E T.E) := Lib.hid (HT.out.ee.next HB.out)
                  have HNN : Hid (T.E.length = nE) := Lib.hid HNS.out.2.1
                  have HZN : Hid (X.E = none → X.ce = 0) := Lib.hid HT.out.ze
                  have HLN : Hid (T.E.length + 1 ≤ 1000000) := Lib.hid (by have := HNS.out.2.1; have := HLE.out; omega)
                  have k3 := HK.out.cell 3
                  simp only [List.getElem?_toArray, List.getElem?_cons_succ, List.getElem?_cons_zero] at  k3
                  clear hlt hk HB3 HK3 HX3 HR3 HBw HG HG3
                  go_upto_region 23 with (fail)
                  go_cut [] (fun wx => ∃ v w5, wx = w5.setCell ⟨w.heap.size, 2, none⟩ v ∧ Hid (w5.ownsRow wr.heap.size 39 4 v (T.E ++ [m]).length ((T.E ++ [m]).flatMap mpE)) ∧ Hid (Below wr.heap.size wr w5))
                  case first =>
                    have hltK := HK.out.lt
                    have k3 := HK.out.cell 2
                    simp only [List.getElem?_toArray, List.getElem?_cons_succ, List.getElem?_cons_zero] at  k3
                    refine wp_region_noPanic ?_
                    refine wp_region_held_drew (S := fun w_ => Chg (only w.heap.size) wr w_) (by kernel_rfl) (Chg.refl _ wr).drew (fun hHeld => ?_)
                    refine wpAnyH_take (i := 0) (v := ?v1) rfl (by kernel_rfl) (by kernel_rfl) (by kernel_rfl) (fun _ _ _ h => h) (Or.inl ⟨by rfl, ?hy1⟩) hHeld ?rest1
                    case hy1 =>
                      intro w_ hSw; go_simp
                      all_goals (with_reducible rfl)
                    try simp only [Act.put, List.getElem_toArray, List.getElem_cons_succ, List.getElem_cons_zero, List.setIfInBounds_toArray, List.set_cons_zero, List.set_cons_succ]
                    refine wpAnyH_take (i := 3) (v := .agg #[.int .i64 m.a, .int .u16 m.m.toNat, .int .u8 m.p.toNat, .bool m.u]) rfl (by kernel_rfl) (by kernel_rfl) (by kernel_rfl) (fun _ _ _ h => h) (yieldsIf_rowH 39 3 rfl (by rfl) (w.heap.size + 1) rfl 39 _ _ (fun w_ hw => (HX.out.chg (w := wr) hw (by unfold only; omega))) Try.underlying39 rfl (by kernel_rfl)) hHeld ?_
                    try simp only [Act.put, List.getElem_toArray, List.getElem_cons_succ, List.getElem_cons_zero, List.setIfInBounds_toArray, List.set_cons_zero, List.set_cons_succ]
                    refine wpAnyH_ready (rs := [1, 4]) (by kernel_rfl) (by simp) ?_
                    refine AllReadyH.cons rfl (fun K hK => ?_) ?_
                    · go_simp
                      refine hK.out _ _ (hHeld) (fun hHeld => ?_)
                      clear hK K
                      try simp only [Act.put, List.getElem_toArray, List.getElem_cons_succ, List.getElem_cons_zero, List.setIfInBounds_toArray, List.set_cons_zero, List.set_cons_succ]
                      refine wpAnyH_ready (rs := [2, 4]) (by kernel_rfl) (by simp) ?_
                      refine AllReadyH.cons rfl (fun K hK => ?_) ?_
                      · refine step_appL rfl (.const (.slice none 0 0)) (.tmp 159) 31 rfl mpE_len mpE_one (by decide) wr.heap.size 39 i0 _ 16 Try.underlying31 HIT.out rfl _ [] rfl (World.ownsRow_nil _ _ _ _) X.E nE X.ce T.E HNN.out rfl HZN.out (HE.out) (by have := HLN.out; simp; omega) (by decide) (by simp) ?_
                        intro va wa hoa hga _
                        have HOA := Lib.hid (show wa.ownsRow wr.heap.size 39 4 va (T.E).length ((T.E).flatMap mpE) by simpa using hoa)
                        clear hoa
                        have HBA : Hid (Below wr.heap.size wr wa) := Lib.hid ((Below.refl wr.heap.size wr).drew.grown hga (by simp) (fun j hj => by cases hj))
                        clear hga
                        refine hK.out _ _ (Chg.of_below HBA.out) (fun hHeld => ?_)
                        clear hK K
                        try simp only [Act.put, List.getElem_toArray, List.getElem_cons_succ, List.getElem_cons_zero, List.setIfInBounds_toArray, List.set_cons_zero, List.set_cons_succ]
                        refine wpAnyH_ready (rs := [4]) (by kernel_rfl) (by simp) ?_
                        refine AllReadyH.cons rfl (fun K hK => ?_) AllReadyH.nil
                        go_simp
                        refine hK.out _ _ ((Chg.of_below HBA.out).alloc _) (fun hHeld => ?_)
                        clear hK K
                        try simp only [Act.put, List.getElem_toArray, List.getElem_cons_succ, List.getElem_cons_zero, List.setIfInBounds_toArray, List.set_cons_zero, List.set_cons_succ]
                        refine wpAnyH_ready (rs := [5]) (by kernel_rfl) (by simp) ?_
                        refine AllReadyH.cons rfl (fun K hK => ?_) AllReadyH.nil
                        refine step_appL rfl (.tmp 160) (.tmp 162) 31 rfl mpE_len mpE_one (by decide) wr.heap.size 39 i0 _ 16 Try.underlying31 HIT.out rfl va T.E rfl (World.ownsRow.alloc HOA.out _) (some ⟨wa.heap.size, 0, none⟩) 1 1 [m] rfl rfl (fun e => by cases e) (els_one16 wa 39 m _ rfl) (by have := HLN.out; simp; omega) (by decide) (by have := HBA.out.size; simp; omega) ?_
                        intro v5 w5 ho5 hg5 _
                        have hb5 : Below wr.heap.size wr w5 := (HBA.out.alloc HBA.out.size (.cells #[.int .i64 m.a, .int .u16 m.m.toNat, .int .u8 m.p.toNat, .bool m.u] 39)).grown hg5 (by have := HBA.out.size; simp; omega) (fun j hj => (HOA.out.lt j hj).1)
                        have HO9 := Lib.hid ho5
                        have HB9 : Hid (Below wr.heap.size wr w5) := Lib.hid (hb5)
                        have HK9 := Lib.hid (HK.out.below HB9.out HK.out.lt)
                        obtain ⟨A9, c9, e9, _⟩ := own_fullL mpE_len HO9.out
                        obtain ⟨m9, hm9⟩ : ∃ q_, (T.E ++ [m]).length = q_ := ⟨_, rfl⟩
                        rw [hm9] at e9
                        clear hm9
                        subst e9
                        have s0 := HK9.out.cell 2
                        have s1 := HK9.out.frozen 2
                        simp only [List.getElem?_toArray, List.getElem?_cons_succ, List.getElem?_cons_zero] at  s0
                        clear ho5 hg5 hb5
                        refine hK.out _ _ (Chg.of_below HB9.out) (fun hHeld => ?_)
                        clear hK K
                        try simp only [Act.put, List.getElem_toArray, List.getElem_cons_succ, List.getElem_cons_zero, List.setIfInBounds_toArray, List.set_cons_zero, List.set_cons_succ]
                        refine wpAnyH_take (i := 6) (v := ?v2) rfl (by kernel_rfl) (by kernel_rfl) (by kernel_rfl) (fun _ _ _ h => h) (Or.inl ⟨by rfl, ?hy2⟩) hHeld ?rest2
                        case hy2 =>
                          intro w_ hSw; go_simp
                          all_goals (with_reducible rfl)
                        try simp only [Act.put, List.getElem_toArray, List.getElem_cons_succ, List.getElem_cons_zero, List.setIfInBounds_toArray, List.set_cons_zero, List.set_cons_succ]
                        refine wpAnyH_ready (rs := [7]) (by kernel_rfl) (by simp) ?_
                        refine AllReadyH.cons rfl (fun K hK => ?_) AllReadyH.nil
                        go_simp
                        refine hK.out _ _ ((Chg.of_below (S := only w.heap.size) HB9.out).setCell (p := ⟨w.heap.size, 2, none⟩) (.inr rfl) _) (fun hHeld => ?_)
                        clear hK K
                        try simp only [Act.put, List.getElem_toArray, List.getElem_cons_succ, List.getElem_cons_zero, List.setIfInBounds_toArray, List.set_cons_zero, List.set_cons_succ]
                        refine wpAnyH_done (by kernel_rfl) ?_ _
                        refine NoPanic.normal ?_
                        clear hHeld
                        go_wp2_with fail
                        go_meet
                        exact ⟨_, _, rfl, HO9, HB9⟩
                      · refine AllReadyH.cons rfl (fun K hK => ?_) AllReadyH.nil
                        go_simp
                        refine hK.out _ _ (hHeld.alloc _) (fun hHeld => ?_)
                        clear hK K
                        try simp only [Act.put, List.getElem_toArray, List.getElem_cons_succ, List.getElem_cons_zero, List.setIfInBounds_toArray, List.set_cons_zero, List.set_cons_succ]
                        refine wpAnyH_ready (rs := [2]) (by kernel_rfl) (by simp) ?_
                        refine AllReadyH.cons rfl (fun K hK => ?_) AllReadyH.nil
                        refine step_appL rfl (.const (.slice none 0 0)) (.tmp 159) 31 rfl mpE_len mpE_one (by decide) wr.heap.size 39 i0 _ 16 Try.underlying31 HIT.out rfl _ [] rfl (World.ownsRow_nil _ _ _ _) X.E nE X.ce T.E HNN.out rfl HZN.out (HE.out.next (w := wr) ((Below.refl wr.heap.size wr).drew.alloc (Nat.le_refl _) (.cells #[.int .i64 m.a, .int .u16 m.m.toNat, .int .u8 m.p.toNat, .bool m.u] 39))) (by have := HLN.out; simp; omega) (by decide) (by simp) ?_
                        intro va wa hoa hga _
                        have HOA := Lib.hid (show wa.ownsRow wr.heap.size 39 4 va (T.E).length ((T.E).flatMap mpE) by simpa using hoa)
                        clear hoa
                        have HBA : Hid (Below wr.heap.size wr wa) := Lib.hid (((Below.refl wr.heap.size wr).drew.alloc (Nat.le_refl _) (.cells #[.int .i64 m.a, .int .u16 m.m.toNat, .int .u8 m.p.toNat, .bool m.u] 39)).grown hga (by simp) (fun j hj => by cases hj))
                        have HEA : Hid (Els 4 mpE wa (some ⟨wr.heap.size, 0, none⟩) [m]) := Lib.hid ((els_one16 wr.drew 39 m _ rfl).next ((Below.refl _ (wr.drew.alloc (.cells #[.int .i64 m.a, .int .u16 m.m.toNat, .int .u8 m.p.toNat, .bool m.u] 39))).grown hga (Nat.le_refl _) (fun j hj => by cases hj)))
                        clear hga
                        refine hK.out _ _ (Chg.of_below HBA.out) (fun hHeld => ?_)
                        clear hK K
                        try simp only [Act.put, List.getElem_toArray, List.getElem_cons_succ, List.getElem_cons_zero, List.setIfInBounds_toArray, List.set_cons_zero, List.set_cons_succ]
                        refine wpAnyH_ready (rs := [5]) (by kernel_rfl) (by simp) ?_
                        refine AllReadyH.cons rfl (fun K hK => ?_) AllReadyH.nil
                        refine step_appL rfl (.tmp 160) (.tmp 162) 31 rfl mpE_len mpE_one (by decide) wr.heap.size 39 i0 _ 16 Try.underlying31 HIT.out rfl va T.E rfl (HOA.out) (some ⟨wr.heap.size, 0, none⟩) 1 1 [m] rfl rfl (fun e => by cases e) (HEA.out) (by have := HLN.out; simp; omega) (by decide) (by exact HBA.out.size) ?_
                        intro v5 w5 ho5 hg5 _
                        have hb5 : Below wr.heap.size wr w5 := HBA.out.grown hg5 HBA.out.size (fun j hj => (HOA.out.lt j hj).1)
                        have HO9 := Lib.hid ho5
                        have HB9 : Hid (Below wr.heap.size wr w5) := Lib.hid (hb5)
                        have HK9 := Lib.hid (HK.out.below HB9.out HK.out.lt)
                        obtain ⟨A9, c9, e9, _⟩ := own_fullL mpE_len HO9.out
                        obtain ⟨m9, hm9⟩ : ∃ q_, (T.E ++ [m]).length = q_ := ⟨_, rfl⟩
                        rw [hm9] at e9
                        clear hm9
                        subst e9
                        have s0 := HK9.out.cell 2
                        have s1 := HK9.out.frozen 2
                        simp only [List.getElem?_toArray, List.getElem?_cons_succ, List.getElem?_cons_zero] at  s0
                        clear ho5 hg5 hb5
                        refine hK.out _ _ (Chg.of_below HB9.out) (fun hHeld => ?_)
                        clear hK K
                        try simp only [Act.put, List.getElem_toArray, List.getElem_cons_succ, List.getElem_cons_zero, List.setIfInBounds_toArray, List.set_cons_zero, List.set_cons_succ]
                        refine wpAnyH_take (i := 6) (v := ?v3) rfl (by kernel_rfl) (by kernel_rfl) (by kernel_rfl) (fun _ _ _ h => h) (Or.inl ⟨by rfl, ?hy3⟩) hHeld ?rest3
                        case hy3 =>
                          intro w_ hSw; go_simp
                          all_goals (with_reducible rfl)
                        try simp only [Act.put, List.getElem_toArray, List.getElem_cons_succ, List.getElem_cons_zero, List.setIfInBounds_toArray, List.set_cons_zero, List.set_cons_succ]
                        refine wpAnyH_ready (rs := [7]) (by kernel_rfl) (by simp) ?_
                        refine AllReadyH.cons rfl (fun K hK => ?_) AllReadyH.nil
                        go_simp
                        refine hK.out _ _ ((Chg.of_below (S := only w.heap.size) HB9.out).setCell (p := ⟨w.heap.size, 2, none⟩) (.inr rfl) _) (fun hHeld => ?_)
                        clear hK K
                        try simp only [Act.put, List.getElem_toArray, List.getElem_cons_succ, List.getElem_cons_zero, List.setIfInBounds_toArray, List.set_cons_zero, List.set_cons_succ]
                        refine wpAnyH_done (by kernel_rfl) ?_ _
                        refine NoPanic.normal ?_
                        clear hHeld
                        go_wp2_with fail
                        go_meet
                        exact ⟨_, _, rfl, HO9, HB9⟩
                    · refine AllReadyH.cons rfl (fun K hK => ?_) AllReadyH.nil
                      go_simp
                      refine hK.out _ _ (hHeld.alloc _) (fun hHeld => ?_)
                      clear hK K
                      try simp only [Act.put, List.getElem_toArray, List.getElem_cons_succ, List.getElem_cons_zero, List.setIfInBounds_toArray, List.set_cons_zero, List.set_cons_succ]
                      refine wpAnyH_ready (rs := [1]) (by kernel_rfl) (by simp) ?_
                      refine AllReadyH.cons rfl (fun K hK => ?_) AllReadyH.nil
                      have k3b : (wr.drew.alloc (.cells #[.int .i64 m.a, .int .u16 m.m.toNat, .int .u8 m.p.toNat, .bool m.u] 39)).cell? ⟨w.heap.size, 2, none⟩ = some (.slice X.E nE X.ce) := by
                        have h := ((HK.out.drew).alloc (.cells #[.int .i64 m.a, .int .u16 m.m.toNat, .int .u8 m.p.toNat, .bool m.u] 39)).cell 2
                        simpa only [List.getElem?_toArray, List.getElem?_cons_succ, List.getElem?_cons_zero] using h
                      go_simp
                      refine hK.out _ _ (hHeld) (fun hHeld => ?_)
                      clear hK K
                      try simp only [Act.put, List.getElem_toArray, List.getElem_cons_succ, List.getElem_cons_zero, List.setIfInBounds_toArray, List.set_cons_zero, List.set_cons_succ]
                      refine wpAnyH_ready (rs := [2]) (by kernel_rfl) (by simp) ?_
                      refine AllReadyH.cons rfl (fun K hK => ?_) AllReadyH.nil
                      refine step_appL rfl (.const (.slice none 0 0)) (.tmp 159) 31 rfl mpE_len mpE_one (by decide) wr.heap.size 39 i0 _ 16 Try.underlying31 HIT.out rfl _ [] rfl (World.ownsRow_nil _ _ _ _) X.E nE X.ce T.E HNN.out rfl HZN.out (HE.out.next (w := wr) ((Below.refl wr.heap.size wr).drew.alloc (Nat.le_refl _) (.cells #[.int .i64 m.a, .int .u16 m.m.toNat, .int .u8 m.p.toNat, .bool m.u] 39))) (by have := HLN.out; simp; omega) (by decide) (by simp) ?_
                      intro va wa hoa hga _
                      have HOA := Lib.hid (show wa.ownsRow wr.heap.size 39 4 va (T.E).length ((T.E).flatMap mpE) by simpa using hoa)
                      clear hoa
                      have HBA : Hid (Below wr.heap.size wr wa) := Lib.hid (((Below.refl wr.heap.size wr).drew.alloc (Nat.le_refl _) (.cells #[.int .i64 m.a, .int .u16 m.m.toNat, .int .u8 m.p.toNat, .bool m.u] 39)).grown hga (by simp) (fun j hj => by cases hj))
                      have HEA : Hid (Els 4 mpE wa (some ⟨wr.heap.size, 0, none⟩) [m]) := Lib.hid ((els_one16 wr.drew 39 m _ rfl).next ((Below.refl _ (wr.drew.alloc (.cells #[.int .i64 m.a, .int .u16 m.m.toNat, .int .u8 m.p.toNat, .bool m.u] 39))).grown hga (Nat.le_refl _) (fun j hj => by cases hj)))
                      clear hga
                      refine hK.out _ _ (Chg.of_below HBA.out) (fun hHeld => ?_)
                      clear hK K
                      try simp only [Act.put, List.getElem_toArray, List.getElem_cons_succ, List.getElem_cons_zero, List.setIfInBounds_toArray, List.set_cons_zero, List.set_cons_succ]
                      refine wpAnyH_ready (rs := [5]) (by kernel_rfl) (by simp) ?_
                      refine AllReadyH.cons rfl (fun K hK => ?_) AllReadyH.nil
                      refine step_appL rfl (.tmp 160) (.tmp 162) 31 rfl mpE_len mpE_one (by decide) wr.heap.size 39 i0 _ 16 Try.underlying31 HIT.out rfl va T.E rfl (HOA.out) (some ⟨wr.heap.size, 0, none⟩) 1 1 [m] rfl rfl (fun e => by cases e) (HEA.out) (by have := HLN.out; simp; omega) (by decide) (by exact HBA.out.size) ?_
                      intro v5 w5 ho5 hg5 _
                      have hb5 : Below wr.heap.size wr w5 := HBA.out.grown hg5 HBA.out.size (fun j hj => (HOA.out.lt j hj).1)
                      have HO9 := Lib.hid ho5
                      have HB9 : Hid (Below wr.heap.size wr w5) := Lib.hid (hb5)
                      have HK9 := Lib.hid (HK.out.below HB9.out HK.out.lt)
                      obtain ⟨A9, c9, e9, _⟩ := own_fullL mpE_len HO9.out
                      obtain ⟨m9, hm9⟩ : ∃ q_, (T.E ++ [m]).length = q_ := ⟨_, rfl⟩
                      rw [hm9] at e9
                      clear hm9
                      subst e9
                      have s0 := HK9.out.cell 2
                      have s1 := HK9.out.frozen 2
                      simp only [List.getElem?_toArray, List.getElem?_cons_succ, List.getElem?_cons_zero] at  s0
                      clear ho5 hg5 hb5
                      refine hK.out _ _ (Chg.of_below HB9.out) (fun hHeld => ?_)
                      clear hK K
                      try simp only [Act.put, List.getElem_toArray, List.getElem_cons_succ, List.getElem_cons_zero, List.setIfInBounds_toArray, List.set_cons_zero, List.set_cons_succ]
                      refine wpAnyH_take (i := 6) (v := ?v4) rfl (by kernel_rfl) (by kernel_rfl) (by kernel_rfl) (fun _ _ _ h => h) (Or.inl ⟨by rfl, ?hy4⟩) hHeld ?rest4
                      case hy4 =>
                        intro w_ hSw; go_simp
                        all_goals (with_reducible rfl)
                      try simp only [Act.put, List.getElem_toArray, List.getElem_cons_succ, List.getElem_cons_zero, List.setIfInBounds_toArray, List.set_cons_zero, List.set_cons_succ]
                      refine wpAnyH_ready (rs := [7]) (by kernel_rfl) (by simp) ?_
                      refine AllReadyH.cons rfl (fun K hK => ?_) AllReadyH.nil
                      go_simp
                      refine hK.out _ _ ((Chg.of_below (S := only w.heap.size) HB9.out).setCell (p := ⟨w.heap.size, 2, none⟩) (.inr rfl) _) (fun hHeld => ?_)
                      clear hK K
                      try simp only [Act.put, List.getElem_toArray, List.getElem_cons_succ, List.getElem_cons_zero, List.setIfInBounds_toArray, List.set_cons_zero, List.set_cons_succ]
                      refine wpAnyH_done (by kernel_rfl) ?_ _
                      refine NoPanic.normal ?_
                      clear hHeld
                      go_wp2_with fail
                      go_meet
                      exact ⟨_, _, rfl, HO9, HB9⟩
                  obtain ⟨v9, w5, rfl, HO9, HB9⟩ := hcut
                  have HK9 := Lib.hid (HK.out.below HB9.out HK.out.lt)
                  have HR9 := Lib.hid (HR.out.below HB9.out HR.out.lt)
                  have HBW9 : Hid (Below w.heap.size w w5) := Lib.hid (HB.out.trans (HB9.out.mono HB.out.size))
                  obtain ⟨A9, c9, rfl, hE9, _, hz9, hA9⟩ := own_fullL mpE_len HO9.out
                  obtain ⟨m9, hm9⟩ : ∃ q_, (T.E ++ [m]).length = q_ := ⟨_, rfl⟩
                  have HM9 := Lib.hid hm9
                  have HE9 := Lib.hid (And.intro hE9 (And.intro hz9 hA9))
                  rw [hm9]
                  have HKs : Hid (Blk (w5.setCell ⟨w.heap.size, 2, none⟩ (.slice A9 m9 c9)) w.heap.size 34 #[.int .i64 (T.n : Int), .slice X.A nA X.ca, .slice A9 m9 c9, .slice X.M nM X.cm]) := Lib.hid (by
                    have := HK9.out.put 2 (.slice A9 m9 c9)
                    simpa using this)
                  have HRs : Hid (Blk (w5.setCell ⟨w.heap.size, 2, none⟩ (.slice A9 m9 c9)) (w.heap.size + 2) 34 #[.int .i64 0, .slice none 0 0, .slice none 0 0, .slice none 0 0]) := Lib.hid (HR9.out.far (p := ⟨w.heap.size, 2, none⟩) (by show w.heap.size + 2 ≠ w.heap.size; omega) _)
                  have HBs : Hid (Below w.heap.size w (w5.setCell ⟨w.heap.size, 2, none⟩ (.slice A9 m9 c9))) := Lib.hid (HBW9.out.setCell (p := ⟨w.heap.size, 2, none⟩) (Nat.le_refl _) _)
                  have HC : Hid (∀ cs, Chg (fun j => j = w.heap.size ∨ j = w.heap.size + 2) w5 ((w5.setCell ⟨w.heap.size, 2, none⟩ (.slice A9 m9 c9)).setRow (w.heap.size + 2) cs)) := Lib.hid (fun cs => ((Chg.refl _ _).setCell (p := ⟨w.heap.size, 2, none⟩) (.inr (.inl rfl)) _).setRow (.inr (.inr rfl)) _)
                  have hw2 : w.heap.size + 2 < wr.heap.size := HR.out.lt
                  have HW2 := Lib.hid hw2
                  have s0 := HKs.out.cell 0
                  have s1 := HKs.out.cell 1
                  have s2 := HKs.out.cell 2
                  have s3 := HKs.out.cell 3
                  simp only [List.getElem?_toArray, List.getElem?_cons_succ, List.getElem?_cons_zero] at  s0 s1 s2 s3
                  clear hm9 hE9 hz9 hA9 HO9 hw2
                  go_wp2_with (refine wpList_store_row rfl 34 (.tmp 4) (.tmp 165) rfl (w.heap.size + 2) rfl _ rfl 34 _ HRs.out (by kernel_rfl) rfl (by kernel_rfl) ?_)
                  refine bodyPost_ret (v := .tuple #[.agg #[.int .i64 (T.n : Int), .slice X.A nA X.ca, .slice A9 m9 c9, .slice X.M nM X.cm], .int .i64 0]) (results_cell_slot (p := 4) (q := 5) (by kernel_rfl) _ _ (w.heap.size + 2) 34 _ _ rfl (Blk.row HRs.out _) Try.underlying34 rfl (by kernel_rfl) _ rfl) rfl ?_
                  rw [HD.out]
                  refine ⟨{ X with E := A9, ce := c9 }, by rw [← HM9.out, ← HNS.out.1, ← HNS.out.2.2]; rfl, ?_, below_row HBs.out (by omega) _⟩
                  have h := HT.out.next (below_row (g := w.heap.size + 2) HBs.out (by omega) #[.int .i64 (T.n : Int), .slice X.A nA X.ca, .slice A9 m9 c9, .slice X.M nM X.cm])
                  have hN := elsL_chg HE9.out.1 (HC.out #[.int .i64 (T.n : Int), .slice X.A nA X.ca, .slice A9 m9 c9, .slice X.M nM X.cm]) (fun a ha hh => by have := (HE9.out.2.2 a ha).1; have := HW2.out; rcases hh with hh | hh <;> omega)
                  exact ⟨h.la, h.ea, h.em, hN, h.mm, h.za, HE9.out.2.1, h.zm⟩
  · have HD : Hid (T.addE m = (T, 2)) := Lib.hid (by
      unfold Tb.addE Tb.hasE
      rw [if_pos]
      by_cases h1 : 0 ≤ m.a
      · by_cases h2 : m.a < T.A.length
        · rw [decide_eq_false (fun h3 => hR ⟨h1, h2, h3⟩)]
          simp
        · rw [decide_eq_false h2]
          simp
      · rw [decide_eq_false h1]
        rfl)
    have hq : m.a < 0 ∨ (¬ m.a < 0 ∧ ((nA : Int) ≤ m.a ∨ (m.a < (nA : Int) ∧ (T.n : Int) ≤ (m.p.toNat : Int)))) := by
      have := HNS.out.1
      by_cases h1 : 0 ≤ m.a
      · by_cases h2 : m.a < T.A.length
        · by_cases h3 : m.p.toNat < T.n
          · exact absurd ⟨h1, h2, h3⟩ hR
          · exact .inr ⟨by omega, .inr ⟨by omega, by omega⟩⟩
        · exact .inr ⟨by omega, .inl (by omega)⟩
      · exact .inl (by omega)
    clear hR
    have x0 := HX0.out.cell 0
    have x1 := HX0.out.cell 1
    have x2 := HX0.out.cell 2
    have x3 := HX0.out.cell 3
    simp only [List.getElem?_toArray, List.getElem?_cons_succ, List.getElem?_cons_zero] at x0 x1 x2 x3
    rcases hq with p1 | ⟨p1, p2 | ⟨p2, p3⟩⟩
    all_goals (
      go_enter Try.func24, Try.ntmps24
      have k0 := HK0.out.cell 0
      have k1 := HK0.out.cell 1
      have k2 := HK0.out.cell 2
      have k3 := HK0.out.cell 3
      simp only [List.getElem?_toArray, List.getElem?_cons_succ, List.getElem?_cons_zero] at  k0 k1 k2 k3
      go_wp2_with (first | (rw [hw0]) | refine wpList_store_row rfl 34 (.tmp 4) (.tmp 32) rfl (w.heap.size + 2) rfl _ rfl 34 _ HR0.out (by kernel_rfl) rfl (by kernel_rfl) ?_)
      refine bodyPost_ret (v := .tuple #[.agg #[.int .i64 (T.n : Int), .slice X.A nA X.ca, .slice X.E nE X.ce, .slice X.M nM X.cm], .int .i64 2]) (results_cell_slot (p := 4) (q := 5) (by kernel_rfl) _ _ (w.heap.size + 2) 34 _ _ rfl (Blk.row HR0.out _) Try.underlying34 rfl (by kernel_rfl) _ rfl) rfl ?_
      rw [HD.out]
      exact ⟨X, by rw [← HNS.out.1, ← HNS.out.2.1, ← HNS.out.2.2]; rfl, HT.out.next (below_row HB0.out (by omega) _), below_row HB0.out (by omega) _⟩
)
end Go.Proofs.Ytfdiolfelecccaa
