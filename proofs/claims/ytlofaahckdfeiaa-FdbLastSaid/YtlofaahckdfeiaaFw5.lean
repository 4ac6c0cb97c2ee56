/- Package fdb: Learn. -/
import Derived.Test.YtlofaahckdfeiaaFw4
import Derived.Deep.DeepCutAuto
import Derived.Deep.CutBlock
namespace Go.Proofs.Ytlofaahckdfeiaa
open Go.RowKit
set_option linter.unusedVariables false
set_option linter.unusedSimpArgs false
set_option maxRecDepth 100000

theorem step_append_own2 {P : Program} {w : World} {ops : Array Oper} {o : Oper} {a : Act} {K : Act → World → Prop} {Q : Exit → Act → World → Prop} {E : Prop} (hgd : o.guard = none) (s x : Operand) (t : TypeId)
    (ho : o.op = .call { callee := .builtin .append, args := #[s, x], argTypes := #[t, t] })
    (base : Nat) (e : TypeId) (i : TypeInfo) (z : Value) (size bytes : Nat) (ht : P.underlying t = some (.slice e)) (hi : P.info? e = some i) (hz : i.zero = some z)
    (hsize : i.size = size) (hby : i.bytes = bytes) (hzs : z.cells.size = size) (hsz : 0 < size)
    (v : Value) (n : Nat) (xs : List Value) (hs : a.eval s = v) (hown : w.ownsRow base e size v n xs)
    (ad : Addr) (m c : Nat) (news : List Value) (hx : a.eval x = .slice (some ad) m c) (hl : news.length = m * size) (hnews : ∀ j u, news[j]? = some u → w.cell? (ad.add j) = some u) (h1 : ∀ u ∈ news, u.oneCell' = true)
    (h63 : n + m ≤ maxLen) (hbytes : (n + m) * bytes ≤ 140737488355328) (hbase : base ≤ w.heap.size)
    (h : ∀ v' w', w'.ownsRow base e size v' (n + m) (xs ++ news) → w.grownBy w' v.ownBlock → (v'.ownBlock = v.ownBlock ∨ v'.ownBlock = some w.heap.size) → K (a.put o.dst v') w') :
    if Region.wanted o (yielded ops a.tmps) = true then Oper.wp P o a w K Q else E := by
  have hw : Region.wanted o (yielded ops a.tmps) = true := by simp [Region.wanted, hgd]
  rw [if_pos hw]
  obtain ⟨v', w', hr, h2, h3, _, h5⟩ := run_append_own_at (P := P) w base t o.type e i z size bytes ht hi hz hsize hby hzs hsz v n xs hown ad m c news hl hnews h1 h63 hbytes hbase
  unfold Oper.wp execOp
  simp only [ho, resolve, invoke, builtin, Sem.run_bind, Sem.run_pure, Result.andThen_ok, List.map_toArray, List.map_cons, List.map_nil, hs, hx, hr]
  exact h _ _ h2 h3 h5
theorem mcells {w : World} {g : Nat} {m : Mc} (h : Blk w g 25 #[.int .u8 m.a.toNat, .int .u8 m.b.toNat, .int .u8 m.c.toNat, .int .u8 m.d.toNat, .int .u8 m.e.toNat, .int .u8 m.f.toNat]) : w.cell? ⟨g, 0, none⟩ = some (.int .u8 m.a.toNat) ∧ w.cell? ⟨g, 1, none⟩ = some (.int .u8 m.b.toNat) ∧ w.cell? ⟨g, 2, none⟩ = some (.int .u8 m.c.toNat) ∧ w.cell? ⟨g, 3, none⟩ = some (.int .u8 m.d.toNat) ∧ w.cell? ⟨g, 4, none⟩ = some (.int .u8 m.e.toNat) ∧ w.cell? ⟨g, 5, none⟩ = some (.int .u8 m.f.toNat) := ⟨h.cell 0, h.cell 1, h.cell 2, h.cell 3, h.cell 4, h.cell 5⟩
theorem plcells {w : World} {g : Nat} {v : UInt16} {m : Mc} (h : Blk w g 71 #[.int .u16 v.toNat, .int .u8 m.a.toNat, .int .u8 m.b.toNat, .int .u8 m.c.toNat, .int .u8 m.d.toNat, .int .u8 m.e.toNat, .int .u8 m.f.toNat]) : w.cell? ⟨g, 0, none⟩ = some (.int .u16 v.toNat) ∧ w.cell? ⟨g, 1, none⟩ = some (.int .u8 m.a.toNat) ∧ w.cell? ⟨g, 2, none⟩ = some (.int .u8 m.b.toNat) ∧ w.cell? ⟨g, 3, none⟩ = some (.int .u8 m.c.toNat) ∧ w.cell? ⟨g, 4, none⟩ = some (.int .u8 m.d.toNat) ∧ w.cell? ⟨g, 5, none⟩ = some (.int .u8 m.e.toNat) ∧ w.cell? ⟨g, 6, none⟩ = some (.int .u8 m.f.toNat) := ⟨h.cell 0, h.cell 1, h.cell 2, h.cell 3, h.cell 4, h.cell 5, h.cell 6⟩
/-- learnt: the place's entry is the last one -/
def lput (L : List En) (k : Pl) (p : UInt8) : List En := (if (lwo L k).length = 32 then (lwo L k).drop 1 else lwo L k) ++ [⟨k, p, 0⟩]
set_option maxHeartbeats 1000000 in
theorem learn_nil (w : World) (v : UInt16) (m : Mc) (p : UInt8) : Calls Try.prog 16 #[.pointer none, .int .u16 v.toNat, mV m, .int .u8 p.toNat] w fun e w' => e = .returned (.tuple #[]) ∧ Gro w w' := by
  go_enter Try.func16, Try.ntmps16
  go_wp2
  exact bodyPost_ret (v := .tuple #[]) (by simp [results, Try.results16, go_sem]) rfl ⟨rfl, ((Gro.refl w).alloc _).alloc _⟩
set_option maxHeartbeats 2000000 in
theorem learn_bad1 {w : World} {t c : Nat} {A : Option Addr} {mb : Option Nat} {L : List En} {S : List (Pl × UInt8)} (h : Tab w t A c mb L S) (v : UInt16) (m : Mc) (p : UInt8) (hb : grp m = true) :
    Calls Try.prog 16 #[.pointer (some ⟨t, 0, none⟩), .int .u16 v.toNat, mV m, .int .u8 p.toNat] w fun e w' => e = .returned (.tuple #[]) ∧ Gro w w' := by
  obtain ⟨w1, hw1⟩ : ∃ w1, (w.alloc (.cells #[.int .u8 m.a.toNat, .int .u8 m.b.toNat, .int .u8 m.c.toNat, .int .u8 m.d.toNat, .int .u8 m.e.toNat, .int .u8 m.f.toNat] 25)).alloc (.cells #[.int .u16 v.toNat, .int .u8 m.a.toNat, .int .u8 m.b.toNat, .int .u8 m.c.toNat, .int .u8 m.d.toNat, .int .u8 m.e.toNat, .int .u8 m.f.toNat] 71) = w1 := ⟨_, rfl⟩
  obtain ⟨g, hg⟩ : ∃ g, w.heap.size = g := ⟨_, rfl⟩
  have hG : Gro w w1 := by rw [← hw1]; exact ((Gro.refl w).alloc _).alloc _
  have hM : Blk w1 g 25 #[.int .u8 m.a.toNat, .int .u8 m.b.toNat, .int .u8 m.c.toNat, .int .u8 m.d.toNat, .int .u8 m.e.toNat, .int .u8 m.f.toNat] := by rw [← hw1, ← hg]; exact (Blk.new w _ _).alloc _
  have hP : Blk w1 (g + 1) 71 #[.int .u16 v.toNat, .int .u8 m.a.toNat, .int .u8 m.b.toNat, .int .u8 m.c.toNat, .int .u8 m.d.toNat, .int .u8 m.e.toNat, .int .u8 m.f.toNat] := by
    rw [← hw1, ← hg]
    have := Blk.new (w.alloc (.cells #[.int .u8 m.a.toNat, .int .u8 m.b.toNat, .int .u8 m.c.toNat, .int .u8 m.d.toNat, .int .u8 m.e.toNat, .int .u8 m.f.toNat] 25)) 71 #[.int .u16 v.toNat, .int .u8 m.a.toNat, .int .u8 m.b.toNat, .int .u8 m.c.toNat, .int .u8 m.d.toNat, .int .u8 m.e.toNat, .int .u8 m.f.toNat]
    simpa using this
  have HT1 := Lib.hid (h.gro hG)
  have HG1 := Lib.hid hG
  have HM1 := Lib.hid hM
  have HP1 := Lib.hid hP
  have HLT : Hid (∀ k, tset t A mb k → k < g) := Lib.hid (by rw [← hg]; exact h.lt)
  clear h hG
  obtain ⟨m0, m1, m2, m3, m4, m5⟩ := mcells hM
  have HQ := Lib.hid hb
  clear hM hP hb
  go_enter Try.func16, Try.ntmps16
  go_wp2_with fail
  refine (group_any _ m).mono ?_
  rw [HQ.out]
  rintro e w2 ⟨rfl, hgr⟩
  have HGE := Lib.hid (HG1.out.trans hgr)
  clear hgr
  go_wp2_with fail
  exact bodyPost_ret (v := .tuple #[]) (by simp [results, Try.results16, go_sem]) rfl ⟨rfl, HGE.out⟩
set_option maxHeartbeats 2000000 in
theorem learn_bad2 {w : World} {t c : Nat} {A : Option Addr} {mb : Option Nat} {L : List En} {S : List (Pl × UInt8)} (h : Tab w t A c mb L S) (v : UInt16) (m : Mc) (p : UInt8) (hb : grp m = false) (hp : 8 ≤ p.toNat) :
    Calls Try.prog 16 #[.pointer (some ⟨t, 0, none⟩), .int .u16 v.toNat, mV m, .int .u8 p.toNat] w fun e w' => e = .returned (.tuple #[]) ∧ Gro w w' := by
  obtain ⟨w1, hw1⟩ : ∃ w1, (w.alloc (.cells #[.int .u8 m.a.toNat, .int .u8 m.b.toNat, .int .u8 m.c.toNat, .int .u8 m.d.toNat, .int .u8 m.e.toNat, .int .u8 m.f.toNat] 25)).alloc (.cells #[.int .u16 v.toNat, .int .u8 m.a.toNat, .int .u8 m.b.toNat, .int .u8 m.c.toNat, .int .u8 m.d.toNat, .int .u8 m.e.toNat, .int .u8 m.f.toNat] 71) = w1 := ⟨_, rfl⟩
  obtain ⟨g, hg⟩ : ∃ g, w.heap.size = g := ⟨_, rfl⟩
  have hG : Gro w w1 := by rw [← hw1]; exact ((Gro.refl w).alloc _).alloc _
  have hM : Blk w1 g 25 #[.int .u8 m.a.toNat, .int .u8 m.b.toNat, .int .u8 m.c.toNat, .int .u8 m.d.toNat, .int .u8 m.e.toNat, .int .u8 m.f.toNat] := by rw [← hw1, ← hg]; exact (Blk.new w _ _).alloc _
  have hP : Blk w1 (g + 1) 71 #[.int .u16 v.toNat, .int .u8 m.a.toNat, .int .u8 m.b.toNat, .int .u8 m.c.toNat, .int .u8 m.d.toNat, .int .u8 m.e.toNat, .int .u8 m.f.toNat] := by
    rw [← hw1, ← hg]
    have := Blk.new (w.alloc (.cells #[.int .u8 m.a.toNat, .int .u8 m.b.toNat, .int .u8 m.c.toNat, .int .u8 m.d.toNat, .int .u8 m.e.toNat, .int .u8 m.f.toNat] 25)) 71 #[.int .u16 v.toNat, .int .u8 m.a.toNat, .int .u8 m.b.toNat, .int .u8 m.c.toNat, .int .u8 m.d.toNat, .int .u8 m.e.toNat, .int .u8 m.f.toNat]
    simpa using this
  have HT1 := Lib.hid (h.gro hG)
  have HG1 := Lib.hid hG
  have HM1 := Lib.hid hM
  have HP1 := Lib.hid hP
  have HLT : Hid (∀ k, tset t A mb k → k < g) := Lib.hid (by rw [← hg]; exact h.lt)
  clear h hG
  obtain ⟨m0, m1, m2, m3, m4, m5⟩ := mcells hM
  have HQ := Lib.hid hb
  have hpi : (8 : Int) ≤ (p.toNat : Int) := by omega
  clear hM hP hb hp
  go_enter Try.func16, Try.ntmps16
  go_wp2_with fail
  refine (group_any _ m).mono ?_
  rw [HQ.out]
  rintro e w2 ⟨rfl, hgr⟩
  have HGE := Lib.hid (HG1.out.trans hgr)
  clear hgr
  go_wp2_with fail
  exact bodyPost_ret (v := .tuple #[]) (by simp [results, Try.results16, go_sem]) rfl ⟨rfl, HGE.out⟩
set_option maxHeartbeats 2000000 in
theorem learn_bad3 {w : World} {t c : Nat} {A : Option Addr} {mb : Option Nat} {L : List En} {S : List (Pl × UInt8)} (h : Tab w t A c mb L S) (v : UInt16) (m : Mc) (p : UInt8) (hb : grp m = false) (hp : p.toNat < 8) (hv : okVid v = false) :
    Calls Try.prog 16 #[.pointer (some ⟨t, 0, none⟩), .int .u16 v.toNat, mV m, .int .u8 p.toNat] w fun e w' => e = .returned (.tuple #[]) ∧ Gro w w' := by
  obtain ⟨w1, hw1⟩ : ∃ w1, (w.alloc (.cells #[.int .u8 m.a.toNat, .int .u8 m.b.toNat, .int .u8 m.c.toNat, .int .u8 m.d.toNat, .int .u8 m.e.toNat, .int .u8 m.f.toNat] 25)).alloc (.cells #[.int .u16 v.toNat, .int .u8 m.a.toNat, .int .u8 m.b.toNat, .int .u8 m.c.toNat, .int .u8 m.d.toNat, .int .u8 m.e.toNat, .int .u8 m.f.toNat] 71) = w1 := ⟨_, rfl⟩
  obtain ⟨g, hg⟩ : ∃ g, w.heap.size = g := ⟨_, rfl⟩
  have hG : Gro w w1 := by rw [← hw1]; exact ((Gro.refl w).alloc _).alloc _
  have hM : Blk w1 g 25 #[.int .u8 m.a.toNat, .int .u8 m.b.toNat, .int .u8 m.c.toNat, .int .u8 m.d.toNat, .int .u8 m.e.toNat, .int .u8 m.f.toNat] := by rw [← hw1, ← hg]; exact (Blk.new w _ _).alloc _
  have hP : Blk w1 (g + 1) 71 #[.int .u16 v.toNat, .int .u8 m.a.toNat, .int .u8 m.b.toNat, .int .u8 m.c.toNat, .int .u8 m.d.toNat, .int .u8 m.e.toNat, .int .u8 m.f.toNat] := by
    rw [← hw1, ← hg]
    have := Blk.new (w.alloc (.cells #[.int .u8 m.a.toNat, .int .u8 m.b.toNat, .int .u8 m.c.toNat, .int .u8 m.d.toNat, .int .u8 m.e.toNat, .int .u8 m.f.toNat] 25)) 71 #[.int .u16 v.toNat, .int .u8 m.a.toNat, .int .u8 m.b.toNat, .int .u8 m.c.toNat, .int .u8 m.d.toNat, .int .u8 m.e.toNat, .int .u8 m.f.toNat]
    simpa using this
  have HT1 := Lib.hid (h.gro hG)
  have HG1 := Lib.hid hG
  have HM1 := Lib.hid hM
  have HP1 := Lib.hid hP
  have HLT : Hid (∀ k, tset t A mb k → k < g) := Lib.hid (by rw [← hg]; exact h.lt)
  clear h hG
  obtain ⟨m0, m1, m2, m3, m4, m5⟩ := mcells hM
  have HQ := Lib.hid hb
  have HV := Lib.hid hv
  have hpi : ¬ (8 : Int) ≤ (p.toNat : Int) := by omega
  clear hM hP hb hp hv
  go_enter Try.func16, Try.ntmps16
  go_wp2_with fail
  refine (group_any _ m).mono ?_
  rw [HQ.out]
  rintro e w2 ⟨rfl, hgr⟩
  have HG2 := Lib.hid (HG1.out.trans hgr)
  clear hgr
  go_wp2_with fail
  refine (canBe_any _ v).mono ?_
  rw [HV.out]
  rintro e w3 ⟨rfl, hgr⟩
  have HGE := Lib.hid (HG2.out.trans hgr)
  clear hgr
  go_wp2_with fail
  exact bodyPost_ret (v := .tuple #[]) (by simp [results, Try.results16, go_sem]) rfl ⟨rfl, HGE.out⟩
set_option maxHeartbeats 2000000 in
theorem learn_bad4 {w : World} {t c : Nat} {A : Option Addr} {mb : Option Nat} {L : List En} {S : List (Pl × UInt8)} (h : Tab w t A c mb L S) (v : UInt16) (m : Mc) (p : UInt8) (hb : grp m = false) (hp : p.toNat < 8) (hv : okVid v = true) (hs : shas S (Pl.mk v m) = true) :
    Calls Try.prog 16 #[.pointer (some ⟨t, 0, none⟩), .int .u16 v.toNat, mV m, .int .u8 p.toNat] w fun e w' => e = .returned (.tuple #[]) ∧ Gro w w' := by
  obtain ⟨w1, hw1⟩ : ∃ w1, (w.alloc (.cells #[.int .u8 m.a.toNat, .int .u8 m.b.toNat, .int .u8 m.c.toNat, .int .u8 m.d.toNat, .int .u8 m.e.toNat, .int .u8 m.f.toNat] 25)).alloc (.cells #[.int .u16 v.toNat, .int .u8 m.a.toNat, .int .u8 m.b.toNat, .int .u8 m.c.toNat, .int .u8 m.d.toNat, .int .u8 m.e.toNat, .int .u8 m.f.toNat] 71) = w1 := ⟨_, rfl⟩
  obtain ⟨g, hg⟩ : ∃ g, w.heap.size = g := ⟨_, rfl⟩
  have hG : Gro w w1 := by rw [← hw1]; exact ((Gro.refl w).alloc _).alloc _
  have hM : Blk w1 g 25 #[.int .u8 m.a.toNat, .int .u8 m.b.toNat, .int .u8 m.c.toNat, .int .u8 m.d.toNat, .int .u8 m.e.toNat, .int .u8 m.f.toNat] := by rw [← hw1, ← hg]; exact (Blk.new w _ _).alloc _
  have hP : Blk w1 (g + 1) 71 #[.int .u16 v.toNat, .int .u8 m.a.toNat, .int .u8 m.b.toNat, .int .u8 m.c.toNat, .int .u8 m.d.toNat, .int .u8 m.e.toNat, .int .u8 m.f.toNat] := by
    rw [← hw1, ← hg]
    have := Blk.new (w.alloc (.cells #[.int .u8 m.a.toNat, .int .u8 m.b.toNat, .int .u8 m.c.toNat, .int .u8 m.d.toNat, .int .u8 m.e.toNat, .int .u8 m.f.toNat] 25)) 71 #[.int .u16 v.toNat, .int .u8 m.a.toNat, .int .u8 m.b.toNat, .int .u8 m.c.toNat, .int .u8 m.d.toNat, .int .u8 m.e.toNat, .int .u8 m.f.toNat]
    simpa using this
  have HT1 := Lib.hid (h.gro hG)
  have HG1 := Lib.hid hG
  have HM1 := Lib.hid hM
  have HP1 := Lib.hid hP
  have HLT : Hid (∀ k, tset t A mb k → k < g) := Lib.hid (by rw [← hg]; exact h.lt)
  clear h hG
  obtain ⟨m0, m1, m2, m3, m4, m5⟩ := mcells hM
  have HQ := Lib.hid hb
  have HV := Lib.hid hv
  have HS := Lib.hid hs
  have hpi : ¬ (8 : Int) ≤ (p.toNat : Int) := by omega
  clear hM hP hb hv hs
  clear hp
  go_enter Try.func16, Try.ntmps16
  go_wp2_with fail
  refine (group_any _ m).mono ?_
  rw [HQ.out]
  rintro e w2 ⟨rfl, hgr⟩
  have HT2 := Lib.hid (HT1.out.gro hgr)
  have HG2 := Lib.hid (HG1.out.trans hgr)
  have HM2 := Lib.hid (hgr.blk HM1.out)
  have HP2 := Lib.hid (hgr.blk HP1.out)
  clear hgr m0 m1 m2 m3 m4 m5
  go_wp2_with fail
  refine (canBe_any _ v).mono ?_
  rw [HV.out]
  rintro e w3 ⟨rfl, hgr⟩
  have HT3 := Lib.hid (HT2.out.gro hgr)
  have HG3 := Lib.hid (HG2.out.trans hgr)
  have HM3 := Lib.hid (hgr.blk HM2.out)
  have HP3 := Lib.hid (hgr.blk HP2.out)
  clear hgr 
  obtain ⟨p0, p1, p2, p3, p4, p5, p6⟩ := plcells HP3.out
  go_wp2_with fail
  refine (isStatic_any HT3.out (Pl.mk v m)).mono ?_
  rw [HS.out]
  rintro e w4 ⟨rfl, hgr⟩
  have HT4 := Lib.hid (HT3.out.gro hgr)
  have HG4 := Lib.hid (HG3.out.trans hgr)
  have HM4 := Lib.hid (hgr.blk HM3.out)
  have HP4 := Lib.hid (hgr.blk HP3.out)
  clear hgr p0 p1 p2 p3 p4 p5 p6
  have HGE := HG4
  go_wp2_with fail
  exact bodyPost_ret (v := .tuple #[]) (by simp [results, Try.results16, go_sem]) rfl ⟨rfl, HGE.out⟩

/-- what the append at the end of Learn leaves -/
theorem learn_end {w w6 : World} {t c n : Nat} {A : Option Addr} {mb : Option Nat} {L : List En} {S : List (Pl × UInt8)} (h : Tab w t A c mb L S) (k : Pl) (p : UInt8) (hn : L.length = n) (h31 : n ≤ 31) (hp : p.toNat < 8) {o : Obj} {v6 : Value}
    (ho : w6.ownsRow 0 64 9 v6 (n + 1) (L.flatMap enV ++ enV ⟨k, p, 0⟩)) (hg : (w.drew.alloc o).grownBy w6 (Value.slice A n c).ownBlock) (hob : v6.ownBlock = (Value.slice A n c).ownBlock ∨ v6.ownBlock = some (w.drew.alloc o).heap.size) :
    ∃ A6 c6, v6 = .slice A6 (n + 1) c6 ∧ Tab (w6.setCell ⟨t, 0, none⟩ (.slice A6 (n + 1) c6)) t A6 c6 mb (L ++ [⟨k, p, 0⟩]) S ∧ Chg (tset t A mb) w (w6.setCell ⟨t, 0, none⟩ (.slice A6 (n + 1) c6)) ∧ ∀ b, rb A6 = some b → rb A = some b ∨ w.heap.size ≤ b := by
  have ho' : w6.ownsRow 0 64 9 v6 (L ++ [En.mk k p 0]).length ((L ++ [En.mk k p 0]).flatMap enV) := by
    rw [List.length_append, hn, List.flatMap_append]
    simpa using ho
  obtain ⟨A6, c6, hv, _⟩ := own_elsB (k := 9) (enc := enV) enV_len ho'
  have hlen : (L ++ [En.mk k p 0]).length = n + 1 := by rw [List.length_append, hn]; rfl
  rw [hlen] at hv
  subst hv
  rw [rb_own, rb_own] at hob
  rw [rb_own] at hg
  have hc : Chg (fun k => rb A = some k) w w6 := ((Chg.refl (fun k => rb A = some k) w).drew.alloc o).trans (Chg.of_grown hg (fun k e => .inr e))
  have hr : ∀ b, rb A6 = some b → rb A = some b ∨ w.heap.size ≤ b := by
    intro b hb
    rcases hob with e | e
    · exact .inl (e ▸ hb)
    · rw [hb] at e
      cases e
      exact .inr (by simp)
  have hrow : w6.ownsRow 0 64 9 (.slice A6 (L ++ [En.mk k p 0]).length c6) (L ++ [En.mk k p 0]).length ((L ++ [En.mk k p 0]).flatMap enV) := by rw [hlen] at ho' ⊢; exact ho'
  have := h.setRow hc hrow (fun e => by
      rcases hr t e with e' | e'
      · exact h.neRow e'
      · have := h.lt0; omega) (by omega) (fun e he => by
      rcases List.mem_append.1 he with he | he
      · exact h.age e he
      · obtain rfl : e = ⟨k, p, 0⟩ := by simpa using he
        exact Nat.zero_le _) (fun e he => by
      rcases List.mem_append.1 he with he | he
      · exact h.prt e he
      · obtain rfl : e = ⟨k, p, 0⟩ := by simpa using he
        exact hp)
  rw [hlen] at this
  exact ⟨A6, c6, rfl, this.1, this.2, hr⟩
theorem learn_cell {w w6 : World} {t c n : Nat} {A : Option Addr} {mb : Option Nat} {L : List En} {S : List (Pl × UInt8)} (h : Tab w t A c mb L S) {o : Obj} (hg : (w.drew.alloc o).grownBy w6 (Value.slice A n c).ownBlock) :
    w6.cell? ⟨t, 0, none⟩ = some (.slice A L.length c) ∧ w6.frozen? ⟨t, 0, none⟩ = false := by
  rw [rb_own] at hg
  have hb : Blk w6 t 62 #[.slice A L.length c, .map mb] := (hg.block t (by have := h.lt0; simp; omega) (fun e => h.neRow e.symm)).trans (h.drew.blk.alloc o)
  exact ⟨hb.cell 0, hb.frozen 0⟩
set_option maxRecDepth 100000 in
set_option maxHeartbeats 4000000 in
theorem learn_ok {w : World} {t c : Nat} {A : Option Addr} {mb : Option Nat} {L : List En} {S : List (Pl × UInt8)} (h : Tab w t A c mb L S) (v : UInt16) (m : Mc) (p : UInt8) (hb : grp m = false) (hp : p.toNat < 8) (hv : okVid v = true) (hs : shas S (Pl.mk v m) = false) :
    Calls Try.prog 16 #[.pointer (some ⟨t, 0, none⟩), .int .u16 v.toNat, mV m, .int .u8 p.toNat] w fun e w' => e = .returned (.tuple #[]) ∧ ∃ A' c', Tab w' t A' c' mb (lput L (Pl.mk v m) p) S ∧ Chg (tset t A mb) w w' ∧ ∀ b, rb A' = some b → rb A = some b ∨ w.heap.size ≤ b := by
  obtain ⟨w1, hw1⟩ : ∃ w1, (w.alloc (.cells #[.int .u8 m.a.toNat, .int .u8 m.b.toNat, .int .u8 m.c.toNat, .int .u8 m.d.toNat, .int .u8 m.e.toNat, .int .u8 m.f.toNat] 25)).alloc (.cells #[.int .u16 v.toNat, .int .u8 m.a.toNat, .int .u8 m.b.toNat, .int .u8 m.c.toNat, .int .u8 m.d.toNat, .int .u8 m.e.toNat, .int .u8 m.f.toNat] 71) = w1 := ⟨_, rfl⟩
  obtain ⟨g, hg⟩ : ∃ g, w.heap.size = g := ⟨_, rfl⟩
  have hG : Gro w w1 := by rw [← hw1]; exact ((Gro.refl w).alloc _).alloc _
  have hM : Blk w1 g 25 #[.int .u8 m.a.toNat, .int .u8 m.b.toNat, .int .u8 m.c.toNat, .int .u8 m.d.toNat, .int .u8 m.e.toNat, .int .u8 m.f.toNat] := by rw [← hw1, ← hg]; exact (Blk.new w _ _).alloc _
  have hP : Blk w1 (g + 1) 71 #[.int .u16 v.toNat, .int .u8 m.a.toNat, .int .u8 m.b.toNat, .int .u8 m.c.toNat, .int .u8 m.d.toNat, .int .u8 m.e.toNat, .int .u8 m.f.toNat] := by
    rw [← hw1, ← hg]
    have := Blk.new (w.alloc (.cells #[.int .u8 m.a.toNat, .int .u8 m.b.toNat, .int .u8 m.c.toNat, .int .u8 m.d.toNat, .int .u8 m.e.toNat, .int .u8 m.f.toNat] 25)) 71 #[.int .u16 v.toNat, .int .u8 m.a.toNat, .int .u8 m.b.toNat, .int .u8 m.c.toNat, .int .u8 m.d.toNat, .int .u8 m.e.toNat, .int .u8 m.f.toNat]
    simpa using this
  have HT1 := Lib.hid (h.gro hG)
  have HG1 := Lib.hid hG
  have HM1 := Lib.hid hM
  have HP1 := Lib.hid hP
  have HLT : Hid (∀ k, tset t A mb k → k < g) := Lib.hid (by rw [← hg]; exact h.lt)
  clear h hG
  obtain ⟨m0, m1, m2, m3, m4, m5⟩ := mcells hM
  have HQ := Lib.hid hb
  have HV := Lib.hid hv
  have HS := Lib.hid hs
  have hpi : ¬ (8 : Int) ≤ (p.toNat : Int) := by omega
  clear hM hP hb hv hs
  have HPP := Lib.hid hp
  obtain ⟨i0, hi0, hz0, hz1, hz2⟩ := infoE3
  have HI := Lib.hid (And.intro hi0 (And.intro hz0 (And.intro hz1 hz2)))
  clear hp hi0 hz0 hz1 hz2
  go_enter Try.func16, Try.ntmps16
  go_wp2_with fail
  refine (group_any _ m).mono ?_
  rw [HQ.out]
  rintro e w2 ⟨rfl, hgr⟩
  have HT2 := Lib.hid (HT1.out.gro hgr)
  have HG2 := Lib.hid (HG1.out.trans hgr)
  have HM2 := Lib.hid (hgr.blk HM1.out)
  have HP2 := Lib.hid (hgr.blk HP1.out)
  clear hgr m0 m1 m2 m3 m4 m5
  go_wp2_with fail
  refine (canBe_any _ v).mono ?_
  rw [HV.out]
  rintro e w3 ⟨rfl, hgr⟩
  have HT3 := Lib.hid (HT2.out.gro hgr)
  have HG3 := Lib.hid (HG2.out.trans hgr)
  have HM3 := Lib.hid (hgr.blk HM2.out)
  have HP3 := Lib.hid (hgr.blk HP2.out)
  clear hgr 
  obtain ⟨p0, p1, p2, p3, p4, p5, p6⟩ := plcells HP3.out
  go_wp2_with fail
  refine (isStatic_any HT3.out (Pl.mk v m)).mono ?_
  rw [HS.out]
  rintro e w4 ⟨rfl, hgr⟩
  have HT4 := Lib.hid (HT3.out.gro hgr)
  have HG4 := Lib.hid (HG3.out.trans hgr)
  have HM4 := Lib.hid (hgr.blk HM3.out)
  have HP4 := Lib.hid (hgr.blk HP3.out)
  clear hgr p0 p1 p2 p3 p4 p5 p6
  obtain ⟨p0, p1, p2, p3, p4, p5, p6⟩ := plcells HP4.out
  go_wp2_with fail
  refine (forgetP_any HT4.out (Pl.mk v m)).mono ?_
  rintro e w5 ⟨nn, rfl, A5, c5, hT5, hC5, hrb5⟩
  have hg4 : g ≤ w.heap.size := Nat.le_of_eq hg.symm
  have HC5 : Hid (Chg (tset t A mb) w w5) := Lib.hid ((Chg.of_below HG4.out.below).trans hC5)
  have HM5 := Lib.hid (HM4.out.chg hC5 (fun e => by have := HLT.out _ e; omega))
  have HT5 := Lib.hid hT5
  have HSB5 : Hid (∀ k, k < w.heap.size → tset t A5 mb k → tset t A mb k) := Lib.hid (fun k _ e => by
    rcases e with e | e | e
    · exact .inl e
    · exact .inr (.inl (hrb5 ▸ e))
    · exact .inr (.inr e))
  have HSR5 : Hid (∀ b, rb A5 = some b → rb A = some b ∨ w.heap.size ≤ b) := Lib.hid (fun b e => .inl (hrb5 ▸ e))
  have HLT5 : Hid (∀ k, tset t A5 mb k → k < g) := Lib.hid (fun k e => by
    refine HLT.out k ?_
    rcases e with e | e | e
    · exact .inl e
    · exact .inr (.inl (hrb5 ▸ e))
    · exact .inr (.inr e))
  clear hT5 hC5 p0 p1 p2 p3 p4 p5 p6 HT1 HT2 HT3 HT4 HP1 HP2 HP3 HP4 HM1 HM2 HM3 HM4 HG1 HG2 HG3 hg4 hrb5 hpi
  by_cases h32 : (lwo L (Pl.mk v m)).length = 32
  · have HLP : Hid (lput L (Pl.mk v m) p = (lwo L (Pl.mk v m)).drop 1 ++ [⟨(Pl.mk v m), p, 0⟩]) := Lib.hid (by unfold lput; rw [if_pos h32])
    have HD := Lib.hid (del1_any w5 (lwo L (Pl.mk v m)) (.slice A5 (lwo L (Pl.mk v m)).length c5) 0 31 h32 (by omega) (by omega) HT5.out.row)
    have c0 := HT5.out.c0
    rw [h32] at c0 HD
    have H32 := Lib.hid h32
    clear h32
    go_wp2_with fail
    refine HD.out.mono ?_
    rintro e w7 ⟨v7, rfl, ho7, hob7, hc7⟩
    obtain ⟨A7, c7, hv7, _⟩ := own_elsB (k := 9) (enc := enV) enV_len ho7
    subst hv7
    rw [rb_own, rb_own] at hob7
    have hc7' : Chg (fun k => rb A5 = some k) w5 w7 := hc7.mono fun k _ hk => by rw [rb_own] at hk; exact hk
    have hd31 : ((lwo L (Pl.mk v m)).drop 1).length = 31 := by rw [List.length_drop, H32.out]
    have hst := HT5.out.setRow hc7' ho7 (by rw [hob7]; exact HT5.out.neRow) (by omega) (fun e he => HT5.out.age e (List.mem_of_mem_drop he)) (fun e he => HT5.out.prt e (List.mem_of_mem_drop he))
    have f0 := (HT5.out.blk.chg hc7' HT5.out.neRow).frozen 0
    have s0 := (HT5.out.blk.chg hc7' HT5.out.neRow).cell 0
    simp only [List.getElem?_toArray, List.getElem?_cons_zero] at s0
    rw [H32.out] at s0
    obtain ⟨w8, hw8⟩ : ∃ w8, w7.setCell ⟨t, 0, none⟩ (.slice A7 ((lwo L (Pl.mk v m)).drop 1).length c7) = w8 := ⟨_, rfl⟩
    rw [hw8] at hst
    rw [hd31] at hw8
    rw [hd31]
    have HT8 := Lib.hid hst.1
    have HM8 := Lib.hid (HM5.out.chg hst.2 (fun e => by have := HLT5.out _ e; omega))
    have HC8 : Hid (Chg (tset t A mb) w w8) := Lib.hid (HC5.out.also hst.2 HSB5.out)
    have HSB8 : Hid (∀ k, k < w.heap.size → tset t A7 mb k → tset t A mb k) := Lib.hid (fun k hk e => by
      refine HSB5.out k hk ?_
      rcases e with e | e | e
      · exact .inl e
      · exact .inr (.inl (hob7 ▸ e))
      · exact .inr (.inr e))
    have HSR8 : Hid (∀ b, rb A7 = some b → rb A = some b ∨ w.heap.size ≤ b) := Lib.hid (fun b e => HSR5.out b (hob7 ▸ e))
    have HD31 := Lib.hid hd31
    clear ho7 hob7 hc7 hc7' hst hd31 c0 HD
    go_upto_region 6 with fail
    clear f0 s0 hw8
    obtain ⟨n8, hnn8⟩ : ∃ n, ((lwo L (Pl.mk v m)).drop 1).length = n := ⟨_, rfl⟩
    have HNn8 := Lib.hid hnn8
    have c0 := HT8.out.c0
    rw [hnn8] at c0
    obtain ⟨m0, m1, m2, m3, m4, m5⟩ := mcells HM8.out
    have HOd : Hid ((w8.drew.alloc (.cells #[.int .u16 v.toNat, .int .u8 m.a.toNat, .int .u8 m.b.toNat, .int .u8 m.c.toNat, .int .u8 m.d.toNat, .int .u8 m.e.toNat, .int .u8 m.f.toNat, .int .u8 p.toNat, .int .i64 0] 64)).ownsRow 0 64 9 (.slice A7 n8 c7) n8 (((lwo L (Pl.mk v m)).drop 1).flatMap enV)) := Lib.hid (by
      have := (HT8.out.drew.next (w' := w8.drew.alloc (.cells #[.int .u16 v.toNat, .int .u8 m.a.toNat, .int .u8 m.b.toNat, .int .u8 m.c.toNat, .int .u8 m.d.toNat, .int .u8 m.e.toNat, .int .u8 m.f.toNat, .int .u8 p.toNat, .int .i64 0] 64)) ((Below.refl _ _).alloc (Nat.le_refl _) _)).row
      rw [HNn8.out] at this
      exact this)
    have hl31 : n8 ≤ 31 := by rw [← hnn8, HD31.out]; exact Nat.le_refl _
    have c0a : (w8.alloc (.cells #[.int .u16 v.toNat, .int .u8 m.a.toNat, .int .u8 m.b.toNat, .int .u8 m.c.toNat, .int .u8 m.d.toNat, .int .u8 m.e.toNat, .int .u8 m.f.toNat, .int .u8 p.toNat, .int .i64 0] 64)).cell? ⟨t, 0, none⟩ = some (.slice A7 n8 c7) := Lib.cell?_alloc_some _ c0
    clear hnn8
    go_wp2_with fail
    go_region_law (refine step_append_own2 rfl (.tmp 54) (.tmp 59) 51 rfl 0 64 i0 (.agg #[.int .u16 0, .int .u8 0, .int .u8 0, .int .u8 0, .int .u8 0, .int .u8 0, .int .u8 0, .int .u8 0, .int .i64 0]) 9 24 Try.underlying51 HI.out.1 HI.out.2.1 HI.out.2.2.1 HI.out.2.2.2 rfl (by decide) (.slice A7 n8 c7) n8 (((lwo L (Pl.mk v m)).drop 1).flatMap enV) (by simp [Act.eval, Act.put]) HOd.out ⟨w8.heap.size, 0, none⟩ 1 1 (enV ⟨(Pl.mk v m), p, 0⟩) (by simp [Act.eval, Act.put]) rfl (cells_newE w8.drew (enV ⟨(Pl.mk v m), p, 0⟩) 64) (enV_one _) (by unfold maxLen; omega) (by omega) (Nat.zero_le _) ?_; intro v6 w6 ho6 hg6 hob; have hc6 := learn_cell HT8.out hg6; have s0 := hc6.1; have f0 := hc6.2; obtain ⟨A6, c6, hv6, hT6, hC6, hR6⟩ := learn_end HT8.out (Pl.mk v m) p HNn8.out hl31 HPP.out ho6 hg6 hob; subst hv6; have HST := Lib.hid (And.intro hT6 (And.intro hC6 hR6)); clear ho6 hg6 hob hc6 hT6 hC6 hR6)
    all_goals (
      obtain ⟨hT6, hC6, hR6⟩ := HST.out
      go_wp2_with fail
      refine bodyPost_end (v := .tuple #[]) ?_ rfl ?_
      · simp [results, Try.results16, go_sem]
      refine ⟨rfl, A6, c6, ?_, ?_, ?_⟩
      · rw [HLP.out]; exact hT6
      · exact HC8.out.also hC6 HSB8.out
      · intro b hb
        rcases hR6 b hb with e | e
        · rcases HSR8.out b e with e | e
          · exact .inl e
          · exact .inr e
        · exact .inr (Nat.le_trans HC8.out.size e))
  · have HLP : Hid (lput L (Pl.mk v m) p = lwo L (Pl.mk v m) ++ [⟨(Pl.mk v m), p, 0⟩]) := Lib.hid (by unfold lput; rw [if_neg h32])
    have c0 := HT5.out.c0
    have h32' : ¬ ((lwo L (Pl.mk v m)).length : Int) = 32 := by omega
    have h31 : (lwo L (Pl.mk v m)).length ≤ 31 := by have := HT5.out.l32; omega
    have H31 := Lib.hid h31
    have hbq : (((lwo L (Pl.mk v m)).length : Int) == 32) = false := beq_eq_false_iff_ne.2 h32'
    clear h32 h32' h31
    go_upto_region 6 with fail
    clear c0 hbq
    obtain ⟨n5, hnn5⟩ : ∃ n, (lwo L (Pl.mk v m)).length = n := ⟨_, rfl⟩
    have HNn5 := Lib.hid hnn5
    have c0 := HT5.out.c0
    rw [hnn5] at c0
    obtain ⟨m0, m1, m2, m3, m4, m5⟩ := mcells HM5.out
    have HOd : Hid ((w5.drew.alloc (.cells #[.int .u16 v.toNat, .int .u8 m.a.toNat, .int .u8 m.b.toNat, .int .u8 m.c.toNat, .int .u8 m.d.toNat, .int .u8 m.e.toNat, .int .u8 m.f.toNat, .int .u8 p.toNat, .int .i64 0] 64)).ownsRow 0 64 9 (.slice A5 n5 c5) n5 ((lwo L (Pl.mk v m)).flatMap enV)) := Lib.hid (by
      have := (HT5.out.drew.next (w' := w5.drew.alloc (.cells #[.int .u16 v.toNat, .int .u8 m.a.toNat, .int .u8 m.b.toNat, .int .u8 m.c.toNat, .int .u8 m.d.toNat, .int .u8 m.e.toNat, .int .u8 m.f.toNat, .int .u8 p.toNat, .int .i64 0] 64)) ((Below.refl _ _).alloc (Nat.le_refl _) _)).row
      rw [HNn5.out] at this
      exact this)
    have hl31 : n5 ≤ 31 := by rw [← hnn5]; exact H31.out
    have c0a : (w5.alloc (.cells #[.int .u16 v.toNat, .int .u8 m.a.toNat, .int .u8 m.b.toNat, .int .u8 m.c.toNat, .int .u8 m.d.toNat, .int .u8 m.e.toNat, .int .u8 m.f.toNat, .int .u8 p.toNat, .int .i64 0] 64)).cell? ⟨t, 0, none⟩ = some (.slice A5 n5 c5) := Lib.cell?_alloc_some _ c0
    clear hnn5
    go_wp2_with fail
    go_region_law (refine step_append_own2 rfl (.tmp 54) (.tmp 59) 51 rfl 0 64 i0 (.agg #[.int .u16 0, .int .u8 0, .int .u8 0, .int .u8 0, .int .u8 0, .int .u8 0, .int .u8 0, .int .u8 0, .int .i64 0]) 9 24 Try.underlying51 HI.out.1 HI.out.2.1 HI.out.2.2.1 HI.out.2.2.2 rfl (by decide) (.slice A5 n5 c5) n5 ((lwo L (Pl.mk v m)).flatMap enV) (by simp [Act.eval, Act.put]) HOd.out ⟨w5.heap.size, 0, none⟩ 1 1 (enV ⟨(Pl.mk v m), p, 0⟩) (by simp [Act.eval, Act.put]) rfl (cells_newE w5.drew (enV ⟨(Pl.mk v m), p, 0⟩) 64) (enV_one _) (by unfold maxLen; omega) (by omega) (Nat.zero_le _) ?_; intro v6 w6 ho6 hg6 hob; have hc6 := learn_cell HT5.out hg6; have s0 := hc6.1; have f0 := hc6.2; obtain ⟨A6, c6, hv6, hT6, hC6, hR6⟩ := learn_end HT5.out (Pl.mk v m) p HNn5.out hl31 HPP.out ho6 hg6 hob; subst hv6; have HST := Lib.hid (And.intro hT6 (And.intro hC6 hR6)); clear ho6 hg6 hob hc6 hT6 hC6 hR6)
    all_goals (
      obtain ⟨hT6, hC6, hR6⟩ := HST.out
      go_wp2_with fail
      refine bodyPost_end (v := .tuple #[]) ?_ rfl ?_
      · simp [results, Try.results16, go_sem]
      refine ⟨rfl, A6, c6, ?_, ?_, ?_⟩
      · rw [HLP.out]; exact hT6
      · exact HC5.out.also hC6 HSB5.out
      · intro b hb
        rcases hR6 b hb with e | e
        · rcases HSR5.out b e with e | e
          · exact .inl e
          · exact .inr e
        · exact .inr (Nat.le_trans HC5.out.size e))
end Go.Proofs.Ytlofaahckdfeiaa
