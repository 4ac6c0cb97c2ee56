/- Layer 7: what VlanPlays walks with: the document's Members, which only makes memory; both tables, a frame beside them. -/
import Derived.Test.YteiopobkbfancaaKit7
namespace Go.Proofs.Yteiopobkbfancaa
open Go.Shelf
open Go.Sort (grow)
open Go.RowKit Go.ChangeShapes Go.WideShapes Go.ChangeAt
set_option linter.unusedVariables false
set_option linter.unusedSimpArgs false
set_option maxRecDepth 100000

/-- a load of the document's table, as the walk's simp leaves it -/
theorem DT.loads {w : World} {g N c : Nat} {cs : Array Value} {A : Option Addr} {L : List Vn} {own : List UInt16} (h : DT w g cs N A c L own) : (loadCellsFrom ⟨g, 0, none⟩ 0 10 #[]).run Try.prog w = .ok cs w := by
  have := run_loadCells_list (P := Try.prog) w ⟨g, 0, none⟩ cs.toList (fun j v hv => by
    have hadd : (⟨g, 0, none⟩ : Addr).add j = ⟨g, j, none⟩ := by unfold Addr.add; split <;> simp_all
    rw [hadd, cell_of_row w g j _ _ (0, 0) h.blk]
    simpa using hv)
  simpa [loadCells, h.v.sz] using this
set_option maxHeartbeats 2000000 in
theorem find_gro {w : World} {cs : Array Value} {N c : Nat} {A : Option Addr} {L : List Vn} {own : List UInt16} (hv : DTV cs N A c L own) (hE : Els 3 encN w A L) (h8 : L.length ≤ 1000) (v : UInt16) :
    Calls Try.prog 26 #[.agg cs, .int .u16 v.toNat] w fun e w' => ∃ z, e = .returned (.int .i64 z) ∧ isFind L v z ∧ Gro w w' := by
  obtain ⟨w1, hw1⟩ : ∃ w1, w.alloc (.cells cs 36) = w1 := ⟨_, rfl⟩
  obtain ⟨g, hg⟩ : ∃ g, w.heap.size = g := ⟨_, rfl⟩
  have HB := Lib.hid (show Gro w w1 by rw [← hw1]; exact (Gro.refl w).alloc _)
  have HD := Lib.hid (show DT w1 g cs N A c L own from ⟨by rw [← hw1, ← hg]; exact Blk.new w _ _, hv⟩)
  have HE := Lib.hid (hE.next HB.out.below)
  obtain ⟨n, hn⟩ : ∃ n, L.length = n := ⟨_, rfl⟩
  have HN := Lib.hid hn
  have c1 := HD.out.c1
  rw [hn] at c1 h8
  clear hE hv hn
  go_enter Try.func26, Try.ntmps26
  go_upto_region 1 with fail
  clear hw1 hg
  go_wp2_with fail
  go_loopw [5] (fun i wr => ∃ k : Nat, k ≤ n ∧ i = .int .i64 k ∧ Hid (vhas (L.take k) v = false) ∧ w1 = wr) (fun i _ => n - (intOf i).toNat)
  case atStart => exact ⟨0, Nat.zero_le _, rfl, Lib.hid rfl, rfl⟩
  case round =>
    obtain ⟨k, hk, rfl, HK, rfl⟩ := hrel
    by_cases hlt : k < n
    · obtain ⟨x, hx⟩ : ∃ x, L[k]? = some x := ⟨_, List.getElem?_eq_getElem (by rw [HN.out]; exact hlt)⟩
      obtain ⟨b, off, rfl, hb, e0, e1, e2⟩ := els_vn HE.out hx
      have HX := Lib.hid hx
      have hkn : (k : Int) < n := by omega
      obtain ⟨y, hy⟩ : ∃ y, x.v.toNat = y := ⟨_, rfl⟩
      obtain ⟨q, hq⟩ : ∃ q, v.toNat = q := ⟨_, rfl⟩
      have HY := Lib.hid (And.intro hy hq)
      rw [hy] at e0
      clear hx e1 e2 hy
      by_cases he : y = q
      · have HF := Lib.hid (take_yes HK.out HX.out (UInt16.toNat_inj.1 (by rw [HY.out.1, HY.out.2, he])))
        rw [hq]
        clear hq
        subst he
        go_wp2
        go_ret
        exact ⟨_, rfl, .inr ⟨k, x, rfl, HX.out, HF.out⟩, HB.out⟩
      · have HF := Lib.hid (take_no HK.out HX.out (fun e => he (by rw [← HY.out.1, ← HY.out.2, e])))
        have he' : ¬ ((y : Int) = (q : Int)) := by omega
        have he2 : ((y : Int) == (q : Int)) = false := by simpa using he'
        rw [hq]
        clear hq he he'
        go_wp2
        go_roundw
        case rel => exact ⟨k + 1, by omega, by go_num, HF, by first | rfl | trivial⟩
        case measure => simp [intOf]; omega
    · obtain rfl : k = n := by omega
      have HF : Hid (vhas L v = false) := Lib.hid (by have := HK.out; rw [List.take_of_length_le (by rw [HN.out]; exact Nat.le_refl _)] at this; exact this)
      go_wp2
      go_ret
      exact ⟨_, rfl, .inl ⟨HF.out, rfl⟩, HB.out⟩
set_option maxHeartbeats 2000000 in
theorem dmem_gro {w : World} {cs : Array Value} {N c : Nat} {A : Option Addr} {L : List Vn} {own : List UInt16} (hv : DTV cs N A c L own) (hE : Els 3 encN w A L) (h8 : L.length ≤ 1000) (v : UInt16) :
    Calls Try.prog 12 #[.agg cs, .int .u16 v.toNat] w fun e w' => e = .returned (.int .u8 (vm L v).toNat) ∧ Gro w w' := by
  obtain ⟨w1, hw1⟩ : ∃ w1, w.alloc (.cells cs 36) = w1 := ⟨_, rfl⟩
  obtain ⟨g, hg⟩ : ∃ g, w.heap.size = g := ⟨_, rfl⟩
  have HB := Lib.hid (show Gro w w1 by rw [← hw1]; exact (Gro.refl w).alloc _)
  have HD := Lib.hid (show DT w1 g cs N A c L own from ⟨by rw [← hw1, ← hg]; exact Blk.new w _ _, hv⟩)
  have HE := Lib.hid (hE.next HB.out.below)
  clear hE hv
  go_enter Try.func12, Try.ntmps12
  go_upto_region 1 with fail
  clear hw1 hg
  go_wp2_with (refine wpList_load_dt 2 rfl (by kernel_rfl) g rfl cs HD.out.blk HD.out.v.sz ?_)
  refine (find_gro HD.out.v HE.out h8 v).mono ?_
  rintro e w2 ⟨z, rfl, hz, hb⟩
  have HD2 := Lib.hid (HD.out.next hb.below)
  have HE2 := Lib.hid (HE.out.next hb.below)
  have HB2 : Hid (Gro w w2) := Lib.hid (HB.out.trans hb)
  clear hb HD HE HB
  rcases hz with ⟨hh, rfl⟩ | ⟨k, x, rfl, hx, hf⟩
  · have HV := Lib.hid (vm_none hh)
    clear hh
    go_wp2
    go_ret
    rw [HV.out]
    exact ⟨rfl, HB2.out⟩
  · have HV : Hid (vm L v = x.m) := Lib.hid (by unfold vm; rw [hf])
    have hkl : k < L.length := (List.getElem?_eq_some_iff.1 hx).1
    obtain ⟨b, off, rfl, hb, e0, e1, e2⟩ := els_vn HE2.out hx
    have c1 := HD2.out.c1
    obtain ⟨n, hn⟩ : ∃ n, L.length = n := ⟨_, rfl⟩
    rw [hn] at c1 hkl
    have hkn : (k : Int) < n := by omega
    clear hf hx hn h8
    go_wp2
    go_ret
    rw [HV.out]
    exact ⟨rfl, HB2.out⟩

theorem dmem_grow {w : World} {cs : Array Value} {N c : Nat} {A : Option Addr} {L : List Vn} {own : List UInt16} (hv : DTV cs N A c L own) (hE : Els 3 encN w A L) (h8 : L.length ≤ 1000) (v : UInt16) :
    Calls Try.prog 12 #[.agg cs, .int .u16 v.toNat] w fun e w' => e = .returned (.int .u8 (vm L v).toNat) ∧ ∃ q os, w' = grow (w.drewN q) os :=
  (dmem_gro hv hE h8 v).mono fun _ _ h => ⟨h.1, h.2.out⟩
/-- a load of a whole struct in a region that draws, in a class of worlds -/
theorem quiet_row {P : Program} {C : World → Prop} {K : Act → Prop} {a : Act} {o : Oper} (ty : TypeId) (x : Nat) (ho : o.op = .load ty (.tmp x)) (g : Nat)
    (hx : a.eval (.tmp x) = .pointer (some ⟨g, 0, none⟩)) (t : TypeId) (cs : Array Value) (d : TypeDesc) (hg : ∀ w, C w → Blk w g t cs)
    (hu : P.underlying ty = some d) (hd : (match d with | .struct _ | .array _ _ => true | _ => false) = true) (hi : (P.info? ty).map (·.size) = some cs.size)
    (hk : K (a.put o.dst (.agg cs))) : o.quiet P a C K :=
  ⟨_, fun w hw => by
    unfold Oper.quietAt execOp
    simp only [ho, hx, Instr.loadAt, Instr.sureAddr, Sem.run_bind, Sem.run_pure, Result.andThen_ok, run_loadVar_row w g t ty cs (0, 0) d (hg w hw) hu hd hi]
    exact ⟨rfl, rfl⟩, hk⟩
/-- both tables, and the frame -/
structure PlS (W : World) (t : Nat) (mb : Option Nat) (N : Nat) (L : List Vn) (own : List UInt16) (q : Nat) (cs : Array Value) (A : Option Addr) (c g : Nat) (f : Fr) (w : World) : Prop where
  tb : Tbl w t mb N L own
  dt : DT w q cs N A c L own
  el : Els 3 encN w A L
  fr : FrA w g f
  bl : Below W.heap.size W w
section
variable {W W5 w w' : World} {t N q c g : Nat} {mb : Option Nat} {L : List Vn} {own : List UInt16} {cs : Array Value} {A A2 : Option Addr} {f : Fr}
theorem PlS.calm (h : PlS W t mb N L own q cs A c g f w) (hb : Below w.heap.size w w') : PlS W t mb N L own q cs A c g f w' :=
  ⟨h.tb.next hb, h.dt.next hb, h.el.next hb, h.fr.next hb, h.bl.trans (hb.mono h.bl.size)⟩
/-- .. and the row of the VLANs' numbers -/
structure Pl2 (W : World) (t : Nat) (mb : Option Nat) (N : Nat) (L : List Vn) (own : List UInt16) (q : Nat) (cs : Array Value) (A : Option Addr) (c g : Nat) (f : Fr) (A2 : Option Addr) (w : World) : Prop where
  a : PlS W t mb N L own q cs A c g f w
  b : Els 1 encU w A2 (vks L)
theorem Pl2.calm (h : Pl2 W t mb N L own q cs A c g f A2 w) (hb : Below w.heap.size w w') : Pl2 W t mb N L own q cs A c g f A2 w' :=
  ⟨h.a.calm hb, h.b.next hb⟩
end
end Go.Proofs.Yteiopobkbfancaa
