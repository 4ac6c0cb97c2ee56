/- Layer 16: the document's Levels. -/
import Derived.Test.YtfdiolfelecccaaZzDe16
import Derived.Test.YtfdiolfelecccaaZz
import Derived.BigQuiet
import Derived.Deep.QuietTactic
import Derived.Deep.DeepCutAuto
namespace Go.Proofs.Ytfdiolfelecccaa
open Go.RowKit
set_option linter.unusedVariables false
set_option linter.unusedSimpArgs false
set_option maxRecDepth 100000

theorem results_cell_one16 {P : Program} {fn : Func} {p : Tmp} {ty : TypeId} (h : fn.results = #[.cell p ty]) (tmps : Array Value) (w : World) (g : Nat) (t : TypeId) (cs : Array Value) (d : TypeDesc)
    (hp : tmps.getD p undef = .pointer (some ⟨g, 0, none⟩)) (hg : Blk w g t cs)
    (hu : P.underlying ty = some d) (hd : (match d with | .struct _ | .array _ _ => true | _ => false) = true) (hi : (P.info? ty).map (·.size) = some cs.size) :
    (results fn tmps).run P w = .ok (.agg cs) w := by
  have hp' : tmps[p]?.getD undef = .pointer (some ⟨g, 0, none⟩) := by simpa using hp
  simp [results, h, hp', asAddr, run_loadVar_row w g t ty cs (0, 0) d hg hu hd hi]
theorem as_at {w : World} {A : Option Addr} {l : List AsX} {i : Nat} {y : AsX} (h : Els 6 asE w A l) (hx : l[i]? = some y) : ∃ b off, A = some ⟨b, off, none⟩ ∧ b < w.heap.size ∧ w.cell? ⟨b, off + i * 6, none⟩ = some (.int .u8 y.a.l.toNat) ∧ w.cell? ⟨b, off + i * 6 + 1, none⟩ = some (.string ⟨y.a.d.toArray⟩) ∧ w.cell? ⟨b, off + i * 6 + 2, none⟩ = some (.string ⟨y.a.n.toArray⟩) ∧ w.cell? ⟨b, off + i * 6 + 3, none⟩ = some (.int .u16 y.a.v.toNat) ∧ w.cell? ⟨b, off + i * 6 + 4, none⟩ = some (.int .u8 y.a.i.toNat) ∧ w.cell? ⟨b, off + i * 6 + 5, none⟩ = some (.slice y.b y.a.m.length y.c) := by
  obtain ⟨hi, rfl⟩ := List.getElem?_eq_some_iff.1 hx
  obtain ⟨b, off, e, hlt, hc⟩ := h (by omega)
  exact ⟨b, off, e, hlt, hc i hi 0 _ rfl, hc i hi 1 _ rfl, hc i hi 2 _ rfl, hc i hi 3 _ rfl, hc i hi 4 _ rfl, hc i hi 5 _ rfl⟩
theorem as_of {LA : List AsX} {A : List As} {j : Nat} (h : LA.map AsX.a = A) (hj : j < A.length) : ∃ y, LA[j]? = some y ∧ y.a = A.getD j default := by
  subst h
  rw [List.length_map] at hj
  refine ⟨LA[j], List.getElem?_eq_getElem hj, ?_⟩
  rw [List.getD_eq_getElem?_getD, List.getElem?_eq_getElem (by rw [List.length_map]; exact hj)]
  simp
theorem f8_set (f : Nat → Bool) : ∀ k, k < 8 → (#[.bool (f 0), .bool (f 1), .bool (f 2), .bool (f 3), .bool (f 4), .bool (f 5), .bool (f 6), .bool (f 7)] : Array Value).setIfInBounds k (.bool true) = #[.bool (f 0 || decide (k = 0)), .bool (f 1 || decide (k = 1)), .bool (f 2 || decide (k = 2)), .bool (f 3 || decide (k = 3)), .bool (f 4 || decide (k = 4)), .bool (f 5 || decide (k = 5)), .bool (f 6 || decide (k = 6)), .bool (f 7 || decide (k = 7))]
  | 0, _ => by simp
  | 1, _ => by simp
  | 2, _ => by simp
  | 3, _ => by simp
  | 4, _ => by simp
  | 5, _ => by simp
  | 6, _ => by simp
  | 7, _ => by simp
theorem take_any16 {α : Type} {p : α → Bool} {l : List α} {k : Nat} {x : α} (hx : l[k]? = some x) : (l.take (k + 1)).any p = ((l.take k).any p || p x) := by
  obtain ⟨hk, he⟩ := List.getElem?_eq_some_iff.1 hx
  rw [List.take_succ_eq_append_getElem hk, he, List.any_append]
  simp
/-- levels of the first k end points -/
def levk (T : Tb) (p : UInt8) (v : UInt16) (u : Bool) (k j : Nat) : Bool := (T.E.take k).any (fun e => e.p == p && ((T.of e).v == v && (e.u == u && decide ((T.of e).l.toNat = j))))
theorem levk_0 (T : Tb) (p : UInt8) (v : UInt16) (u : Bool) (j : Nat) : levk T p v u 0 j = false := rfl
theorem levk_all (T : Tb) (p : UInt8) (v : UInt16) (u : Bool) (k j : Nat) (h : T.E.length ≤ k) : levk T p v u k j = T.lev p v u j := by
  unfold levk Tb.lev
  rw [List.take_of_length_le h]
theorem levk_no {T : Tb} {p : UInt8} {v : UInt16} {u : Bool} {k j : Nat} {x : Mp} (hx : T.E[k]? = some x) (h : (x.p == p && ((T.of x).v == v && x.u == u)) = false) : levk T p v u (k + 1) j = levk T p v u k j := by
  unfold levk
  rw [take_any16 hx]
  have : (x.p == p && ((T.of x).v == v && (x.u == u && decide ((T.of x).l.toNat = j)))) = false := by
    rw [← Bool.and_assoc, ← Bool.and_assoc, Bool.and_assoc (x.p == p), h]
    rfl
  rw [this, Bool.or_false]
theorem levk_yes {T : Tb} {p : UInt8} {v : UInt16} {u : Bool} {k j : Nat} {x : Mp} (hx : T.E[k]? = some x) (h : (x.p == p && ((T.of x).v == v && x.u == u)) = true) : levk T p v u (k + 1) j = (levk T p v u k j || decide ((T.of x).l.toNat = j)) := by
  unfold levk
  rw [take_any16 hx]
  have : (x.p == p && ((T.of x).v == v && (x.u == u && decide ((T.of x).l.toNat = j)))) = decide ((T.of x).l.toNat = j) := by
    rw [← Bool.and_assoc, ← Bool.and_assoc, Bool.and_assoc (x.p == p), h]
    rfl
  rw [this]
set_option maxHeartbeats 8000000 in
theorem reflev16_any (T : Tb) (X : TbX) (p : UInt8) (v : UInt16) (u : Bool) (w : World) (hT : TbD w T X) (hI : TbInv T) (hm : T.E.length ≤ 1000) (ha : T.A.length ≤ 1000) :
    Calls Try.prog 30 #[.agg (TbC T X), .int .u8 p.toNat, .int .u16 v.toNat, .bool u] w fun e w' => e = .returned (.agg #[.bool (T.lev p v u 0), .bool (T.lev p v u 1), .bool (T.lev p v u 2), .bool (T.lev p v u 3), .bool (T.lev p v u 4), .bool (T.lev p v u 5), .bool (T.lev p v u 6), .bool (T.lev p v u 7)]) ∧ Below w.heap.size w w' := by
  have HI := Lib.hid hI
  have HT := Lib.hid hT
  show Calls _ _ #[.agg #[.int .i64 (T.n : Int), .slice X.A T.A.length X.ca, .slice X.E T.E.length X.ce, .slice X.M T.M.length X.cm], _, _, _] _ _
  obtain ⟨n, hn⟩ : ∃ n, T.E.length = n := ⟨_, rfl⟩
  obtain ⟨nM, hnM⟩ : ∃ n, T.M.length = n := ⟨_, rfl⟩
  obtain ⟨nA, hnA⟩ : ∃ n, T.A.length = n := ⟨_, rfl⟩
  have HN := Lib.hid hn
  have HNA := Lib.hid hnA
  rw [hn, hnM, hnA]
  rw [hn] at hm
  rw [hnA] at ha
  clear hn hnM hnA hI hT
  have HB0 : Hid (Below w.heap.size w (((w.alloc (.cells #[.int .i64 (T.n : Int), .slice X.A nA X.ca, .slice X.E n X.ce, .slice X.M nM X.cm] 34)).alloc (.cells #[.bool false, .bool false, .bool false, .bool false, .bool false, .bool false, .bool false, .bool false] 81)).alloc (.cells #[.bool false, .bool false, .bool false, .bool false, .bool false, .bool false, .bool false, .bool false] 81))) := Lib.hid ((((Below.refl _ _).alloc (Nat.le_refl _) _).alloc (by simp) _).alloc (by simp; omega) _)
  have HK0 : Hid (Blk (((w.alloc (.cells #[.int .i64 (T.n : Int), .slice X.A nA X.ca, .slice X.E n X.ce, .slice X.M nM X.cm] 34)).alloc (.cells #[.bool false, .bool false, .bool false, .bool false, .bool false, .bool false, .bool false, .bool false] 81)).alloc (.cells #[.bool false, .bool false, .bool false, .bool false, .bool false, .bool false, .bool false, .bool false] 81)) w.heap.size 34 #[.int .i64 (T.n : Int), .slice X.A nA X.ca, .slice X.E n X.ce, .slice X.M nM X.cm]) := Lib.hid (((Blk.new _ _ _).alloc _).alloc _)
  have HR0 : Hid (Blk (((w.alloc (.cells #[.int .i64 (T.n : Int), .slice X.A nA X.ca, .slice X.E n X.ce, .slice X.M nM X.cm] 34)).alloc (.cells #[.bool false, .bool false, .bool false, .bool false, .bool false, .bool false, .bool false, .bool false] 81)).alloc (.cells #[.bool false, .bool false, .bool false, .bool false, .bool false, .bool false, .bool false, .bool false] 81)) (w.heap.size + 1) 81 #[.bool false, .bool false, .bool false, .bool false, .bool false, .bool false, .bool false, .bool false]) := Lib.hid (by
    have := (Blk.new (w.alloc (.cells #[.int .i64 (T.n : Int), .slice X.A nA X.ca, .slice X.E n X.ce, .slice X.M nM X.cm] 34)) 81 #[.bool false, .bool false, .bool false, .bool false, .bool false, .bool false, .bool false, .bool false]).alloc (.cells #[.bool false, .bool false, .bool false, .bool false, .bool false, .bool false, .bool false, .bool false] 81)
    simpa using this)
  have HL0 : Hid (Blk (((w.alloc (.cells #[.int .i64 (T.n : Int), .slice X.A nA X.ca, .slice X.E n X.ce, .slice X.M nM X.cm] 34)).alloc (.cells #[.bool false, .bool false, .bool false, .bool false, .bool false, .bool false, .bool false, .bool false] 81)).alloc (.cells #[.bool false, .bool false, .bool false, .bool false, .bool false, .bool false, .bool false, .bool false] 81)) (w.heap.size + 2) 81 #[.bool false, .bool false, .bool false, .bool false, .bool false, .bool false, .bool false, .bool false]) := Lib.hid (by
    have := Blk.new ((w.alloc (.cells #[.int .i64 (T.n : Int), .slice X.A nA X.ca, .slice X.E n X.ce, .slice X.M nM X.cm] 34)).alloc (.cells #[.bool false, .bool false, .bool false, .bool false, .bool false, .bool false, .bool false, .bool false] 81)) 81 #[.bool false, .bool false, .bool false, .bool false, .bool false, .bool false, .bool false, .bool false]
    simpa using this)
  go_enter Try.func30, Try.ntmps30
  go_wp2
  go_loopw [10] (fun i wr => ∃ k : Nat, k ≤ n ∧ i = .int .i64 k ∧ Hid (Below w.heap.size w wr) ∧ Hid (Blk wr w.heap.size 34 #[.int .i64 (T.n : Int), .slice X.A nA X.ca, .slice X.E n X.ce, .slice X.M nM X.cm]) ∧ Hid (Blk wr (w.heap.size + 1) 81 #[.bool false, .bool false, .bool false, .bool false, .bool false, .bool false, .bool false, .bool false]) ∧ Hid (Blk wr (w.heap.size + 2) 81 #[.bool ((levk T p v u k) 0), .bool ((levk T p v u k) 1), .bool ((levk T p v u k) 2), .bool ((levk T p v u k) 3), .bool ((levk T p v u k) 4), .bool ((levk T p v u k) 5), .bool ((levk T p v u k) 6), .bool ((levk T p v u k) 7)])) (fun i _ => n - (intOf i).toNat)
  case atStart => exact ⟨0, Nat.zero_le _, rfl, HB0, HK0, HR0, Lib.hid (by simp only [levk_0]; exact HL0.out)⟩
  case round =>
    obtain ⟨k, hk, rfl, HB, HK, HR, HL⟩ := hrel
    clear HB0 HK0 HR0 HL0
    have k1 := HK.out.cell 1
    have k2 := HK.out.cell 2
    simp only [List.getElem?_toArray, List.getElem?_cons_succ, List.getElem?_cons_zero] at  k1 k2
    by_cases hlt : k < n
    · obtain ⟨x, hx⟩ : ∃ x, T.E[k]? = some x := ⟨_, List.getElem?_eq_getElem (by rw [HN.out]; exact hlt)⟩
      have hki : (k : Int) < n := by omega
      have hltK := HK.out.lt
      obtain ⟨b1, off1, hE1, hltE, e0, e1, e2, e3⟩ := mp_at (HT.out.ee.next HB.out) hx
      have hlv := of_level HI.out (List.mem_of_getElem? hx)
      obtain ⟨ja, hja⟩ : ∃ ja : Nat, x.a = ja := ⟨x.a.toNat, by omega⟩
      obtain ⟨y, hy, hya⟩ := as_of HT.out.la (show ja < T.A.length by omega)
      have hyo : y.a = T.of x := by unfold Tb.of; rw [hya, hja, Int.toNat_natCast]
      obtain ⟨b2, off2, hA2, hltA, a0, a1, a2, a3, a4, a5⟩ := as_at (HT.out.ea.next HB.out) hy
      rw [hja] at e0
      rw [hE1] at k2
      rw [hA2] at k1
      have hjl : (ja : Int) < T.A.length := by omega
      have hl8 : y.a.l.toNat < 8 := by rw [hyo]; exact hlv.1
      have HYO := Lib.hid hyo
      have HX := Lib.hid hx
      rw [HNA.out] at hjl
      have HLT := Lib.hid hlt
      have HL8 := Lib.hid hl8
      have HE1 := Lib.hid hE1
      clear hx hlt hlv hja hy hya hyo hE1 hA2 hl8
      go_upto_region 5 with (fail)
      go_cut [11] (fun a wx => a = .pointer (some ⟨wr.heap.size, 0, none⟩) ∧ Hid (Blk wx wr.heap.size 37 #[.int .u8 y.a.l.toNat, .string ⟨y.a.d.toArray⟩, .string ⟨y.a.n.toArray⟩, .int .u16 y.a.v.toNat, .int .u8 y.a.i.toNat, .slice y.b y.a.m.length y.c]) ∧ Hid (Below wr.heap.size wr wx))
      case first =>
        refine wp_region_noPanic ?_
        refine wp_region_held_drew (S := fun w_ => Below wr.heap.size wr w_) (by kernel_rfl) (Below.refl _ wr).drew (fun hHeld => ?_)
        refine wpAnyH_take (i := 0) (v := ?v1) rfl (by kernel_rfl) (by kernel_rfl) (by kernel_rfl) (fun _ _ _ h => h) (Or.inl ⟨by rfl, ?hy1⟩) hHeld ?rest1
        case hy1 =>
          intro w_ hSw; go_simp
          all_goals (with_reducible rfl)
        try simp only [Act.put, List.getElem_toArray, List.getElem_cons_succ, List.getElem_cons_zero, List.setIfInBounds_toArray, List.set_cons_zero, List.set_cons_succ]
        refine wpAnyH_take (i := 1) (v := ?v2) rfl (by kernel_rfl) (by kernel_rfl) (by kernel_rfl) (fun _ _ _ h => h) (Or.inl ⟨by rfl, ?hy2⟩) hHeld ?rest2
        case hy2 =>
          intro w_ hSw; have hc := (hSw.cell (p := ⟨w.heap.size, 1, none⟩) (by first | exact hltK | exact hltE | exact hltA)).trans k1; go_simp
          all_goals (with_reducible rfl)
        try simp only [Act.put, List.getElem_toArray, List.getElem_cons_succ, List.getElem_cons_zero, List.setIfInBounds_toArray, List.set_cons_zero, List.set_cons_succ]
        refine wpAnyH_take (i := 2) (v := ?v3) rfl (by kernel_rfl) (by kernel_rfl) (by kernel_rfl) (fun _ _ _ h => h) (Or.inl ⟨by rfl, ?hy3⟩) hHeld ?rest3
        case hy3 =>
          intro w_ hSw; go_simp
          all_goals (with_reducible rfl)
        try simp only [Act.put, List.getElem_toArray, List.getElem_cons_succ, List.getElem_cons_zero, List.setIfInBounds_toArray, List.set_cons_zero, List.set_cons_succ]
        refine wpAnyH_take (i := 3) (v := ?v4) rfl (by kernel_rfl) (by kernel_rfl) (by kernel_rfl) (fun _ _ _ h => h) (Or.inl ⟨by rfl, ?hy4⟩) hHeld ?rest4
        case hy4 =>
          intro w_ hSw; have hc := (hSw.cell (p := ⟨w.heap.size, 2, none⟩) (by first | exact hltK | exact hltE | exact hltA)).trans k2; go_simp
          all_goals (with_reducible rfl)
        try simp only [Act.put, List.getElem_toArray, List.getElem_cons_succ, List.getElem_cons_zero, List.setIfInBounds_toArray, List.set_cons_zero, List.set_cons_succ]
        refine wpAnyH_take (i := 4) (v := ?v5) rfl (by kernel_rfl) (by kernel_rfl) (by kernel_rfl) (fun _ _ _ h => h) (Or.inl ⟨by rfl, ?hy5⟩) hHeld ?rest5
        case hy5 =>
          intro w_ hSw; go_simp
          all_goals (with_reducible rfl)
        try simp only [Act.put, List.getElem_toArray, List.getElem_cons_succ, List.getElem_cons_zero, List.setIfInBounds_toArray, List.set_cons_zero, List.set_cons_succ]
        refine wpAnyH_take (i := 5) (v := ?v6) rfl (by kernel_rfl) (by kernel_rfl) (by kernel_rfl) (fun _ _ _ h => h) (Or.inl ⟨by rfl, ?hy6⟩) hHeld ?rest6
        case hy6 =>
          intro w_ hSw; go_simp
          all_goals (with_reducible rfl)
        try simp only [Act.put, List.getElem_toArray, List.getElem_cons_succ, List.getElem_cons_zero, List.setIfInBounds_toArray, List.set_cons_zero, List.set_cons_succ]
        refine wpAnyH_take (i := 6) (v := ?v7) rfl (by kernel_rfl) (by kernel_rfl) (by kernel_rfl) (fun _ _ _ h => h) (Or.inl ⟨by rfl, ?hy7⟩) hHeld ?rest7
        case hy7 =>
          intro w_ hSw; go_simp
          all_goals (with_reducible rfl)
        try simp only [Act.put, List.getElem_toArray, List.getElem_cons_succ, List.getElem_cons_zero, List.setIfInBounds_toArray, List.set_cons_zero, List.set_cons_succ]
        refine wpAnyH_take (i := 7) (v := ?v8) rfl (by kernel_rfl) (by kernel_rfl) (by kernel_rfl) (fun _ _ _ h => h) (Or.inl ⟨by rfl, ?hy8⟩) hHeld ?rest8
        case hy8 =>
          intro w_ hSw; have hc := (hSw.cell (p := ⟨b1, off1 + k * 4, none⟩) (by first | exact hltK | exact hltE | exact hltA)).trans e0; go_simp
          all_goals (with_reducible rfl)
        try simp only [Act.put, List.getElem_toArray, List.getElem_cons_succ, List.getElem_cons_zero, List.setIfInBounds_toArray, List.set_cons_zero, List.set_cons_succ]
        refine wpAnyH_take (i := 8) (v := ?v9) rfl (by kernel_rfl) (by kernel_rfl) (by kernel_rfl) (fun _ _ _ h => h) (Or.inl ⟨by rfl, ?hy9⟩) hHeld ?rest9
        case hy9 =>
          intro w_ hSw; go_simp
          all_goals (with_reducible rfl)
        try simp only [Act.put, List.getElem_toArray, List.getElem_cons_succ, List.getElem_cons_zero, List.setIfInBounds_toArray, List.set_cons_zero, List.set_cons_succ]
        refine wpAnyH_take (i := 9) (v := ?v10) rfl (by kernel_rfl) (by kernel_rfl) (by kernel_rfl) (fun _ _ _ h => h) (Or.inl ⟨by rfl, ?hy10⟩) hHeld ?rest10
        case hy10 =>
          intro w_ hSw; have h0 := (hSw.cell (p := ⟨b2, off2 + ja * 6, none⟩) hltA).trans a0; have h1 := (hSw.cell (p := ⟨b2, off2 + ja * 6 + 1, none⟩) hltA).trans a1; have h2 := (hSw.cell (p := ⟨b2, off2 + ja * 6 + 2, none⟩) hltA).trans a2; have h3 := (hSw.cell (p := ⟨b2, off2 + ja * 6 + 3, none⟩) hltA).trans a3; have h4 := (hSw.cell (p := ⟨b2, off2 + ja * 6 + 4, none⟩) hltA).trans a4; have h5 := (hSw.cell (p := ⟨b2, off2 + ja * 6 + 5, none⟩) hltA).trans a5; go_simp
          all_goals (with_reducible rfl)
        try simp only [Act.put, List.getElem_toArray, List.getElem_cons_succ, List.getElem_cons_zero, List.setIfInBounds_toArray, List.set_cons_zero, List.set_cons_succ]
        refine wpAnyH_ready (rs := [10]) (by kernel_rfl) (by simp) ?_
        refine AllReadyH.cons rfl (fun K hK => ?_) AllReadyH.nil
        go_simp
        refine hK.out _ _ (hHeld.alloc hHeld.size _) (fun hHeld => ?_)
        clear hK K
        try simp only [Act.put, List.getElem_toArray, List.getElem_cons_succ, List.getElem_cons_zero, List.setIfInBounds_toArray, List.set_cons_zero, List.set_cons_succ]
        refine wpAnyH_ready (rs := [11]) (by kernel_rfl) (by simp) ?_
        refine AllReadyH.cons rfl (fun K hK => ?_) AllReadyH.nil
        refine step_store_rowH rfl 37 (.tmp 11) (.tmp 28) rfl wr.heap.size rfl #[.int .u8 y.a.l.toNat, .string ⟨y.a.d.toArray⟩, .string ⟨y.a.n.toArray⟩, .int .u16 y.a.v.toNat, .int .u8 y.a.i.toNat, .slice y.b y.a.m.length y.c] rfl 37 _ (Blk.new wr.drew 37 #[.int .u8 0, .string ⟨#[]⟩, .string ⟨#[]⟩, .int .u16 0, .int .u8 0, .slice none 0 0]) (by kernel_rfl) rfl (by kernel_rfl) ?_
        have HG := Lib.hid (And.intro (Blk.row (Blk.new wr.drew 37 #[.int .u8 0, .string ⟨#[]⟩, .string ⟨#[]⟩, .int .u16 0, .int .u8 0, .slice none 0 0]) #[.int .u8 y.a.l.toNat, .string ⟨y.a.d.toArray⟩, .string ⟨y.a.n.toArray⟩, .int .u16 y.a.v.toNat, .int .u8 y.a.i.toNat, .slice y.b y.a.m.length y.c]) (below_row (g := wr.heap.size) (((Below.refl wr.heap.size wr).drew).alloc (Nat.le_refl _) (.cells #[.int .u8 0, .string ⟨#[]⟩, .string ⟨#[]⟩, .int .u16 0, .int .u8 0, .slice none 0 0] 37)) (Nat.le_refl _) #[.int .u8 y.a.l.toNat, .string ⟨y.a.d.toArray⟩, .string ⟨y.a.n.toArray⟩, .int .u16 y.a.v.toNat, .int .u8 y.a.i.toNat, .slice y.b y.a.m.length y.c]))
        refine hK.out _ _ (below_row (hHeld) (Nat.le_refl _) _) (fun hHeld => ?_)
        clear hK K
        try simp only [Act.put, List.getElem_toArray, List.getElem_cons_succ, List.getElem_cons_zero, List.setIfInBounds_toArray, List.set_cons_zero, List.set_cons_succ]
        refine wpAnyH_done (by kernel_rfl) ?_ _
        refine NoPanic.normal ?_
        clear hHeld
        go_wp2_with fail
        go_meet
        exact ⟨rfl, Lib.hid HG.out.1, Lib.hid HG.out.2⟩
      obtain ⟨rfl, HG, HBx⟩ := hcut
      have hgl := HK.out.lt
      have HKx := Lib.hid (HK.out.below HBx.out HK.out.lt)
      have HRx := Lib.hid (HR.out.below HBx.out HR.out.lt)
      have HLx := Lib.hid (HL.out.below HBx.out HL.out.lt)
      have HBw : Hid (Below w.heap.size w wc) := Lib.hid (HB.out.trans (HBx.out.mono HB.out.size))
      have d2 := (HBx.out.cell (p := ⟨b1, off1 + k * 4 + 2, none⟩) hltE).trans e2
      have d3 := (HBx.out.cell (p := ⟨b1, off1 + k * 4 + 3, none⟩) hltE).trans e3
      have y0 := HG.out.cell 0
      have y3 := HG.out.cell 3
      have k2' := HKx.out.cell 2
      simp only [List.getElem?_toArray, List.getElem?_cons_succ, List.getElem?_cons_zero] at  y0 y3 k2'
      rw [HE1.out] at k2'
      have g0 := HG.out.lt
      clear e0 e1 e2 e3 a0 a1 a2 a3 a4 a5 k1 k2 HB HK HR HL HBx hjl hgl
      by_cases hb : (x.p == p && ((T.of x).v == v && x.u == u)) = true
      · have hb' := hb
        simp only [Bool.and_eq_true, beq_iff_eq] at hb'
        obtain ⟨h1, h2, h3⟩ := hb'
        have q1 : ((x.p.toNat : Int) == (p.toNat : Int)) = true := by rw [h1]; simp
        have q2 : ((y.a.v.toNat : Int) == (v.toNat : Int)) = true := by rw [HYO.out, h2]; simp
        have q3 : (x.u == u) = true := by rw [h3]; simp
        have hF : ∀ j, levk T p v u (k + 1) j = (levk T p v u k j || decide (y.a.l.toNat = j)) := fun j => by rw [levk_yes HX.out hb, HYO.out]
        have HL1 : Hid (Blk (wc.setCell ⟨w.heap.size + 2, y.a.l.toNat, none⟩ (.bool true)) (w.heap.size + 2) 81 #[.bool ((levk T p v u (k + 1)) 0), .bool ((levk T p v u (k + 1)) 1), .bool ((levk T p v u (k + 1)) 2), .bool ((levk T p v u (k + 1)) 3), .bool ((levk T p v u (k + 1)) 4), .bool ((levk T p v u (k + 1)) 5), .bool ((levk T p v u (k + 1)) 6), .bool ((levk T p v u (k + 1)) 7)]) := Lib.hid (by
          have h := HLx.out.put y.a.l.toNat (.bool true)
          rw [f8_set _ _ HL8.out] at h
          simp only [hF]
          exact h)
        have HK1 : Hid (Blk (wc.setCell ⟨w.heap.size + 2, y.a.l.toNat, none⟩ (.bool true)) w.heap.size 34 #[.int .i64 (T.n : Int), .slice X.A nA X.ca, .slice X.E n X.ce, .slice X.M nM X.cm]) := Lib.hid (HKx.out.far (p := ⟨w.heap.size + 2, y.a.l.toNat, none⟩) (by show w.heap.size ≠ w.heap.size + 2; omega) _)
        have HR1 : Hid (Blk (wc.setCell ⟨w.heap.size + 2, y.a.l.toNat, none⟩ (.bool true)) (w.heap.size + 1) 81 #[.bool false, .bool false, .bool false, .bool false, .bool false, .bool false, .bool false, .bool false]) := Lib.hid (HRx.out.far (p := ⟨w.heap.size + 2, y.a.l.toNat, none⟩) (by show w.heap.size + 1 ≠ w.heap.size + 2; omega) _)
        have HB1 : Hid (Below w.heap.size w (wc.setCell ⟨w.heap.size + 2, y.a.l.toNat, none⟩ (.bool true))) := Lib.hid (HBw.out.setCell (p := ⟨w.heap.size + 2, y.a.l.toNat, none⟩) (by show w.heap.size ≤ w.heap.size + 2; omega) _)
        have cl := f8_at (levk T p v u k) y.a.l.toNat HL8.out
        have cl' := HLx.out.cell y.a.l.toNat
        rw [cl] at cl'
        have fl := HLx.out.frozen y.a.l.toNat
        have hl8 : (y.a.l.toNat : Int) < 8 := by have := HL8.out; omega
        clear hb h1 h2 h3 hF cl HKx HRx HLx HBw
        go_wp2
        go_roundw
        case rel => exact ⟨k + 1, by have := HLT.out; omega, by go_num, HB1, HK1, HR1, HL1⟩
        case measure => have := HLT.out; simp [intOf]; omega
      · have hbf : (x.p == p && ((T.of x).v == v && x.u == u)) = false := by simpa using hb
        have HL1 : Hid (Blk wc (w.heap.size + 2) 81 #[.bool ((levk T p v u (k + 1)) 0), .bool ((levk T p v u (k + 1)) 1), .bool ((levk T p v u (k + 1)) 2), .bool ((levk T p v u (k + 1)) 3), .bool ((levk T p v u (k + 1)) 4), .bool ((levk T p v u (k + 1)) 5), .bool ((levk T p v u (k + 1)) 6), .bool ((levk T p v u (k + 1)) 7)]) := Lib.hid (by
          simp only [levk_no HX.out hbf]
          exact HLx.out)
        have hq : ((x.p.toNat : Int) == (p.toNat : Int)) = false ∨ (((x.p.toNat : Int) == (p.toNat : Int)) = true ∧ (((y.a.v.toNat : Int) == (v.toNat : Int)) = false ∨ (((y.a.v.toNat : Int) == (v.toNat : Int)) = true ∧ (x.u == u) = false))) := by
          rw [HYO.out]
          by_cases h1 : x.p = p
          · refine .inr ⟨by rw [h1]; simp, ?_⟩
            by_cases h2 : (T.of x).v = v
            · refine .inr ⟨by rw [h2]; simp, ?_⟩
              simp only [h1, h2, beq_self_eq_true, Bool.true_and] at hbf
              exact hbf
            · left
              rw [beq_eq_false_iff_ne]
              intro h
              exact h2 (UInt16.toNat_inj.1 (by omega))
          · left
            rw [beq_eq_false_iff_ne]
            intro h
            exact h1 (UInt8.toNat_inj.1 (by omega))
        clear hb hbf
        rcases hq with q1 | ⟨q1, q2 | ⟨q2, q3⟩⟩
        all_goals (
          go_wp2
          go_roundw
          case rel => exact ⟨k + 1, by have := HLT.out; omega, by go_num, HBw, HKx, HRx, HL1⟩
          case measure => have := HLT.out; simp [intOf]; omega)
    · obtain rfl : k = n := by omega
      have HLn : Hid (Blk wr (w.heap.size + 2) 81 #[.bool ((T.lev p v u) 0), .bool ((T.lev p v u) 1), .bool ((T.lev p v u) 2), .bool ((T.lev p v u) 3), .bool ((T.lev p v u) 4), .bool ((T.lev p v u) 5), .bool ((T.lev p v u) 6), .bool ((T.lev p v u) 7)]) := Lib.hid (by
        have h := HL.out
        simp only [levk_all T p v u k _ (by rw [HN.out]; exact Nat.le_refl _)] at h
        exact h)
      have l0 := HLn.out.cell 0
      have l1 := HLn.out.cell 1
      have l2 := HLn.out.cell 2
      have l3 := HLn.out.cell 3
      have l4 := HLn.out.cell 4
      have l5 := HLn.out.cell 5
      have l6 := HLn.out.cell 6
      have l7 := HLn.out.cell 7
      simp only [List.getElem?_toArray, List.getElem?_cons_succ, List.getElem?_cons_zero] at l0 l1 l2 l3 l4 l5 l6 l7
      clear HL hlt k1
      go_wp2_with (refine wpList_store_row rfl 81 (.tmp 8) (.tmp 56) rfl (w.heap.size + 1) rfl _ rfl 81 _ HR.out (by kernel_rfl) rfl (by kernel_rfl) ?_)
      refine bodyPost_ret (v := .agg #[.bool (T.lev p v u 0), .bool (T.lev p v u 1), .bool (T.lev p v u 2), .bool (T.lev p v u 3), .bool (T.lev p v u 4), .bool (T.lev p v u 5), .bool (T.lev p v u 6), .bool (T.lev p v u 7)]) (results_cell_one16 (p := 8) (by kernel_rfl) _ _ (w.heap.size + 1) 81 _ _ rfl (Blk.row HR.out _) Try.underlying81 rfl (by kernel_rfl)) rfl ?_
      exact ⟨rfl, below_row HB.out (by omega) _⟩
end Go.Proofs.Ytfdiolfelecccaa
