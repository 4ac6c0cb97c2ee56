/- Layer 16, the program: what the map says of middle points; New, Meps, Assoc. -/
import Derived.Test.YtfdiolfelecccaaZzPi16
namespace Go.Proofs.Ytfdiolfelecccaa
open Go.RowKit
open Go.Sort (grow)
set_option linter.unusedVariables false
set_option linter.unusedSimpArgs false
set_option maxRecDepth 100000

theorem miK_eq (x : Mi) (k : Sp) : decide ((miK x).1 = k) = (x.p == k.p && x.v == k.v) := by
  obtain ⟨p, v, l⟩ := x
  obtain ⟨p', v'⟩ := k
  rw [Bool.eq_iff_iff]
  simp [miK]
theorem sget_mi (M : List Mi) (k : Sp) : sget (M.map miK) k = (M.find? (fun x => x.p == k.p && x.v == k.v)).map (·.l) := by
  unfold sget
  rw [List.find?_map, Option.map_map]
  have : ((fun x : Sp × UInt8 => decide (x.1 = k)) ∘ miK) = fun x => x.p == k.p && x.v == k.v := by
    funext x
    exact miK_eq x k
  rw [this]
  rfl
theorem shas_mi (M : List Mi) (k : Sp) : shas (M.map miK) k = M.any (fun x => x.p == k.p && x.v == k.v) := by
  unfold shas
  rw [List.any_map]
  have : ((fun x : Sp × UInt8 => decide (x.1 = k)) ∘ miK) = fun x => x.p == k.p && x.v == k.v := by
    funext x
    exact miK_eq x k
  rw [this]
theorem any_mi (M : List Mi) (k : Sp) (n : Nat) (h : Nd (M.map miK)) : M.any (fun x => x.p == k.p && (x.v == k.v && decide (x.l.toNat ≤ n))) = (shas (M.map miK) k && decide (((sget (M.map miK) k).getD (0 : UInt8)).toNat ≤ n)) := by
  induction M with
  | nil => rfl
  | cons x M ih =>
    have h' : Nd (M.map miK) := (List.pairwise_cons.1 h).2
    have hne := (List.pairwise_cons.1 h).1
    have ih := ih h'
    rw [shas_mi, sget_mi] at ih ⊢
    rw [List.any_cons, List.any_cons, List.find?_cons]
    cases hq : (x.p == k.p && x.v == k.v) with
    | true =>
      have hno : M.any (fun x => x.p == k.p && (x.v == k.v && decide (x.l.toNat ≤ n))) = false := by
        rw [← Bool.not_eq_true, List.any_eq_true]
        rintro ⟨y, hy, hyk⟩
        have h2 := hne (miK y) (List.mem_map_of_mem hy)
        rw [← miK_eq] at hq
        have e1 : (miK x).1 = k := of_decide_eq_true hq
        have e2 : (miK y).1 = k := of_decide_eq_true (by rw [miK_eq]; simp only [Bool.and_eq_true] at hyk ⊢; exact ⟨hyk.1, hyk.2.1⟩)
        exact h2 (e1.trans e2.symm)
      rw [hno]
      simp only [Bool.and_eq_true] at hq
      rw [hq.1, hq.2]
      simp
    | false =>
      rw [← Bool.and_assoc, hq]
      simp only [Bool.false_and, Bool.false_or]
      exact ih
theorem under_mi {T : Tb} (h : Nd (T.M.map miK)) (m : Mp) : T.M.any (fun x => T.under m x) = (shas (T.M.map miK) ⟨m.p, (T.of m).v⟩ && decide (((sget (T.M.map miK) ⟨m.p, (T.of m).v⟩).getD (0 : UInt8)).toNat ≤ (T.of m).l.toNat)) :=
  any_mi T.M ⟨m.p, (T.of m).v⟩ (T.of m).l.toNat h
theorem mid_mi (T : Tb) (p : UInt8) (v : UInt16) : T.mid p v = if shas (T.M.map miK) ⟨p, v⟩ then (((sget (T.M.map miK) ⟨p, v⟩).getD (0 : UInt8)).toNat : Int) else -1 := by
  rw [shas_get, sget_mi]
  unfold Tb.mid
  cases T.M.find? (fun x => x.p == p && x.v == v) <;> rfl
theorem put_mi {M : List Mi} {m : Mi} (h : shas (M.map miK) ⟨m.p, m.v⟩ = false) : sput (M.map miK) ⟨m.p, m.v⟩ m.l = (M ++ [m]).map miK := by
  unfold sput
  rw [if_neg (by rw [h]; decide), List.map_append]
  rfl
theorem del_mi (M : List Mi) (p : UInt8) (v : UInt16) : sdel (M.map miK) ⟨p, v⟩ = (M.filter (keepM p v)).map miK := by
  unfold sdel
  rw [List.filter_map]
  congr 1
  have : ((fun x : Sp × UInt8 => !decide (x.1 = ⟨p, v⟩)) ∘ miK) = keepM p v := by
    funext x
    show (!decide ((miK x).1 = ⟨p, v⟩)) = _
    rw [miK_eq]
    rfl
  rw [this]
theorem all_keep (M : List Mi) (p : UInt8) (v : UInt16) : M.all (keepM p v) = !(shas (M.map miK) ⟨p, v⟩) := by
  rw [shas_mi]
  induction M with
  | nil => rfl
  | cons x M ih =>
    rw [List.all_cons, List.any_cons, ih]
    unfold keepM
    simp
section
variable {w : World} {b : Nat} {T : Tb} {X : PX}
set_option maxHeartbeats 1000000 in
theorem new_any (n : Nat) (w : World) (h1 : 1 ≤ n) (h8 : n ≤ 8) : Calls Try.prog 8 #[.int .i64 (n : Int)] w fun e w' => ∃ X b, e = .returned (.tuple #[.pointer (some ⟨b, 0, none⟩), .int .i64 0]) ∧ Pt w' b ⟨n, [], [], []⟩ X ∧ (∀ k, pset b X k → w.heap.size ≤ k) ∧ Below w.heap.size w w' := by
  have p1 : ¬ (n : Int) < 1 := by omega
  have p8 : ¬ (8 : Int) < (n : Int) := by omega
  have HB : Hid (Below w.heap.size w ((w.alloc (.map #[] 0)).alloc (.cells #[.int .i64 (n : Int), .slice none 0 0, .slice none 0 0, .map (some w.heap.size)] 69))) := Lib.hid (((Below.refl _ _).alloc (Nat.le_refl _) _).alloc (by simp) _)
  have HP : Hid (Pt ((w.alloc (.map #[] 0)).alloc (.cells #[.int .i64 (n : Int), .slice none 0 0, .slice none 0 0, .map (some w.heap.size)] 69)) (w.heap.size + 1) ⟨n, [], [], []⟩ ⟨[], none, 0, none, 0, w.heap.size⟩) := Lib.hid (by
    refine ⟨?_, rfl, World.ownsRow_nil _ _ _ _, by simp, World.ownsRow_nil _ _ _ _, ?_, List.Pairwise.nil, inv_new n, h1, h8, by simp⟩
    · have := Blk.new (w.alloc (.map #[] 0)) 69 #[.int .i64 (n : Int), .slice none 0 0, .slice none 0 0, .map (some w.heap.size)]
      rw [show (w.alloc (.map #[] 0)).heap.size = w.heap.size + 1 by simp] at this
      exact this
    · exact SmapP.chg (X := fun _ => False) (SmapP.made w) (Chg.of_below ((Below.refl _ _).alloc (Nat.le_refl _) _)) (fun h => h))
  clear h1 h8
  have hmm := @run_makeMap Try.prog
  go_enter Try.func8, Try.ntmps8
  go_wp2
  go_ret2
  refine ⟨⟨[], none, 0, none, 0, w.heap.size⟩, w.heap.size + 1, ?_, HP.out, ?_, HB.out⟩
  · rfl
  · rintro k (e | e | e | e | ⟨x, hx, _⟩)
    · omega
    · cases e
    · cases e
    · have : k = w.heap.size := e
      omega
    · cases hx
set_option maxHeartbeats 1000000 in
theorem newBad_any (n : Int) (w : World) (h : ¬ (1 ≤ n ∧ n ≤ 8)) : Calls Try.prog 8 #[.int .i64 n] w fun e w' => e = .returned (.tuple #[.pointer none, .int .i64 2]) ∧ Below w.heap.size w w' := by
  by_cases h1 : n < 1
  · clear h
    go_enter Try.func8, Try.ntmps8
    go_wp2
    go_ret2
    exact ⟨rfl, Below.refl _ _⟩
  · have h8 : 8 < n := by omega
    clear h
    go_enter Try.func8, Try.ntmps8
    go_wp2
    go_ret2
    exact ⟨rfl, Below.refl _ _⟩
set_option maxHeartbeats 1000000 in
theorem mepsN_any (w : World) : Calls Try.prog 13 #[.pointer none] w fun e w' => ∃ B c, e = .returned (.slice B 0 c) ∧ Below w.heap.size w w' := by
  go_enter Try.func13, Try.ntmps13
  go_wp2
  go_ret
  exact ⟨none, 0, rfl, Below.refl _ _⟩
set_option maxHeartbeats 1000000 in
theorem meps_any (h : Pt w b T X) (hl : T.E.length ≤ 1000) : Calls Try.prog 13 #[.pointer (some ⟨b, 0, none⟩)] w fun e w' => ∃ B c, e = .returned (.slice B T.E.length c) ∧ Els 4 mpE w' B T.E ∧ (B = none → c = 0) ∧ Below w.heap.size w w' ∧ (∀ a, B = some a → ¬ pset b X a.block) := by
  have c2 := h.c2
  have K := Lib.hid (cloM_any w T.E X.E X.ce hl h.zE h.elsE)
  have HL := Lib.hid h.lt
  obtain ⟨n, hn⟩ : ∃ n, T.E.length = n := ⟨_, rfl⟩
  rw [hn] at c2 K ⊢
  have HN := Lib.hid hn
  clear h hl hn
  go_enter Try.func13, Try.ntmps13
  go_wp2_with fail
  refine K.out.mono ?_
  rintro e w1 ⟨B, c, rfl, ho, hb⟩
  have HO := Lib.hid ho
  have HB := Lib.hid hb
  clear ho hb K
  go_wp2
  go_ret
  have ho := HO.out
  rw [← HN.out] at ho
  obtain ⟨A', c', hv, hE, _, hz, _⟩ := own_fullL (k := 4) (enc := mpE) mpE_len ho
  cases hv
  exact ⟨_, _, rfl, hE, hz, HB.out, fun a ha hs => by
    have h1 := HL.out _ hs
    have h2 := (own_ltP ho (g := a.block) (by rw [ha]; rfl)).1
    omega⟩
set_option maxHeartbeats 2000000 in
theorem assocN_any (w : World) (i : Int) : Calls Try.prog 12 #[.pointer none, .int .i64 i] w fun e w' => e = .returned (.tuple #[.agg #[.int .u8 0, .string ⟨#[]⟩, .string ⟨#[]⟩, .int .u16 0, .int .u8 0, .slice none 0 0], .bool false]) ∧ Below w.heap.size w w' := by
  have HB : Hid (Below w.heap.size w (w.alloc (.cells #[.int .u8 0, .string ⟨#[]⟩, .string ⟨#[]⟩, .int .u16 0, .int .u8 0, .slice none 0 0] 50))) := Lib.hid ((Below.refl _ _).alloc (Nat.le_refl _) _)
  have HZ := Lib.hid (Blk.new w 50 #[.int .u8 0, .string ⟨#[]⟩, .string ⟨#[]⟩, .int .u16 0, .int .u8 0, .slice none 0 0])
  go_enter Try.func12, Try.ntmps12
  go_wp2_with (refine wpList_store_row rfl 50 (.tmp 4) (.tmp 15) rfl w.heap.size rfl _ rfl 50 _ HZ.out (by kernel_rfl) rfl (by kernel_rfl) ?_)
  refine bodyPost_ret (v := .tuple #[.agg #[.int .u8 0, .string ⟨#[]⟩, .string ⟨#[]⟩, .int .u16 0, .int .u8 0, .slice none 0 0], .bool false]) (results_cell_slot (p := 4) (q := 5) (by kernel_rfl) _ _ w.heap.size 50 _ _ rfl (Blk.row HZ.out _) Try.underlying50 rfl (by kernel_rfl) _ rfl) rfl ?_
  exact ⟨rfl, below_row HB.out (Nat.le_refl _) _⟩
set_option maxHeartbeats 2000000 in
theorem assocNo_any (h : Pt w b T X) (i : Int) (hi : ¬ (0 ≤ i ∧ i < T.A.length)) : Calls Try.prog 12 #[.pointer (some ⟨b, 0, none⟩), .int .i64 i] w fun e w' => e = .returned (.tuple #[.agg #[.int .u8 0, .string ⟨#[]⟩, .string ⟨#[]⟩, .int .u16 0, .int .u8 0, .slice none 0 0], .bool false]) ∧ Below w.heap.size w w' := by
  have HB : Hid (Below w.heap.size w (w.alloc (.cells #[.int .u8 0, .string ⟨#[]⟩, .string ⟨#[]⟩, .int .u16 0, .int .u8 0, .slice none 0 0] 50))) := Lib.hid ((Below.refl _ _).alloc (Nat.le_refl _) _)
  have HZ := Lib.hid (Blk.new w 50 #[.int .u8 0, .string ⟨#[]⟩, .string ⟨#[]⟩, .int .u16 0, .int .u8 0, .slice none 0 0])
  have K := Lib.hid (isPlace_any (h.next HB.out) i)
  have q : (decide (0 ≤ i) && decide (i < T.A.length)) = false := by
    rw [← Bool.not_eq_true, Bool.and_eq_true]
    simpa using hi
  rw [q] at K
  clear h hi q
  go_enter Try.func12, Try.ntmps12
  go_wp2_with fail
  refine K.out.mono ?_
  rintro e w1 ⟨rfl, hg⟩
  have HB1 : Hid (Below w.heap.size w w1) := Lib.hid (HB.out.trans (hg.below.mono HB.out.size))
  have HZ1 := Lib.hid (HZ.out.below hg.below HZ.out.lt)
  clear hg HB HZ K
  go_wp2_with (refine wpList_store_row rfl 50 (.tmp 4) (.tmp 15) rfl w.heap.size rfl _ rfl 50 _ HZ1.out (by kernel_rfl) rfl (by kernel_rfl) ?_)
  refine bodyPost_ret (v := .tuple #[.agg #[.int .u8 0, .string ⟨#[]⟩, .string ⟨#[]⟩, .int .u16 0, .int .u8 0, .slice none 0 0], .bool false]) (results_cell_slot (p := 4) (q := 5) (by kernel_rfl) _ _ w.heap.size 50 _ _ rfl (Blk.row HZ1.out _) Try.underlying50 rfl (by kernel_rfl) _ rfl) rfl ?_
  exact ⟨rfl, below_row HB1.out (Nat.le_refl _) _⟩
end
end Go.Proofs.Ytfdiolfelecccaa
