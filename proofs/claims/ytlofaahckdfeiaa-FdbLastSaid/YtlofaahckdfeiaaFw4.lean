/- The program's table in memory; isStatic, Statics, List, forget, New. -/
import Derived.Test.YtlofaahckdfeiaaFw3
namespace Go.Proofs.Ytlofaahckdfeiaa
open Go.RowKit
set_option linter.unusedVariables false
set_option linter.unusedSimpArgs false
set_option maxRecDepth 100000

def rb (A : Option Addr) : Option Nat := A.map (·.block)
theorem rb_own (A : Option Addr) (n c : Nat) : Value.ownBlock (.slice A n c) = rb A := by cases A <;> rfl
/-- the table at t: its row, its map -/
structure Tab (w : World) (t : Nat) (A : Option Addr) (c : Nat) (mb : Option Nat) (L : List En) (S : List (Pl × UInt8)) : Prop where
  blk : Blk w t 62 #[.slice A L.length c, .map mb]
  row : w.ownsRow 0 64 9 (.slice A L.length c) L.length (L.flatMap enV)
  map : SVP w mb S
  l32 : L.length ≤ 32
  s16 : S.length ≤ 16
  nd : Nd S
  age : ∀ e ∈ L, e.a ≤ 40
  prt : ∀ e ∈ L, e.p.toNat < 8
/-- the blocks that it has -/
def tset (t : Nat) (A : Option Addr) (mb : Option Nat) : Nat → Prop := fun k => k = t ∨ rb A = some k ∨ mb = some k
section
variable {w w' : World} {t c : Nat} {A : Option Addr} {mb : Option Nat} {L : List En} {S : List (Pl × UInt8)}
theorem own_chg {X : Nat → Prop} {base : Nat} {e : TypeId} {k n : Nat} {v : Value} {xs : List Value} (h : w.ownsRow base e k v n xs) (hc : Chg X w w') (hn : ∀ b, v.ownBlock = some b → ¬ X b) : w'.ownsRow base e k v n xs := by
  refine ⟨h.1, ?_⟩
  rcases h.2 with h2 | ⟨g, cap, cur, hv, hg, hgb, rest⟩
  · exact .inl h2
  · exact .inr ⟨g, cap, cur, hv, hg, (hc.block g (Array.getElem?_eq_some_iff.1 hgb).1 (hn g (by rw [hv]; rfl))).trans hgb, rest⟩
theorem Tab.lt (h : Tab w t A c mb L S) : ∀ k, tset t A mb k → k < w.heap.size := by
  rintro k (rfl | e | rfl)
  · exact h.blk.lt
  · exact (h.row.lt k (by rw [rb_own]; exact e)).2
  · exact h.map.lt
theorem Tab.lt0 (h : Tab w t A c mb L S) : t < w.heap.size := h.blk.lt
theorem Tab.chg {X : Nat → Prop} (h : Tab w t A c mb L S) (hc : Chg X w w') (hn : ∀ k, tset t A mb k → ¬ X k) : Tab w' t A c mb L S :=
  ⟨h.blk.chg hc (hn t (.inl rfl)), own_chg h.row hc (fun b e => hn b (.inr (.inl (by rw [← rb_own A L.length c]; exact e)))), h.map.chg hc (fun b e => hn b (.inr (.inr e))), h.l32, h.s16, h.nd, h.age, h.prt⟩
theorem Tab.next (h : Tab w t A c mb L S) (hb : Below w.heap.size w w') : Tab w' t A c mb L S := h.chg (X := fun _ => False) (Chg.of_below hb) (fun _ _ h => h)
theorem Tab.gro (h : Tab w t A c mb L S) (hg : Gro w w') : Tab w' t A c mb L S := h.next hg.below
theorem Tab.drew (h : Tab w t A c mb L S) : Tab w.drew t A c mb L S := h.next ((Below.refl _ _).drew)
theorem Tab.c0 (h : Tab w t A c mb L S) : w.cell? ⟨t, 0, none⟩ = some (.slice A L.length c) := h.blk.cell 0
theorem Tab.c1 (h : Tab w t A c mb L S) : w.cell? ⟨t, 1, none⟩ = some (.map mb) := h.blk.cell 1
theorem Tab.fz (h : Tab w t A c mb L S) (i : Nat) : w.frozen? ⟨t, i, none⟩ = false := h.blk.frozen i
theorem Tab.els (h : Tab w t A c mb L S) : Els 9 enV w A L := by
  obtain ⟨A', c', hv, hE, _⟩ := own_elsB (k := 9) (enc := enV) enV_len h.row
  cases hv
  exact hE
theorem Tab.nil0 (h : Tab w t none c mb L S) : L = [] ∧ c = 0 := by
  rcases h.row.2 with ⟨hv, h0⟩ | ⟨g, cap, cur, hv, _⟩
  · simpa using hv
  · simp at hv
theorem Tab.off0 (h : Tab w t A c mb L S) : ∀ a, A = some a → ∃ b, a = ⟨b, 0, Option.none⟩ := by
  rintro a rfl
  rcases h.row.2 with ⟨hv, h0⟩ | ⟨g, cap, cur, hv, _⟩
  · simp at hv
  · simp only [Value.slice.injEq, Option.some.injEq] at hv; exact ⟨g, hv.1⟩
theorem Tab.neRow (h : Tab w t A c mb L S) : rb A ≠ some t := by
  intro e
  rcases h.row.2 with ⟨hv, h0⟩ | ⟨g, cap, cur, hv, _, hg, _⟩
  · simp only [Value.slice.injEq] at hv; rw [hv.1] at e; cases e
  · simp only [Value.slice.injEq] at hv
    rw [hv.1] at e
    have e' : g = t := by simpa [rb] using e
    subst e'
    have hb := h.blk
    unfold Blk at hb
    rw [hb] at hg
    injection hg with hg
    injection hg with _ h2 _
    exact absurd h2 (by decide)
theorem Tab.neMap {b : Nat} (h : Tab w t A c (some b) L S) : b ≠ t ∧ rb A ≠ some b := by
  have hm := h.map
  obtain ⟨D, ⟨es, clock, hb, _⟩, _⟩ := hm
  refine ⟨?_, fun e => ?_⟩
  · rintro rfl
    have hb' := h.blk
    unfold Blk at hb'
    rw [hb] at hb'
    cases hb'
  · rcases h.row.2 with ⟨hv, h0⟩ | ⟨g, cap, cur, hv, _, hg, _⟩
    · simp only [Value.slice.injEq] at hv; rw [hv.1] at e; cases e
    · simp only [Value.slice.injEq] at hv
      rw [hv.1] at e
      have e' : g = b := by simpa [rb] using e
      subst e'
      rw [hb] at hg
      cases hg
theorem Chg.also {X X' : Nat → Prop} {w w' w'' : World} (h : Chg X w w') (h' : Chg X' w' w'') (hs : ∀ k, k < w.heap.size → X' k → X k) : Chg X w w'' :=
  ⟨h'.os.trans h.os, h'.tape.trans h.tape, h'.output.trans h.output, Nat.le_trans h.size h'.size, fun k hk hn => (h'.block k (Nat.lt_of_lt_of_le hk h.size) (fun e => hn (hs k hk e))).trans (h.block k hk hn)⟩
/-- another row laid into the table -/
theorem Tab.setRow {w1 : World} {A' : Option Addr} {c' : Nat} {L' : List En} (h : Tab w t A c mb L S) (hc : Chg (fun k => rb A = some k) w w1) (ho : w1.ownsRow 0 64 9 (.slice A' L'.length c') L'.length (L'.flatMap enV)) (hn : rb A' ≠ some t) (h32 : L'.length ≤ 32)
    (ha : ∀ e ∈ L', e.a ≤ 40) (hp : ∀ e ∈ L', e.p.toNat < 8) : Tab (w1.setCell ⟨t, 0, Option.none⟩ (.slice A' L'.length c')) t A' c' mb L' S ∧ Chg (tset t A mb) w (w1.setCell ⟨t, 0, Option.none⟩ (.slice A' L'.length c')) := by
  have hb1 : Blk w1 t 62 #[.slice A L.length c, .map mb] := h.blk.chg hc h.neRow
  have hm1 : SVP w1 mb S := h.map.chg hc (fun b e => by subst e; exact h.neMap.2)
  have hc2 : Chg (fun k => k = t) w1 (w1.setCell ⟨t, 0, Option.none⟩ (.slice A' L'.length c')) := (Chg.refl (fun k => k = t) w1).setCell (p := ⟨t, 0, Option.none⟩) (.inr rfl) _
  refine ⟨⟨?_, ?_, ?_, h32, h.s16, h.nd, ha, hp⟩, ?_⟩
  · simpa using hb1.put 0 (.slice A' L'.length c')
  · exact own_chg ho hc2 (fun b e => by rw [rb_own] at e; rintro rfl; exact hn e)
  · exact hm1.chg hc2 (fun b e => by subst e; exact h.neMap.1)
  · exact (hc.mono (fun k _ hk => .inr (.inl hk))).also hc2 (fun k _ hk => .inl hk)
/-- the map turned -/
theorem Tab.turn {b : Nat} {S' : List (Pl × UInt8)} (h : Tab w t A c (some b) L S) (hm : SmapP w' b S') (ht : w.mapTurned w' b) (h16 : S'.length ≤ 16) (hn : Nd S') : Tab w' t A c (some b) L S' ∧ Chg (tset t A (some b)) w w' := by
  have hg := ht.grown
  have hc : Chg (fun k => k = b) w w' := Chg.of_grown hg (fun k e => .inr (by cases e; rfl))
  exact ⟨⟨h.blk.chg hc (fun e => h.neMap.1 e.symm), own_chg h.row hc (fun k e => by rw [rb_own] at e; rintro rfl; exact h.neMap.2 e), hm, h.l32, h16, hn, h.age, h.prt⟩, hc.mono (fun k _ hk => .inr (.inr (by rw [hk])))⟩
/-- the map made -/
theorem Tab.made (h : Tab w t A c none L S) : Tab ((w.alloc (.map #[] 0)).setCell ⟨t, 1, Option.none⟩ (.map (some w.heap.size))) t A c (some w.heap.size) L S ∧ Chg (tset t A none) w ((w.alloc (.map #[] 0)).setCell ⟨t, 1, Option.none⟩ (.map (some w.heap.size))) := by
  obtain rfl : S = [] := h.map
  have hlt := h.blk.lt
  have hg := h.next (w' := w.alloc (.map #[] 0)) ((Below.refl _ w).alloc (Nat.le_refl _) _)
  have hc : Chg (fun k => k = t) (w.alloc (.map #[] 0)) ((w.alloc (.map #[] 0)).setCell ⟨t, 1, Option.none⟩ (.map (some w.heap.size))) := (Chg.refl (fun k => k = t) _).setCell (p := ⟨t, 1, Option.none⟩) (.inr rfl) _
  refine ⟨⟨?_, own_chg hg.row hc (fun b e => by rw [rb_own] at e; rintro rfl; exact hg.neRow e), ?_, h.l32, h.s16, h.nd, h.age, h.prt⟩, ?_⟩
  · simpa using hg.blk.put 1 (.map (some w.heap.size))
  · exact SmapP.chg (SmapP.made w) hc (by omega)
  · exact ((Chg.refl _ w).alloc _).also hc (fun k _ hk => .inl hk)
end
set_option maxHeartbeats 1000000 in
theorem new_any (w : World) : Calls Try.prog 7 #[] w fun e w' => e = .returned (.pointer (some ⟨w.heap.size, 0, none⟩)) ∧ Tab w' w.heap.size none 0 none [] [] ∧ Gro w w' := by
  go_enter Try.func7, Try.ntmps7
  go_wp2
  go_ret
  exact ⟨rfl, ⟨Blk.new w _ _, World.ownsRow_nil _ _ _ _, rfl, by simp, by simp, List.Pairwise.nil, by simp, by simp⟩, (Gro.refl w).alloc _⟩
set_option maxHeartbeats 1000000 in
theorem isStatic_any {w : World} {t c : Nat} {A : Option Addr} {mb : Option Nat} {L : List En} {S : List (Pl × UInt8)} (h : Tab w t A c mb L S) (k : Pl) : Calls Try.prog 29 #[.pointer (some ⟨t, 0, none⟩), kV k] w fun e w' => e = .returned (.bool (shas S k)) ∧ Gro w w' := by
  have ha := h.next (w' := w.alloc (.cells #[.int .u16 k.v.toNat, .int .u8 k.m.a.toNat, .int .u8 k.m.b.toNat, .int .u8 k.m.c.toNat, .int .u8 k.m.d.toNat, .int .u8 k.m.e.toNat, .int .u8 k.m.f.toNat] 71)) ((Below.refl _ w).alloc (Nat.le_refl _) _)
  have c1 := ha.c1
  have hl := fun n => (ha.gro ((Gro.refl _).drewN n)).map.run k true
  have hb := Blk.new w 71 #[.int .u16 k.v.toNat, .int .u8 k.m.a.toNat, .int .u8 k.m.b.toNat, .int .u8 k.m.c.toNat, .int .u8 k.m.d.toNat, .int .u8 k.m.e.toNat, .int .u8 k.m.f.toNat]
  clear h ha
  go_enter Try.func29, Try.ntmps29
  go_wp2_with fail
  go_quiet (fail)
  go_wp2
  go_ret
  exact ⟨rfl, ((Gro.refl w).alloc _).drewN _⟩
set_option maxHeartbeats 1000000 in
theorem statics_any {w : World} {t c : Nat} {A : Option Addr} {mb : Option Nat} {L : List En} {S : List (Pl × UInt8)} (h : Tab w t A c mb L S) : Calls Try.prog 22 #[.pointer (some ⟨t, 0, none⟩)] w fun e w' => e = .returned (.int .i64 S.length) ∧ Gro w w' := by
  have c1 := h.c1
  have hl := h.map.len
  clear h
  go_enter Try.func22, Try.ntmps22
  go_wp2
  go_ret
  exact ⟨rfl, Gro.refl w⟩
set_option maxHeartbeats 1000000 in
theorem list_any {w : World} {t c : Nat} {A : Option Addr} {mb : Option Nat} {L : List En} {S : List (Pl × UInt8)} (h : Tab w t A c mb L S) : Calls Try.prog 21 #[.pointer (some ⟨t, 0, none⟩)] w fun e w' => ∃ A' c', e = .returned (.slice A' L.length c') ∧ Els 9 enV w' A' L ∧ Below w.heap.size w w' := by
  have c0 := h.c0
  have hC := clone_any w L A c (by have := h.l32; omega) (fun e => by subst e; exact h.nil0) h.off0 h.els
  have HC := Lib.hid hC
  obtain ⟨n, hn⟩ : ∃ n, L.length = n := ⟨_, rfl⟩
  have HN := Lib.hid hn
  rw [hn] at c0 HC ⊢
  clear h hC hn
  go_enter Try.func21, Try.ntmps21
  go_wp2_with fail
  refine HC.out.mono ?_
  rintro e w1 ⟨A', c', rfl, hE, hb⟩
  have HE := Lib.hid hE
  have HB := Lib.hid hb
  clear HC hE hb
  go_wp2
  go_ret
  exact ⟨A', c', rfl, HE.out, HB.out⟩
set_option maxHeartbeats 2000000 in
theorem forget_any {w : World} {t c : Nat} {A : Option Addr} {mb : Option Nat} {L : List En} {S : List (Pl × UInt8)} (h : Tab w t A c mb L S) (gf : Nat) (bd lb : Array Value) (eg : ∀ args w, (callFunc gf args).run Try.prog w = .ok (.enter gf args) w) (p : En → Bool)
    (hp : ∀ (W : World) (x : En), Chg (tset t A mb) w W → Calls Try.prog gf (bd ++ #[eV x] ++ lb) W fun e w' => e = .returned (.bool (p x)) ∧ Gro W w') :
    Calls Try.prog 24 #[.pointer (some ⟨t, 0, none⟩), .func (.func gf) bd lb] w fun e w' => e = .returned (.int .i64 ((L.length : Int) - ((L.filter fun x => !p x).length : Int))) ∧ ∃ A' c', Tab w' t A' c' mb (L.filter fun x => !p x) S ∧ Chg (tset t A mb) w w' ∧ rb A' = rb A := by
  have c0 := h.c0
  have hD := delf_any w gf bd lb eg p L (.slice A L.length c) 0 (by have := h.l32; omega) h.row (fun W x hc => hp W x (hc.mono fun k _ hk => .inr (.inl (by rw [rb_own] at hk; exact hk))))
  have HD := Lib.hid hD
  have HT := Lib.hid h
  obtain ⟨n, hn⟩ : ∃ n, L.length = n := ⟨_, rfl⟩
  obtain ⟨L', hL'⟩ : ∃ l, (L.filter fun x => !p x) = l := ⟨_, rfl⟩
  have HN := Lib.hid hn
  have HL : Hid (L'.length ≤ L.length ∧ ∀ e ∈ L', e ∈ L) := Lib.hid ⟨by rw [← hL']; exact List.length_filter_le _ _, fun e he => by rw [← hL'] at he; exact (List.mem_filter.1 he).1⟩
  rw [hn] at c0 HD ⊢
  rw [hL'] at HD ⊢
  obtain ⟨n', hn'⟩ : ∃ n, L'.length = n := ⟨_, rfl⟩
  have HN' := Lib.hid hn'
  rw [hn']
  clear h hD hn hp hn'
  go_enter Try.func24, Try.ntmps24
  go_wp2_with fail
  refine HD.out.mono ?_
  rintro e w1 ⟨v', rfl, ho, hob, hc⟩
  obtain ⟨A', c', hv, _⟩ := own_elsB (k := 9) (enc := enV) enV_len ho
  subst hv
  rw [rb_own, rb_own] at hob
  have hc' : Chg (fun k => rb A = some k) w w1 := hc.mono fun k _ hk => by rw [rb_own] at hk; exact hk
  have hst := HT.out.setRow hc' ho (by rw [hob]; exact HT.out.neRow) (by have := HL.out.1; have := HT.out.l32; omega) (fun e he => HT.out.age e (HL.out.2 e he)) (fun e he => HT.out.prt e (HL.out.2 e he))
  obtain ⟨w2, hw2⟩ : ∃ w2, w1.setCell ⟨t, 0, none⟩ (.slice A' L'.length c') = w2 := ⟨_, rfl⟩
  rw [hw2] at hst
  have HST := Lib.hid hst
  have HOB := Lib.hid hob
  have f0 := (HT.out.blk.chg hc' HT.out.neRow).frozen 0
  have s0 : (w1.cell? ⟨t, 0, none⟩) = some (.slice A n c) := by rw [← HN.out]; exact (HT.out.blk.chg hc' HT.out.neRow).cell 0
  have c2 := hst.1.c0
  have HLE : Hid (n' ≤ n ∧ n ≤ 32) := Lib.hid ⟨by have := HL.out.1; rw [HN.out, HN'.out] at this; exact this, by have := HT.out.l32; rw [HN.out] at this; exact this⟩
  rw [HN'.out] at hw2 c2
  rw [HN'.out]
  clear ho hob hc hc' hst HD HT
  have hle := HLE.out.1
  have hle2 := HLE.out.2
  go_wp2
  go_ret
  exact ⟨by go_num, A', c', HST.out.1, HST.out.2, HOB.out⟩
theorem eg_isOf : ∀ args w, (callFunc 30 args).run Try.prog w = .ok (.enter 30 args) w := enters_of Try.func30 (by kernel_rfl) rfl
theorem eg_tick1 : ∀ args w, (callFunc 25 args).run Try.prog w = .ok (.enter 25 args) w := enters_of Try.func25 (by kernel_rfl) rfl
theorem eg_flush1 : ∀ args w, (callFunc 26 args).run Try.prog w = .ok (.enter 26 args) w := enters_of Try.func26 (by kernel_rfl) rfl
/-- a place's own entry forgotten -/
def lwo (L : List En) (k : Pl) : List En := L.filter fun x => !decide (k = x.k)
theorem forgetP_any {w : World} {t c : Nat} {A : Option Addr} {mb : Option Nat} {L : List En} {S : List (Pl × UInt8)} (h : Tab w t A c mb L S) (k : Pl) :
    Calls Try.prog 24 #[.pointer (some ⟨t, 0, none⟩), .func (.func 30) #[kV k] #[]] w fun e w' => ∃ n : Int, e = .returned (.int .i64 n) ∧ ∃ A' c', Tab w' t A' c' mb (lwo L k) S ∧ Chg (tset t A mb) w w' ∧ rb A' = rb A :=
  (forget_any h _ #[kV k] #[] eg_isOf (fun e => decide (k = e.k)) (fun W x _ => isOf_any W k x)).mono fun _ _ hh => ⟨_, hh.1, hh.2⟩
end Go.Proofs.Ytlofaahckdfeiaa
