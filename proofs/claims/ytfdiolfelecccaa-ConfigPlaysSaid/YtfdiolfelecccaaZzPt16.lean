/- Layer 16, the program: its table in memory. -/
import Derived.Test.YtfdiolfelecccaaZzAm16
import Derived.Test.YtfdiolfelecccaaZz
namespace Go.Proofs.Ytfdiolfelecccaa
open Go.RowKit
set_option linter.unusedVariables false
set_option linter.unusedSimpArgs false
set_option maxRecDepth 100000

theorem asE_lenP (x : AsX) : (asE x).length = 6 := rfl
theorem u16c_lenP (x : UInt16) : (u16c x).length = 1 := rfl
/-- where the program's table has its rows -/
structure PX where
  LA : List AsX
  A : Option Addr
  ca : Nat
  E : Option Addr
  ce : Nat
  mb : Nat
def miK (x : Mi) : Sp × UInt8 := (⟨x.p, x.v⟩, x.l)
def rb (A : Option Addr) : Option Nat := A.map (·.block)
theorem rb_own (A : Option Addr) (n c : Nat) : Value.ownBlock (.slice A n c) = rb A := by cases A <;> rfl
abbrev PtC (T : Tb) (X : PX) : Array Value := #[.int .i64 (T.n : Int), .slice X.A T.A.length X.ca, .slice X.E T.E.length X.ce, .map (some X.mb)]
abbrev OwnL (w : World) (x : AsX) : Prop := w.ownsRow 0 23 1 (.slice x.b x.a.m.length x.c) x.a.m.length (x.a.m.flatMap u16c)
/-- the program's table -/
structure Pt (w : World) (b : Nat) (T : Tb) (X : PX) : Prop where
  blk : Blk w b 69 (PtC T X)
  la : X.LA.map AsX.a = T.A
  rowA : w.ownsRow 0 50 6 (.slice X.A T.A.length X.ca) T.A.length (X.LA.flatMap asE)
  lst : ∀ x ∈ X.LA, OwnL w x
  rowE : w.ownsRow 0 59 4 (.slice X.E T.E.length X.ce) T.E.length (T.E.flatMap mpE)
  map : SmapP w X.mb (T.M.map miK)
  nd : Nd (T.M.map miK)
  inv : TbInv T
  n1 : 1 ≤ T.n
  n8 : T.n ≤ 8
  a8 : T.A.length ≤ 8
/-- the blocks that it has -/
def pset (b : Nat) (X : PX) : Nat → Prop := fun k => k = b ∨ rb X.A = some k ∨ rb X.E = some k ∨ k = X.mb ∨ ∃ x ∈ X.LA, rb x.b = some k
/-- a block of cells of a type -/
def IsC (w : World) (k : Nat) (t : TypeId) : Prop := ∃ cs f, w.heap[k]? = some (.cells cs t f)
theorem IsC.ne {w : World} {k k' : Nat} {t t' : TypeId} (h : IsC w k t) (h' : IsC w k' t') (hn : (t == t') = false) : k ≠ k' := by
  rintro rfl
  obtain ⟨cs, f, e⟩ := h
  obtain ⟨cs', f', e'⟩ := h'
  rw [e] at e'
  injection e' with e'
  injection e' with _ e' _
  rw [e'] at hn
  simp at hn
theorem IsC.own {w : World} {base : Nat} {t : TypeId} {k n c : Nat} {A : Option Addr} {m : Nat} {xs : List Value} (h : w.ownsRow base t k (.slice A n c) m xs) {g : Nat} (hg : rb A = some g) : IsC w g t := by
  rcases h.2 with ⟨hv, _⟩ | ⟨g', cap, cur, hv, _, hb, _⟩
  · simp only [Value.slice.injEq] at hv; rw [hv.1] at hg; cases hg
  · simp only [Value.slice.injEq] at hv
    rw [hv.1] at hg
    have : g' = g := by simpa [rb] using hg
    subst this
    exact ⟨_, _, hb⟩
theorem own_chgP {w w' : World} {X : Nat → Prop} {base : Nat} {e : TypeId} {k n : Nat} {v : Value} {xs : List Value} (h : w.ownsRow base e k v n xs) (hc : Chg X w w') (hn : ∀ b, v.ownBlock = some b → ¬ X b) : w'.ownsRow base e k v n xs := by
  refine ⟨h.1, ?_⟩
  rcases h.2 with h2 | ⟨g, cap, cur, hv, hg, hgb, rest⟩
  · exact .inl h2
  · exact .inr ⟨g, cap, cur, hv, hg, (hc.block g (Array.getElem?_eq_some_iff.1 hgb).1 (hn g (by rw [hv]; rfl))).trans hgb, rest⟩
theorem own_base {w : World} {base : Nat} {e : TypeId} {k n : Nat} {v : Value} {xs : List Value} (h : w.ownsRow base e k v n xs) : w.ownsRow 0 e k v n xs := by
  refine ⟨h.1, ?_⟩
  rcases h.2 with h2 | ⟨g, cap, cur, hv, hg, rest⟩
  · exact .inl h2
  · exact .inr ⟨g, cap, cur, hv, Nat.zero_le _, rest⟩
theorem own_ltP {w : World} {base : Nat} {t : TypeId} {k n c : Nat} {A : Option Addr} {m : Nat} {xs : List Value} (h : w.ownsRow base t k (.slice A n c) m xs) {g : Nat} (hg : rb A = some g) : base ≤ g ∧ g < w.heap.size := by
  rcases h.2 with ⟨hv, _⟩ | ⟨g', cap, cur, hv, hb0, hb, _⟩
  · simp only [Value.slice.injEq] at hv; rw [hv.1] at hg; cases hg
  · simp only [Value.slice.injEq] at hv
    rw [hv.1] at hg
    have : g' = g := by simpa [rb] using hg
    subst this
    exact ⟨hb0, (Array.getElem?_eq_some_iff.1 hb).1⟩
theorem Chg.also {X X' : Nat → Prop} {w w' w'' : World} (h : Chg X w w') (h' : Chg X' w' w'') (hs : ∀ k, k < w.heap.size → X' k → X k) : Chg X w w'' :=
  ⟨h'.os.trans h.os, h'.tape.trans h.tape, h'.output.trans h.output, Nat.le_trans h.size h'.size, fun k hk hn => (h'.block k (Nat.lt_of_lt_of_le hk h.size) (fun e => hn (hs k hk e))).trans (h.block k hk hn)⟩
section
variable {w w' : World} {b : Nat} {T : Tb} {X : PX}
theorem Pt.cB (h : Pt w b T X) : IsC w b 69 := ⟨_, _, h.blk⟩
theorem Pt.cA (h : Pt w b T X) {k : Nat} (hk : rb X.A = some k) : IsC w k 50 := IsC.own h.rowA hk
theorem Pt.cE (h : Pt w b T X) {k : Nat} (hk : rb X.E = some k) : IsC w k 59 := IsC.own h.rowE hk
theorem Pt.cL (h : Pt w b T X) {x : AsX} (hx : x ∈ X.LA) {k : Nat} (hk : rb x.b = some k) : IsC w k 23 := IsC.own (h.lst x hx) hk
theorem Pt.cM (h : Pt w b T X) {t : TypeId} : ¬ IsC w X.mb t := by
  rintro ⟨cs, f, e⟩
  obtain ⟨D, ⟨es, clock, hb, _⟩, _⟩ := h.map
  rw [hb] at e
  cases e
theorem Pt.lt (h : Pt w b T X) : ∀ k, pset b X k → k < w.heap.size := by
  rintro k (rfl | e | e | rfl | ⟨x, hx, e⟩)
  · exact h.blk.lt
  · exact (own_ltP h.rowA e).2
  · exact (own_ltP h.rowE e).2
  · exact h.map.lt
  · exact (own_ltP (h.lst x hx) e).2
theorem Pt.chg {Z : Nat → Prop} (h : Pt w b T X) (hc : Chg Z w w') (hn : ∀ k, pset b X k → ¬ Z k) : Pt w' b T X :=
  ⟨h.blk.chg hc (hn b (.inl rfl)), h.la, own_chgP h.rowA hc (fun k e => hn k (.inr (.inl (by rw [← rb_own X.A T.A.length X.ca]; exact e)))), fun x hx => own_chgP (h.lst x hx) hc (fun k e => hn k (.inr (.inr (.inr (.inr ⟨x, hx, by rw [← rb_own x.b x.a.m.length x.c]; exact e⟩))))),
   own_chgP h.rowE hc (fun k e => hn k (.inr (.inr (.inl (by rw [← rb_own X.E T.E.length X.ce]; exact e))))), h.map.chg hc (hn _ (.inr (.inr (.inr (.inl rfl))))), h.nd, h.inv, h.n1, h.n8, h.a8⟩
theorem Pt.next (h : Pt w b T X) (hb : Below w.heap.size w w') : Pt w' b T X := h.chg (Z := fun _ => False) (Chg.of_below hb) (fun _ _ h => h)
theorem Pt.gro (h : Pt w b T X) (hg : Gro w w') : Pt w' b T X := h.next hg.below
theorem Pt.drew (h : Pt w b T X) : Pt w.drew b T X := h.next ((Below.refl _ _).drew)
theorem Pt.c0 (h : Pt w b T X) : w.cell? ⟨b, 0, none⟩ = some (.int .i64 (T.n : Int)) := h.blk.cell 0
theorem Pt.c1 (h : Pt w b T X) : w.cell? ⟨b, 1, none⟩ = some (.slice X.A T.A.length X.ca) := h.blk.cell 1
theorem Pt.c2 (h : Pt w b T X) : w.cell? ⟨b, 2, none⟩ = some (.slice X.E T.E.length X.ce) := h.blk.cell 2
theorem Pt.c3 (h : Pt w b T X) : w.cell? ⟨b, 3, none⟩ = some (.map (some X.mb)) := h.blk.cell 3
theorem Pt.fz (h : Pt w b T X) (i : Nat) : w.frozen? ⟨b, i, none⟩ = false := h.blk.frozen i
theorem Pt.lenA (h : Pt w b T X) : X.LA.length = T.A.length := by rw [← h.la, List.length_map]
theorem Pt.elsA (h : Pt w b T X) : Els 6 asE w X.A X.LA := by
  have h1 := h.rowA
  rw [← h.lenA] at h1
  obtain ⟨A', c', hv, hE, _⟩ := own_elsB (k := 6) (enc := asE) asE_lenP h1
  cases hv
  exact hE
theorem Pt.elsE (h : Pt w b T X) : Els 4 mpE w X.E T.E := by
  obtain ⟨A', c', hv, hE, _⟩ := own_elsB (k := 4) (enc := mpE) mpE_len h.rowE
  cases hv
  exact hE
theorem own_elsL {w : World} {x : AsX} (h : OwnL w x) : Els 1 u16c w x.b x.a.m ∧ (x.b = none → x.c = 0) := by
  obtain ⟨A', c', hv, hE, _, hz, _⟩ := own_fullL (k := 1) (enc := u16c) u16c_lenP h
  cases hv
  exact ⟨hE, hz⟩
theorem Pt.zE (h : Pt w b T X) : X.E = none → X.ce = 0 := by
  obtain ⟨A', c', hv, hE, _, hz, _⟩ := own_fullL (k := 4) (enc := mpE) mpE_len h.rowE
  cases hv
  exact hz
/-- another row of end points laid into the table -/
theorem Pt.setE {w1 : World} {E' : Option Addr} {ce' : Nat} {L : List Mp} {T' : Tb} (h : Pt w b T X) (hT : T' = { T with E := L }) (hi : TbInv T') (hc : Chg (fun k => rb X.E = some k) w w1)
    (ho : w1.ownsRow 0 59 4 (.slice E' L.length ce') L.length (L.flatMap mpE)) :
    Pt (w1.setCell ⟨b, 2, none⟩ (.slice E' L.length ce')) b T' { X with E := E', ce := ce' } ∧ Chg (pset b X) w (w1.setCell ⟨b, 2, none⟩ (.slice E' L.length ce')) := by
  subst hT
  have nB : ¬ rb X.E = some b := fun e => (h.cE e).ne h.cB (by kernel_rfl) rfl
  have hb1 : Blk w1 b 69 (PtC T X) := h.blk.chg hc nB
  have hc2 : Chg (fun k => k = b) w1 (w1.setCell ⟨b, 2, none⟩ (.slice E' L.length ce')) := (Chg.refl (fun k => k = b) w1).setCell (p := ⟨b, 2, none⟩) (.inr rfl) _
  have hA1 := own_chgP h.rowA hc (fun k e e' => by rw [rb_own] at e; exact (h.cA e).ne (h.cE e') (by kernel_rfl) rfl)
  have hL1 := fun x hx => own_chgP (h.lst x hx) hc (fun k e e' => by rw [rb_own] at e; exact (h.cL hx e).ne (h.cE e') (by kernel_rfl) rfl)
  have cB1 : IsC w1 b 69 := ⟨_, _, hb1⟩
  refine ⟨⟨?_, h.la, ?_, fun x hx => ?_, ?_, ?_, h.nd, hi, h.n1, h.n8, h.a8⟩, (hc.mono (fun k _ hk => .inr (.inr (.inl hk)))).also hc2 (fun k _ hk => .inl hk)⟩
  · simpa using hb1.put 2 (.slice E' L.length ce')
  · exact own_chgP hA1 hc2 (fun k e => by rw [rb_own] at e; exact (IsC.own hA1 e).ne cB1 (by kernel_rfl))
  · exact own_chgP (hL1 x hx) hc2 (fun k e => by rw [rb_own] at e; exact (IsC.own (hL1 x hx) e).ne cB1 (by kernel_rfl))
  · exact own_chgP ho hc2 (fun k e => by rw [rb_own] at e; exact (IsC.own ho e).ne cB1 (by kernel_rfl))
  · have hm1 : SmapP w1 X.mb (T.M.map miK) := h.map.chg hc (fun e => h.cM (h.cE e))
    exact hm1.chg hc2 (fun e => h.cM (by rw [e]; exact h.cB))
/-- another row of associations laid into the table, one at its end -/
theorem Pt.setA {w1 : World} {A' : Option Addr} {ca' : Nat} {y : AsX} {T' : Tb} (h : Pt w b T X) (hT : T' = { T with A := T.A ++ [y.a] }) (hi : TbInv T') (h8 : T.A.length < 8) (hc : Chg (fun k => rb X.A = some k) w w1)
    (ho : w1.ownsRow 0 50 6 (.slice A' (T.A.length + 1) ca') (T.A.length + 1) ((X.LA ++ [y]).flatMap asE)) (hy : OwnL w1 y) :
    Pt (w1.setCell ⟨b, 1, none⟩ (.slice A' (T.A.length + 1) ca')) b T' { X with LA := X.LA ++ [y], A := A', ca := ca' } ∧ Chg (pset b X) w (w1.setCell ⟨b, 1, none⟩ (.slice A' (T.A.length + 1) ca')) := by
  subst hT
  have nB : ¬ rb X.A = some b := fun e => (h.cA e).ne h.cB (by kernel_rfl) rfl
  have hb1 : Blk w1 b 69 (PtC T X) := h.blk.chg hc nB
  have hc2 : Chg (fun k => k = b) w1 (w1.setCell ⟨b, 1, none⟩ (.slice A' (T.A.length + 1) ca')) := (Chg.refl (fun k => k = b) w1).setCell (p := ⟨b, 1, none⟩) (.inr rfl) _
  have hE1 := own_chgP h.rowE hc (fun k e e' => by rw [rb_own] at e; exact (h.cE e).ne (h.cA e') (by kernel_rfl) rfl)
  have hL1 := fun x hx => own_chgP (h.lst x hx) hc (fun k e e' => by rw [rb_own] at e; exact (h.cL hx e).ne (h.cA e') (by kernel_rfl) rfl)
  have cB1 : IsC w1 b 69 := ⟨_, _, hb1⟩
  have hl : (T.A ++ [y.a]).length = T.A.length + 1 := by simp
  refine ⟨⟨?_, ?_, ?_, fun x hx => ?_, ?_, ?_, h.nd, hi, h.n1, h.n8, by rw [hl]; exact h8⟩, (hc.mono (fun k _ hk => .inr (.inl hk))).also hc2 (fun k _ hk => .inl hk)⟩
  · have := hb1.put 1 (.slice A' (T.A.length + 1) ca')
    simp only [PtC, hl]
    simpa using this
  · show (X.LA ++ [y]).map AsX.a = T.A ++ [y.a]
    rw [List.map_append, h.la]; rfl
  · show World.ownsRow _ 0 _ 6 (.slice A' (T.A ++ [y.a]).length ca') (T.A ++ [y.a]).length _
    rw [hl]
    exact own_chgP ho hc2 (fun k e => by rw [rb_own] at e; exact (IsC.own ho e).ne cB1 (by kernel_rfl))
  · rcases List.mem_append.1 hx with hx | hx
    · exact own_chgP (hL1 x hx) hc2 (fun k e => by rw [rb_own] at e; exact (IsC.own (hL1 x hx) e).ne cB1 (by kernel_rfl))
    · rw [List.mem_singleton.1 hx]
      exact own_chgP hy hc2 (fun k e => by rw [rb_own] at e; exact (IsC.own hy e).ne cB1 (by kernel_rfl))
  · exact own_chgP hE1 hc2 (fun k e => by rw [rb_own] at e; exact (IsC.own hE1 e).ne cB1 (by kernel_rfl))
  · have hm1 : SmapP w1 X.mb (T.M.map miK) := h.map.chg hc (fun e => h.cM (h.cA e))
    exact hm1.chg hc2 (fun e => h.cM (by rw [e]; exact h.cB))
/-- the map turned -/
theorem Pt.turn {L : List Mi} {T' : Tb} (h : Pt w b T X) (hT : T' = { T with M := L }) (hi : TbInv T') (hm : SmapP w' X.mb (L.map miK)) (hn : Nd (L.map miK)) (ht : w.mapTurned w' X.mb) : Pt w' b T' X ∧ Chg (pset b X) w w' := by
  subst hT
  have hc : Chg (fun k => k = X.mb) w w' := Chg.of_grown ht.grown (fun k e => .inr (by cases e; rfl))
  refine ⟨⟨h.blk.chg hc (fun e => h.cM (by rw [← e]; exact h.cB)), h.la, own_chgP h.rowA hc (fun k e e' => by rw [rb_own] at e; exact h.cM (e' ▸ h.cA e)), fun x hx => own_chgP (h.lst x hx) hc (fun k e e' => by rw [rb_own] at e; exact h.cM (e' ▸ h.cL hx e)),
    own_chgP h.rowE hc (fun k e e' => by rw [rb_own] at e; exact h.cM (e' ▸ h.cE e)), hm, hn, hi, h.n1, h.n8, h.a8⟩, hc.mono (fun k _ hk => .inr (.inr (.inr (.inl hk))))⟩
/-- an association at its place -/
theorem Pt.at (h : Pt w b T X) {j : Nat} (hj : j < T.A.length) : ∃ y, X.LA[j]? = some y ∧ y.a = T.A.getD j default ∧ y ∈ X.LA := by
  obtain ⟨y, h1, h2⟩ := as_of h.la hj
  exact ⟨y, h1, h2, List.mem_of_getElem? h1⟩
end
end Go.Proofs.Ytfdiolfelecccaa
