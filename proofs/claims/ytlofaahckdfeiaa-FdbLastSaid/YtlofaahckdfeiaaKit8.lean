/- Layer 8: both tables while acts are played. -/
import Derived.Test.YtlofaahckdfeiaaSm
import Derived.StillTailTactics
namespace Go.Proofs.Ytlofaahckdfeiaa
open Go.RowKit
set_option linter.unusedVariables false
set_option linter.unusedSimpArgs false
set_option maxRecDepth 100000

theorem els_chg' {α : Type} {k : Nat} {enc : α → List Value} {w w' : World} {A : Option Addr} {r : List α} {X : Nat → Prop} (h : Els k enc w A r) (hc : Chg X w w') (hn : 0 < r.length → ∀ a, A = some a → ¬ X a.block) : Els k enc w' A r :=
  fun h0 => h.chg hc (hn h0) h0
/-- both tables, the acts and an address beside them -/
structure PlS (W : World) (t : Nat) (X : Nat → Prop) (q gm : Nat) (mm : Mc) (Aa : Option Addr) (l : List Ac) (LP : List En) (SP : List (Pl × UInt8)) (LD : List En) (SD : List (Pl × UInt8)) (w : World) : Prop where
  db : Db w t X LP SP
  rv : ∃ A c B d, Blk w q 32 #[.slice A LD.length c, .slice B SD.length d] ∧ RvE (fun k => ¬ X k ∧ k ≠ q) w A c LD B d SD
  mc : Blk w gm 25 #[.int .u8 mm.a.toNat, .int .u8 mm.b.toNat, .int .u8 mm.c.toNat, .int .u8 mm.d.toNat, .int .u8 mm.e.toNat, .int .u8 mm.f.toNat]
  el : Els 10 encA w Aa l
  bl : Below W.heap.size W w
  up : ∀ k, X k → W.heap.size ≤ k
  nq : ¬ X q
  nm : ¬ X gm
  mq : gm ≠ q
  na : 0 < l.length → ∀ a, Aa = some a → a.block < W.heap.size
  lq : W.heap.size ≤ q
section
variable {W w w' : World} {t q gm ga : Nat} {X : Nat → Prop} {mm : Mc} {Aa : Option Addr} {l : List Ac} {a : Ac} {LP LP' LD LD' : List En} {SP SP' SD SD' : List (Pl × UInt8)}
theorem PlS.qlt (h : PlS W t X q gm mm Aa l LP SP LD SD w) : q < w.heap.size := by
  obtain ⟨A, c, B, d, hq, _⟩ := h.rv
  exact hq.lt
theorem PlS.calm (h : PlS W t X q gm mm Aa l LP SP LD SD w) (hb : Below w.heap.size w w') : PlS W t X q gm mm Aa l LP SP LD SD w' := by
  obtain ⟨A, c, B, d, hq, hr⟩ := h.rv
  exact ⟨h.db.next hb, ⟨A, c, B, d, hq.below hb hq.lt, hr.next hb⟩, h.mc.below hb h.mc.lt, h.el.next hb, h.bl.trans (hb.mono h.bl.size), h.up, h.nq, h.nm, h.mq, h.na, h.lq⟩
theorem PlS.prog (h : PlS W t X q gm mm Aa l LP SP LD SD w) (d : DbTo w w' t X LP' SP') : ∃ X', PlS W t X' q gm mm Aa l LP' SP' LD SD w' ∧ Chg X w w' ∧ ∀ k, X' k → X k ∨ w.heap.size ≤ k := by
  obtain ⟨X', h', hc, hk⟩ := d
  obtain ⟨A, c, B, d, hq, hr⟩ := h.rv
  have hlt := hq.lt
  refine ⟨X', ⟨h', ⟨A, c, B, d, hq.chg hc h.nq, ?_⟩, h.mc.chg hc h.nm, els_chg' h.el hc (fun h0 a e hx => by have := h.na h0 a e; have := h.up _ hx; omega), h.bl.trans (hc.below h.bl.size (fun k hk e => by have := h.up k e; omega)), fun k e => (hk k e).elim (h.up k) (fun e => Nat.le_trans h.bl.size e), fun e => (hk q e).elim h.nq (fun e => by omega), fun e => (hk gm e).elim h.nm (fun e => by have := h.mc.lt; omega), h.mq, h.na, h.lq⟩, hc, hk⟩
  have h1 := hr.swap (Y' := fun k => ¬ X k ∧ k ≠ q ∧ ¬ X' k) (fun k hlt hy => ⟨hy.1, hy.2, fun e => (hk k e).elim hy.1 (fun e => by omega)⟩)
  exact (h1.chg hc (fun k _ hy => hy.1)).swap (fun k _ hy => ⟨hy.2.2, hy.2.1⟩)
theorem PlS.doc (h : PlS W t X q gm mm Aa l LP SP LD SD w) {A B : Option Addr} {c d : Nat} (hr : RvE (fun k => ¬ X k ∧ k ≠ q) w A c LD' B d SD') : PlS W t X q gm mm Aa l LP SP LD' SD' (w.setRow q #[.slice A LD'.length c, .slice B SD'.length d]) := by
  obtain ⟨A0, c0, B0, d0, hq, hr0⟩ := h.rv
  have hc : Chg (fun k => k = q) w (w.setRow q #[.slice A LD'.length c, .slice B SD'.length d]) := (Chg.refl (fun k => k = q) w).setRow (g := q) (.inr rfl) _
  exact ⟨h.db.chg hc (fun k hk e => h.nq (by cases e; exact hk)), ⟨A, c, B, d, hq.row _, hr.chg hc (fun k _ hy e => hy.2 e)⟩, h.mc.chg hc h.mq, els_chg' h.el hc (fun h0 a e e2 => by have := h.na h0 a e; have := h.lq; omega), below_row h.bl h.lq _, h.up, h.nq, h.nm, h.mq, h.na, h.lq⟩
/-- .. and an act in memory -/
structure PlA (W : World) (t : Nat) (X : Nat → Prop) (q gm : Nat) (mm : Mc) (Aa : Option Addr) (l : List Ac) (ga : Nat) (a : Ac) (LP : List En) (SP : List (Pl × UInt8)) (LD : List En) (SD : List (Pl × UInt8)) (w : World) : Prop where
  st : PlS W t X q gm mm Aa l LP SP LD SD w
  ac : Blk w ga 34 (encA a).toArray
  ng : ¬ X ga
  gq : ga ≠ q
theorem PlA.calm (h : PlA W t X q gm mm Aa l ga a LP SP LD SD w) (hb : Below w.heap.size w w') : PlA W t X q gm mm Aa l ga a LP SP LD SD w' := ⟨h.st.calm hb, h.ac.below hb h.ac.lt, h.ng, h.gq⟩
theorem PlA.prog (h : PlA W t X q gm mm Aa l ga a LP SP LD SD w) (d : DbTo w w' t X LP' SP') : ∃ X', PlA W t X' q gm mm Aa l ga a LP' SP' LD SD w' := by
  obtain ⟨X', h', hc, hk⟩ := h.st.prog d
  exact ⟨X', h', h.ac.chg hc h.ng, fun e => (hk ga e).elim h.ng (fun e => by have := h.ac.lt; omega), h.gq⟩
theorem PlA.doc (h : PlA W t X q gm mm Aa l ga a LP SP LD SD w) {A B : Option Addr} {c d : Nat} (hr : RvE (fun k => ¬ X k ∧ k ≠ q) w A c LD' B d SD') : PlA W t X q gm mm Aa l ga a LP SP LD' SD' (w.setRow q #[.slice A LD'.length c, .slice B SD'.length d]) :=
  ⟨h.st.doc hr, h.ac.chg ((Chg.refl (fun k => k = q) w).setRow (g := q) (.inr rfl) _) h.gq, h.ng, h.gq⟩
theorem PlA.cells (h : PlA W t X q gm mm Aa l ga a LP SP LD SD w) : w.cell? ⟨ga, 0, none⟩ = some (.int .u8 a.d.toNat) ∧ w.cell? ⟨ga, 1, none⟩ = some (.int .u16 a.k.v.toNat) ∧ w.cell? ⟨ga, 2, none⟩ = some (.int .u8 a.k.m.a.toNat) ∧ w.cell? ⟨ga, 3, none⟩ = some (.int .u8 a.k.m.b.toNat) ∧ w.cell? ⟨ga, 4, none⟩ = some (.int .u8 a.k.m.c.toNat) ∧ w.cell? ⟨ga, 5, none⟩ = some (.int .u8 a.k.m.d.toNat) ∧ w.cell? ⟨ga, 6, none⟩ = some (.int .u8 a.k.m.e.toNat) ∧ w.cell? ⟨ga, 7, none⟩ = some (.int .u8 a.k.m.f.toNat) ∧ w.cell? ⟨ga, 8, none⟩ = some (.int .u8 a.p.toNat) ∧ w.cell? ⟨ga, 9, none⟩ = some (.int .u8 a.s.toNat) :=
  ⟨h.ac.cell 0, h.ac.cell 1, h.ac.cell 2, h.ac.cell 3, h.ac.cell 4, h.ac.cell 5, h.ac.cell 6, h.ac.cell 7, h.ac.cell 8, h.ac.cell 9⟩
theorem PlS.hY (h : PlS W t X q gm mm Aa l LP SP LD SD w) : ∀ k, w.heap.size ≤ k → ¬ X k ∧ k ≠ q := fun k hk => ⟨fun e => by have := h.db.lt k e; omega, fun e => by have := h.qlt; omega⟩
/-- the document's table, where it stands -/
theorem PlS.tbl (h : PlS W t X q gm mm Aa l LP SP LD SD w) : ∃ A c B d, Blk w q 32 #[.slice A LD.length c, .slice B SD.length d] ∧ RvE (fun k => ¬ X k ∧ k ≠ q) w A c LD B d SD ∧ w.cell? ⟨q, 0, none⟩ = some (.slice A LD.length c) ∧ w.cell? ⟨q, 1, none⟩ = some (.slice B SD.length d) := by
  obtain ⟨A, c, B, d, hq, hr⟩ := h.rv
  exact ⟨A, c, B, d, hq, hr, hq.cell 0, hq.cell 1⟩
end
theorem encA_one (x : Ac) : ∀ u ∈ encA x, u.oneCell' = true := by
  intro u hu
  simp only [encA, List.mem_cons, List.mem_nil_iff, or_false] at hu
  rcases hu with rfl | rfl | rfl | rfl | rfl | rfl | rfl | rfl | rfl | rfl <;> rfl
theorem els_act {w : World} {A : Option Addr} {l : List Ac} {k : Nat} {x : Ac} (h : Els 10 encA w A l) (hx : l[k]? = some x) : ∃ b off, A = some ⟨b, off, none⟩ ∧ ∀ j u, (encA x)[j]? = some u → w.cell? ⟨b, off + k * 10 + j, none⟩ = some u := by
  obtain ⟨hk, rfl⟩ := List.getElem?_eq_some_iff.1 hx
  obtain ⟨b, off, e, hlt, hc⟩ := h (by omega)
  exact ⟨b, off, e, hc k hk⟩
theorem isAggA (w : World) : (isAgg 34).run Try.prog w = .ok true w := by kernel_rfl
theorem sizeA (w : World) : (Go.sizeOf 34).run Try.prog w = .ok 10 w := by kernel_rfl
end Go.Proofs.Ytlofaahckdfeiaa
