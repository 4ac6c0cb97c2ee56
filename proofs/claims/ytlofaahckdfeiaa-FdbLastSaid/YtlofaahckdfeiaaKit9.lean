/- Layer 8: the table, the map beside it, and the acts. -/
import Derived.Test.YtlofaahckdfeiaaLearnt
namespace Go.Proofs.Ytlofaahckdfeiaa
open Go.RowKit
set_option linter.unusedVariables false
set_option linter.unusedSimpArgs false
set_option maxRecDepth 100000

/-- the table, the law's map, the acts -/
structure FlS (W : World) (t : Nat) (X : Nat → Prop) (A : Option Addr) (l : List Ac) (b : Nat) (z : Zt) (SM : List (Pl × UInt8)) (w : World) : Prop where
  db : Db w t X z.1 z.2
  el : Els 10 encA w A l
  mp : SmapQ w b SM
  nb : ¬ X b
  bl : Below W.heap.size W w
  up : ∀ k, X k → W.heap.size ≤ k
  lb : W.heap.size ≤ b
  na : 0 < l.length → ∀ a, A = some a → a.block < W.heap.size
/-- .. and the act that is played -/
structure FlA (W : World) (t : Nat) (X : Nat → Prop) (A : Option Addr) (l : List Ac) (b : Nat) (ga gb : Nat) (a : Ac) (z : Zt) (SM : List (Pl × UInt8)) (w : World) : Prop where
  st : FlS W t X A l b z SM w
  ac : Blk w ga 34 ([.int .u8 a.d.toNat, .int .u16 a.k.v.toNat, .int .u8 a.k.m.a.toNat, .int .u8 a.k.m.b.toNat, .int .u8 a.k.m.c.toNat, .int .u8 a.k.m.d.toNat, .int .u8 a.k.m.e.toNat, .int .u8 a.k.m.f.toNat, .int .u8 a.p.toNat, .int .u8 a.s.toNat] : List Value).toArray
  ka : Blk w gb 57 #[.int .u16 a.k.v.toNat, .int .u8 a.k.m.a.toNat, .int .u8 a.k.m.b.toNat, .int .u8 a.k.m.c.toNat, .int .u8 a.k.m.d.toNat, .int .u8 a.k.m.e.toNat, .int .u8 a.k.m.f.toNat]
  na : ¬ X ga
  nk : ¬ X gb
  ba : ga ≠ b
  bk : gb ≠ b
section
variable {W w w' : World} {t b ga gb : Nat} {X : Nat → Prop} {A : Option Addr} {l : List Ac} {a : Ac} {z z' : Zt} {SM SM' : List (Pl × UInt8)}
theorem FlS.calm (h : FlS W t X A l b z SM w) (hb : Below w.heap.size w w') : FlS W t X A l b z SM w' :=
  ⟨h.db.next hb, h.el.next hb, h.mp.chg (Chg.of_below (S := fun _ => False) hb) (fun e => e), h.nb, h.bl.trans (hb.mono h.bl.size), h.up, h.lb, h.na⟩
theorem FlA.calm (h : FlA W t X A l b ga gb a z SM w) (hb : Below w.heap.size w w') : FlA W t X A l b ga gb a z SM w' :=
  ⟨h.st.calm hb, h.ac.below hb h.ac.lt, h.ka.below hb h.ka.lt, h.na, h.nk, h.ba, h.bk⟩
theorem FlA.to (h : FlA W t X A l b ga gb a z SM w) (d : DbTo w w' t X z'.1 z'.2) : ∃ X', FlA W t X' A l b ga gb a z' SM w' := by
  obtain ⟨X', h', hc, hk⟩ := d
  have hs := h.st
  exact ⟨X', ⟨h', els_chg' hs.el hc (fun h0 a e hx => by have := hs.na h0 a e; have := hs.up _ hx; omega), hs.mp.chg hc hs.nb, fun e => (hk b e).elim hs.nb (fun e => by have := hs.mp.lt; omega), hs.bl.trans (hc.below hs.bl.size (fun k hk e => by have := hs.up k e; omega)), fun k e => (hk k e).elim (hs.up k) (fun e => Nat.le_trans hs.bl.size e), hs.lb, hs.na⟩,
    h.ac.chg hc h.na, h.ka.chg hc h.nk, fun e => (hk ga e).elim h.na (fun e => by have := h.ac.lt; omega), fun e => (hk gb e).elim h.nk (fun e => by have := h.ka.lt; omega), h.ba, h.bk⟩
theorem FlA.turn (h : FlA W t X A l b ga gb a z SM w) (hm : SmapQ w' b SM') (ht : w.mapTurned w' b) : FlA W t X A l b ga gb a z SM' w' := by
  have hc : Chg (fun k => k = b) w w' := Chg.of_grown ht.grown (fun k e => .inr (by cases e; rfl))
  have hs := h.st
  exact ⟨⟨hs.db.chg hc (fun k hk e => hs.nb (by cases e; exact hk)), els_chg' hs.el hc (fun h0 a e hx => by have := hs.na h0 a e; have := hs.lb; omega), hm, hs.nb, hs.bl.trans (hc.below hs.bl.size (fun k hk e => by have := hs.lb; omega)), hs.up, hs.lb, hs.na⟩, h.ac.chg hc h.ba, h.ka.chg hc h.bk, h.na, h.nk, h.ba, h.bk⟩
theorem FlA.acells (h : FlA W t X A l b ga gb a z SM w) : w.cell? ⟨ga, 0, none⟩ = some (.int .u8 a.d.toNat) ∧ w.cell? ⟨ga, 1, none⟩ = some (.int .u16 a.k.v.toNat) ∧ w.cell? ⟨ga, 2, none⟩ = some (.int .u8 a.k.m.a.toNat) ∧ w.cell? ⟨ga, 3, none⟩ = some (.int .u8 a.k.m.b.toNat) ∧ w.cell? ⟨ga, 4, none⟩ = some (.int .u8 a.k.m.c.toNat) ∧ w.cell? ⟨ga, 5, none⟩ = some (.int .u8 a.k.m.d.toNat) ∧ w.cell? ⟨ga, 6, none⟩ = some (.int .u8 a.k.m.e.toNat) ∧ w.cell? ⟨ga, 7, none⟩ = some (.int .u8 a.k.m.f.toNat) ∧ w.cell? ⟨ga, 8, none⟩ = some (.int .u8 a.p.toNat) ∧ w.cell? ⟨ga, 9, none⟩ = some (.int .u8 a.s.toNat) :=
  ⟨h.ac.cell 0, h.ac.cell 1, h.ac.cell 2, h.ac.cell 3, h.ac.cell 4, h.ac.cell 5, h.ac.cell 6, h.ac.cell 7, h.ac.cell 8, h.ac.cell 9⟩
end
end Go.Proofs.Ytlofaahckdfeiaa
