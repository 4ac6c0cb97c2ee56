/- Layer 7: a table behind acts, the program's and the document's. -/
import Derived.Test.YteiopobkbfancaaRAll
namespace Go.Proofs.Yteiopobkbfancaa
open Go.RowKit
set_option linter.unusedVariables false
set_option linter.unusedSimpArgs false
set_option maxRecDepth 100000

/-- an act -/
structure Ac where
  d : Int
  v : UInt16
  m : UInt8
  u : UInt8
  p : UInt8
def encA (x : Ac) : List Value := [.int .u8 x.d, .int .u16 x.v.toNat, .int .u8 x.m.toNat, .int .u8 x.u.toNat, .int .u8 x.p.toNat]
theorem encA_pos (x : Ac) : 0 < (encA x).length := Nat.zero_lt_succ _
/-- what act k of the row holds in memory -/
theorem els_ac {w : World} {A : Option Addr} {l : List Ac} (h : Els 5 encA w A l) {k : Nat} {x : Ac} (hx : l[k]? = some x) :
    ∃ b off, A = some ⟨b, off, none⟩ ∧ b < w.heap.size ∧ w.cell? ⟨b, off + k * 5, none⟩ = some (.int .u8 x.d) ∧ w.cell? ⟨b, off + k * 5 + 1, none⟩ = some (.int .u16 x.v.toNat) ∧ w.cell? ⟨b, off + k * 5 + 2, none⟩ = some (.int .u8 x.m.toNat) ∧ w.cell? ⟨b, off + k * 5 + 3, none⟩ = some (.int .u8 x.u.toNat) ∧ w.cell? ⟨b, off + k * 5 + 4, none⟩ = some (.int .u8 x.p.toNat) := by
  obtain ⟨hk, rfl⟩ := List.getElem?_eq_some_iff.1 hx
  obtain ⟨b, off, e, hlt, hc⟩ := h (by omega)
  exact ⟨b, off, e, hlt, hc k hk 0 _ rfl, hc k hk 1 _ rfl, hc k hk 2 _ rfl, hc k hk 3 _ rfl, hc k hk 4 _ rfl⟩
/-- all that memory holds between two acts: the program's table (L, own), the document's (L', own') -/
structure Aft (W : World) (t : Nat) (mb : Option Nat) (q r N : Nat) (L : List Vn) (own : List UInt16) (cs : Array Value) (A : Option Addr) (c : Nat) (L' : List Vn) (own' : List UInt16) (w : World) : Prop where
  tb : Tbl w t mb N L own
  dt : DT w q cs N A c L' own'
  el : Els 3 encN w A L'
  rs : Blk w r 36 #[.int .i64 0, .slice none 0 0, .int .u16 0, .int .u16 0, .int .u16 0, .int .u16 0, .int .u16 0, .int .u16 0, .int .u16 0, .int .u16 0]
  mem : MemOk N L'
  dis : ∀ b off, A = some ⟨b, off, none⟩ → 0 < L'.length → ¬ tset t mb b ∧ b ≠ q ∧ b ≠ r
  dq : ¬ tset t mb q
  dr : ¬ tset t mb r
  qr : q ≠ r
  bt : ∀ k, tset t mb k → W.heap.size ≤ k
  bq : W.heap.size ≤ q
  br : W.heap.size ≤ r
  bl : Below W.heap.size W w
section
variable {W w w' : World} {t q r N c : Nat} {mb : Option Nat} {L L' : List Vn} {own own' : List UInt16} {cs : Array Value} {A : Option Addr}
theorem Aft.calm (h : Aft W t mb q r N L own cs A c L' own' w) (hb : Below w.heap.size w w') : Aft W t mb q r N L own cs A c L' own' w' :=
  ⟨h.tb.next hb, h.dt.next hb, h.el.next hb, h.rs.below hb h.rs.lt, h.mem, h.dis, h.dq, h.dr, h.qr, h.bt, h.bq, h.br, h.bl.trans (hb.mono h.bl.size)⟩
/-- the program's act -/
theorem Aft.prog (h : Aft W t mb q r N L own cs A c L' own' w) {code : Int} {L2 : List Vn} {own2 : List UInt16} {e : Ending} (hp : TP w t mb N code L2 own2 e w') :
    e = .returned (.int .i64 code) ∧ ∃ mb', Aft W t mb' q r N L2 own2 cs A c L' own' w' ∧ Chg (tset t mb) w w' := by
  obtain ⟨he, mb', ht, hc, hk⟩ := hp
  have hlt : ∀ k, k < w.heap.size → tset t mb' k → tset t mb k := fun k hk' e => by
    rcases hk k e with h1 | h1
    · exact h1
    · omega
  refine ⟨he, mb', ⟨ht, ⟨h.dt.blk.chg hc h.dq, h.dt.v⟩, ?_, h.rs.chg hc h.dr, h.mem, ?_, fun e => h.dq (hlt q h.dt.blk.lt e), fun e => h.dr (hlt r h.rs.lt e), h.qr, ?_, h.bq, h.br, ?_⟩, hc⟩
  · intro h0
    obtain ⟨b, off, e, hb, hcl⟩ := h.el h0
    have hn := (h.dis b off e h0).1
    exact ⟨b, off, e, Nat.lt_of_lt_of_le hb hc.size, fun i hi j u hu => (hc.cell (p := ⟨b, off + i * 3 + j, none⟩) hb hn).trans (hcl i hi j u hu)⟩
  · intro b off e h0
    have hn := h.dis b off e h0
    exact ⟨fun e' => hn.1 (hlt b (els_lt h.el e h0) e'), hn.2⟩
  · intro k e
    rcases hk k e with h1 | h1
    · exact h.bt k h1
    · exact Nat.le_trans h.bl.size h1
  · exact h.bl.trans (hc.below h.bl.size (fun k hk' e => by have := h.bt k e; omega))
/-- the document's act, its answer stored -/
theorem Aft.doc (h : Aft W t mb q r N L own cs A c L' own' w) {code : Int} {L2 : List Vn} {own2 : List UInt16} {e : Ending} (hp : DP w A L' N code L2 own2 e w') (hm : MemOk N L2) :
    ∃ cs' A' c', e = .returned (.tuple #[.agg cs', .int .i64 code]) ∧ cs'.size = 10 ∧ cs'.all (·.oneCell') = true ∧ Blk w' q 36 cs ∧ Aft W t mb q r N L own cs' A' c' L2 own2 (w'.setRow q cs') := by
  obtain ⟨cs', A', c', he, hv, hE, hA, hb⟩ := hp
  have h1 := h.calm hb
  have hdis : ∀ b off, A' = some ⟨b, off, none⟩ → 0 < L2.length → ¬ tset t mb b ∧ b ≠ q ∧ b ≠ r := by
    intro b off e h0
    rcases hA b off e with h2 | h2
    · obtain ⟨h2, h3⟩ := h2
      subst h2 h3
      exact h.dis b off e h0
    · have a1 := h.dt.blk.lt
      have a2 := h.rs.lt
      exact ⟨fun e' => by have := h.tb.lt b e'; omega, by omega, by omega⟩
  have hset : Chg (fun k => k = q) w' (w'.setRow q cs') := (Chg.refl (fun k => k = q) w').setRow (g := q) (.inr rfl) _
  refine ⟨cs', A', c', he, hv.sz, hv.one, h1.dt.blk, ?_⟩
  refine ⟨h1.tb.chg hset (fun k e e' => by subst e'; exact h.dq e), ⟨h1.dt.blk.row cs', hv⟩, els_row hE h1.dt.blk (fun b off e h0 => (hdis b off e h0).2.1) _, h1.rs.rowFar h.qr.symm _, hm, hdis, h.dq, h.dr, h.qr, h.bt, h.bq, h.br, below_row h1.bl h.bq _⟩
end
end Go.Proofs.Yteiopobkbfancaa
