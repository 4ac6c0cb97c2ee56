/- Layer 7: each act, of the program and of the document. -/
import Derived.Test.YteiopobkbfancaaROut
namespace Go.Proofs.Yteiopobkbfancaa
open Go.RowKit
set_option linter.unusedVariables false
set_option linter.unusedSimpArgs false
set_option maxRecDepth 100000

def dropL (L : List Vn) (v : UInt16) : List Vn := if dropE L v = 0 then vdel L v else L
def setL (N : Nat) (L : List Vn) (v : UInt16) (m u : UInt8) : List Vn := if setE N L v m u = 0 then vput L ⟨v, m, u⟩ else L
def sownO (N : Nat) (own : List UInt16) (p : UInt8) (v : UInt16) : List UInt16 := if sownE N p v = 0 then own.set p.toNat v else own
/-- what the program's Set, Drop, SetOwn leave -/
def TP (w : World) (t : Nat) (mb : Option Nat) (N : Nat) (code : Int) (L' : List Vn) (own' : List UInt16) (e : Ending) (w' : World) : Prop :=
  e = .returned (.int .i64 code) ∧ ∃ mb', Tbl w' t mb' N L' own' ∧ Chg (tset t mb) w w' ∧ ∀ k, tset t mb' k → tset t mb k ∨ w.heap.size ≤ k
theorem tp_same {w : World} {t N : Nat} {mb : Option Nat} {L : List Vn} {own : List UInt16} (h : Tbl w t mb N L own) {w' : World} (hb : Below w.heap.size w w') : ∃ mb', Tbl w' t mb' N L own ∧ Chg (tset t mb) w w' ∧ ∀ k, tset t mb' k → tset t mb k ∨ w.heap.size ≤ k :=
  ⟨mb, h.next hb, Chg.of_below hb, fun k e => .inl e⟩
theorem drop_all {w : World} {t N : Nat} {mb : Option Nat} {L : List Vn} {own : List UInt16} (h : Tbl w t mb N L own) (v : UInt16) : Calls Try.prog 18 #[.pointer (some ⟨t, 0, none⟩), .int .u16 v.toNat] w fun e w' => TP w t mb N (dropE L v) (dropL L v) (own) e w' := by
  cases hk : okV v
  · have hE : dropE L v = 2 := by simp [dropE, hk]
    have hL : dropL L v = L := by simp [dropL, hE]
    rw [hE, hL]
    exact (drop_bad v hk).mono fun e w' ⟨he, hw⟩ => ⟨he, by rw [← hw]; exact tp_same h (Below.refl _ _)⟩
  · cases hh : vhas L v
    · have hE : dropE L v = 7 := by simp [dropE, hk, hh]
      have hL : dropL L v = L := by simp [dropL, hE]
      rw [hE, hL]
      exact (drop_none h v hk hh).mono fun e w' ⟨he, hb⟩ => ⟨he, tp_same h hb⟩
    · have hE : dropE L v = 0 := by simp [dropE, hk, hh]
      have hL : dropL L v = vdel L v := by simp [dropL, hE]
      rw [hE, hL]
      exact (drop_ok h v hk hh).mono fun e w' ⟨he, ht, hc⟩ => ⟨he, mb, ht, hc, fun k e => .inl e⟩
theorem own_all {w : World} {t N : Nat} {mb : Option Nat} {L : List Vn} {own : List UInt16} (h : Tbl w t mb N L own) (p : UInt8) (v : UInt16) : Calls Try.prog 19 #[.pointer (some ⟨t, 0, none⟩), .int .u8 p.toNat, .int .u16 v.toNat] w fun e w' => TP w t mb N (sownE N p v) (L) (sownO N own p v) e w' := by
  by_cases hk : p.toNat < N ∧ v.toNat ≤ 4094
  · have hE : sownE N p v = 0 := by simp [sownE, hk]
    have hL : sownO N own p v = own.set p.toNat v := by simp [sownO, hE]
    rw [hE, hL]
    exact (setOwn_ok h p v hk.1 hk.2).mono fun e w' ⟨he, ht, hc⟩ => ⟨he, mb, ht, hc, fun k e => .inl e⟩
  · have hE : sownE N p v = 2 := by unfold sownE; rw [if_neg hk]
    have hL : sownO N own p v = own := by simp [sownO, hE]
    rw [hE, hL]
    exact (setOwn_no h p v hk).mono fun e w' ⟨he, hb⟩ => ⟨he, tp_same h hb⟩
theorem set_all {w : World} {t N : Nat} {mb : Option Nat} {L : List Vn} {own : List UInt16} (h : Tbl w t mb N L own) (v : UInt16) (m u : UInt8) : Calls Try.prog 17 #[.pointer (some ⟨t, 0, none⟩), .int .u16 v.toNat, .int .u8 m.toNat, .int .u8 u.toNat] w fun e w' => TP w t mb N (setE N L v m u) (setL N L v m u) (own) e w' := by
  cases hb : setBad N v m u
  · by_cases hf : vhas L v = false ∧ 8 ≤ L.length
    · have hE : setE N L v m u = 6 := by simp [setE, hb, hf]
      have hL : setL N L v m u = L := by simp [setL, hE]
      rw [hE, hL]
      exact (set_full h v m u hb hf.1 hf.2).mono fun e w' ⟨he, hb⟩ => ⟨he, tp_same h hb⟩
    · have hE : setE N L v m u = 0 := by
        unfold setE
        rw [hb]
        cases hh : vhas L v
        · have : ¬ 8 ≤ L.length := fun e => hf ⟨hh, e⟩
          simp [this]
        · simp
      have hL : setL N L v m u = vput L ⟨v, m, u⟩ := by simp [setL, hE]
      have hh : vhas L v = true ∨ L.length < 8 := by
        cases hh : vhas L v
        · exact .inr (by have : ¬ 8 ≤ L.length := fun e => hf ⟨hh, e⟩; omega)
        · exact .inl rfl
      rw [hE, hL]
      exact (set_ok h v m u hb hh).mono fun e w' ⟨he, mb', ht, hc, hk⟩ => ⟨he, mb', ht, hc, hk⟩
  · have hE : setE N L v m u = 2 := by simp [setE, hb]
    have hL : setL N L v m u = L := by simp [setL, hE]
    rw [hE, hL]
    exact (set_bad h v m u hb).mono fun e w' ⟨he, hb⟩ => ⟨he, tp_same h hb⟩

theorem ddrop_all {w : World} {cs : Array Value} {N c : Nat} {A : Option Addr} {L : List Vn} {own : List UInt16} (hv : DTV cs N A c L own) (hE : Els 3 encN w A L) (h8 : L.length ≤ 8) (hN : N ≤ 8) (v : UInt16) : Calls Try.prog 20 #[.agg cs, .int .u16 v.toNat] w fun e w' => DP w A L N (dropE L v) (dropL L v) own e w' := by
  cases hk : okV v
  · have hE' : dropE L v = 2 := by simp [dropE, hk]
    have hL : dropL L v = L := by simp [dropL, hE']
    rw [hE', hL]
    exact ddrop_bad hv hE h8 v hk
  · cases hh : vhas L v
    · have hE' : dropE L v = 7 := by simp [dropE, hk, hh]
      have hL : dropL L v = L := by simp [dropL, hE']
      rw [hE', hL]
      exact ddrop_none hv hE h8 v hk hh
    · have hE' : dropE L v = 0 := by simp [dropE, hk, hh]
      have hL : dropL L v = vdel L v := by simp [dropL, hE']
      rw [hE', hL]
      exact ddrop_ok hv hE h8 v hk hh
theorem down_all {w : World} {cs : Array Value} {N c : Nat} {A : Option Addr} {L : List Vn} {own : List UInt16} (hv : DTV cs N A c L own) (hE : Els 3 encN w A L) (h8 : L.length ≤ 8) (hN : N ≤ 8) (p : UInt8) (v : UInt16) : Calls Try.prog 21 #[.agg cs, .int .u8 p.toNat, .int .u16 v.toNat] w fun e w' => DP w A L N (sownE N p v) L (sownO N own p v) e w' := by
  by_cases hk : p.toNat < N ∧ v.toNat ≤ 4094
  · have hE' : sownE N p v = 0 := by simp [sownE, hk]
    have hL : sownO N own p v = own.set p.toNat v := by simp [sownO, hE']
    rw [hE', hL]
    exact dset_ok hv hE h8 hN p v hk.1 hk.2
  · have hE' : sownE N p v = 2 := by unfold sownE; rw [if_neg hk]
    have hL : sownO N own p v = own := by simp [sownO, hE']
    rw [hE', hL]
    exact dset_bad hv hE h8 p v hk
theorem dput_all {w : World} {cs : Array Value} {N c : Nat} {A : Option Addr} {L : List Vn} {own : List UInt16} (hv : DTV cs N A c L own) (hE : Els 3 encN w A L) (h8 : L.length ≤ 8) (hN : N ≤ 8) (v : UInt16) (m u : UInt8) : Calls Try.prog 22 #[.agg cs, .int .u16 v.toNat, .int .u8 m.toNat, .int .u8 u.toNat] w fun e w' => DP w A L N (setE N L v m u) (setL N L v m u) own e w' := by
  cases hk : okV v
  · have hb : setBad N v m u = true := by simp [setBad, hk]
    have hE' : setE N L v m u = 2 := by simp [setE, hb]
    have hL : setL N L v m u = L := by simp [setL, hE']
    rw [hE', hL]
    exact dput_badv hv hE h8 v m u hk
  · cases hb : setBad N v m u
    · by_cases hf : vhas L v = false ∧ 8 ≤ L.length
      · have hE' : setE N L v m u = 6 := by simp [setE, hb, hf]
        have hL : setL N L v m u = L := by simp [setL, hE']
        rw [hE', hL]
        exact dput_full hv hE h8 hN v m u hk hb hf.1 (by omega)
      · have hE' : setE N L v m u = 0 := by
          unfold setE
          rw [hb]
          cases hh : vhas L v
          · have : ¬ 8 ≤ L.length := fun e => hf ⟨hh, e⟩
            simp [this]
          · simp
        have hL : setL N L v m u = vput L ⟨v, m, u⟩ := by simp [setL, hE']
        have hh : vhas L v = true ∨ L.length < 8 := by
          cases hh : vhas L v
          · exact .inr (by have : ¬ 8 ≤ L.length := fun e => hf ⟨hh, e⟩; omega)
          · exact .inl rfl
        rw [hE', hL]
        exact dput_ok hv hE h8 hN v m u hk hb hh
    · have hE' : setE N L v m u = 2 := by simp [setE, hb]
      have hL : setL N L v m u = L := by simp [setL, hE']
      rw [hE', hL]
      exact dput_bad hv hE h8 hN v m u hk hb
/-- the members that there are -/
def MemOk (N : Nat) (L : List Vn) : Prop := ∀ x ∈ L, allIn N x.m = true
theorem MemOk.drop {N : Nat} {L : List Vn} (h : MemOk N L) (v : UInt16) : MemOk N (dropL L v) := by
  unfold dropL
  split
  · exact fun x hx => h x (List.mem_filter.1 hx).1
  · exact h
theorem MemOk.set {N : Nat} {L : List Vn} (h : MemOk N L) (v : UInt16) (m u : UInt8) : MemOk N (setL N L v m u) := by
  unfold setL
  split
  · rename_i he
    have hb : setBad N v m u = false := by
      cases hb : setBad N v m u
      · rfl
      · simp [setE, hb] at he
    intro x hx
    rcases vins_mem.1 hx with rfl | hx
    · unfold setBad at hb
      cases h1 : allIn N m
      · rw [h1] at hb; simp at hb
      · rfl
    · exact h x (List.mem_filter.1 hx).1
  · exact h
end Go.Proofs.Yteiopobkbfancaa
