/- Layer 16: package config keeps its contracts. -/
import Derived.Test.YtfdiolfelecccaaZzPp16
import Derived.Test.YtfdiolfelecccaaZzLaw16
namespace Go.Proofs.Ytfdiolfelecccaa
open Go.RowKit
set_option linter.unusedVariables false
set_option linter.unusedSimpArgs false
set_option maxRecDepth 100000

/-- the block b is the table T, which owns the blocks S -/
def cgr (S : Nat → Prop) (w : World) (b : Nat) (T : Tb) : Prop := ∃ X, Pt w b T X ∧ S = pset b X
theorem cgr_to {w w' : World} {b : Nat} {X : PX} {T' : Tb} (h : PtTo w b X T' w') : ∃ S', cgr S' w' b T' ∧ StepT (pset b X) S' w w' := by
  obtain ⟨X', h1, h2, h3⟩ := h
  exact ⟨pset b X', ⟨X', h1, rfl⟩, ⟨h2, h3⟩⟩
theorem cg_impl : CgI cgr where
  new n w h1 h8 := (new_any n w h1 h8).mono (by
    rintro e w' ⟨X, b, rfl, hP, hS, hb⟩
    exact ⟨pset b X, b, rfl, ⟨X, hP, rfl⟩, hS, hb⟩)
  bad n w h := newBad_any n w h
  addA S w b T a B c hR hs hE hz hd hn hm := by
    obtain ⟨X, h, rfl⟩ := hR
    exact (addA_any h a B c hE hz hd hn hm).mono (by
      rintro e w' ⟨rfl, hP⟩
      obtain ⟨S', h1, h2⟩ := cgr_to hP
      exact ⟨S', rfl, h1, h2⟩)
  addE S w b T m hR hs := by
    obtain ⟨X, h, rfl⟩ := hR
    exact (addE_any h m hs.2.1).mono (by
      rintro e w' ⟨rfl, hP⟩
      obtain ⟨S', h1, h2⟩ := cgr_to hP
      exact ⟨S', rfl, h1, h2⟩)
  dropE S w b T a k hR hs := by
    obtain ⟨X, h, rfl⟩ := hR
    exact (dropE_any h a k hs.2.1).mono (by
      rintro e w' ⟨rfl, hP⟩
      obtain ⟨S', h1, h2⟩ := cgr_to hP
      exact ⟨S', rfl, h1, h2⟩)
  addM S w b T m hR hs := by
    obtain ⟨X, h, rfl⟩ := hR
    exact (addM_any h m hs.2.1 hs.2.2).mono (by
      rintro e w' ⟨rfl, hP⟩
      obtain ⟨S', h1, h2⟩ := cgr_to hP
      exact ⟨S', rfl, h1, h2⟩)
  dropM S w b T p v hR hs := by
    obtain ⟨X, h, rfl⟩ := hR
    exact (dropM_any h p v).mono (by
      rintro e w' ⟨rfl, hP⟩
      obtain ⟨S', h1, h2⟩ := cgr_to hP
      exact ⟨S', rfl, h1, h2⟩)
  assoc S w b T i hR hs h0 h1 := by
    obtain ⟨X, h, rfl⟩ := hR
    exact (assoc_any h i h0 h1).mono (by
      rintro e w' ⟨B, c, rfl, hE, hb⟩
      exact ⟨B, c, rfl, hE, ⟨X, h.next hb, rfl⟩, hb⟩)
  assocNo S w b T i hR hs hi := by
    obtain ⟨X, h, rfl⟩ := hR
    exact (assocNo_any h i hi).mono (by
      rintro e w' ⟨rfl, hb⟩
      exact ⟨rfl, ⟨X, h.next hb, rfl⟩, hb⟩)
  meps S w b T hR hs := by
    obtain ⟨X, h, rfl⟩ := hR
    exact (meps_any h hs.2.1).mono (by
      rintro e w' ⟨B, c, rfl, hE, hz, hb, hn⟩
      exact ⟨B, c, rfl, hE, hz, ⟨X, h.next hb, rfl⟩, hb, hn⟩)
  att S w b T p v hR hs := by
    obtain ⟨X, h, rfl⟩ := hR
    exact (att_any h p v hs.2.1).mono (by
      rintro e w' ⟨rfl, hb⟩
      exact ⟨rfl, ⟨X, h.next hb, rfl⟩, hb⟩)
  addAN w a B c := addAN_any w a B c
  addEN w m := addEN_any w m
  dropEN w a k := dropEN_any w a k
  addMN w m := addMN_any w m
  dropMN w p v := dropMN_any w p v
  assocN w i := assocN_any w i
  mepsN w := mepsN_any w
  attN w p v := attN_any w p v
  fr S Z w w' b T hR hc hn := by
    obtain ⟨X, h, rfl⟩ := hR
    exact ⟨X, h.chg hc hn, rfl⟩
  lt S w b T hR := by
    obtain ⟨X, h, rfl⟩ := hR
    exact h.lt
  inv S w b T hR := by
    obtain ⟨X, h, rfl⟩ := hR
    exact h.inv
end Go.Proofs.Ytfdiolfelecccaa
