/- Layer 8: the document's table as a value; static. -/
import Derived.Test.YtlofaahckdfeiaaAp
import Derived.BigQuiet
import Derived.Deep.QuietTactic
namespace Go.Proofs.Ytlofaahckdfeiaa
open Go.RowKit
set_option linter.unusedVariables false
set_option linter.unusedSimpArgs false
set_option maxRecDepth 100000

def esV (x : Pl × UInt8) : List Value := [.int .u16 x.1.v.toNat, .int .u8 x.1.m.a.toNat, .int .u8 x.1.m.b.toNat, .int .u8 x.1.m.c.toNat, .int .u8 x.1.m.d.toNat, .int .u8 x.1.m.e.toNat, .int .u8 x.1.m.f.toNat, .int .u8 x.2.toNat]
theorem esV_len (x : Pl × UInt8) : (esV x).length = 8 := rfl
theorem esV_one (x : Pl × UInt8) : ∀ u ∈ esV x, u.oneCell' = true := by
  intro u hu
  simp only [esV, List.mem_cons, List.mem_nil_iff, or_false] at hu
  rcases hu with rfl | rfl | rfl | rfl | rfl | rfl | rfl | rfl <;> rfl
/-- the two rows of the document's table; Y holds of their blocks -/
structure RvE (Y : Nat → Prop) (w : World) (A : Option Addr) (c : Nat) (L : List En) (B : Option Addr) (d : Nat) (S : List (Pl × UInt8)) : Prop where
  elL : Els 9 enV w A L
  elS : Els 8 esV w B S
  cL : L.length ≤ c
  cS : S.length ≤ d
  nL : A = none → c = 0
  nS : B = none → d = 0
  yL : ∀ a, A = some a → Y a.block ∧ a.block < w.heap.size
  yS : ∀ a, B = some a → Y a.block ∧ a.block < w.heap.size
  l32 : L.length ≤ 32
  s16 : S.length ≤ 16
section
variable {w w' : World} {Y : Nat → Prop} {A B : Option Addr} {c d : Nat} {L : List En} {S : List (Pl × UInt8)}
theorem RvE.next (h : RvE Y w A c L B d S) (hb : Below w.heap.size w w') : RvE Y w' A c L B d S :=
  ⟨h.elL.next hb, h.elS.next hb, h.cL, h.cS, h.nL, h.nS, fun a e => ⟨(h.yL a e).1, Nat.lt_of_lt_of_le (h.yL a e).2 hb.size⟩, fun a e => ⟨(h.yS a e).1, Nat.lt_of_lt_of_le (h.yS a e).2 hb.size⟩, h.l32, h.s16⟩
theorem RvE.gro (h : RvE Y w A c L B d S) (hb : Gro w w') : RvE Y w' A c L B d S := h.next hb.below
theorem RvE.chg {X : Nat → Prop} (h : RvE Y w A c L B d S) (hc : Chg X w w') (hn : ∀ k, k < w.heap.size → Y k → ¬ X k) : RvE Y w' A c L B d S :=
  ⟨h.elL.chg hc (fun a e => hn _ (h.yL a e).2 (h.yL a e).1), h.elS.chg hc (fun a e => hn _ (h.yS a e).2 (h.yS a e).1), h.cL, h.cS, h.nL, h.nS, fun a e => ⟨(h.yL a e).1, Nat.lt_of_lt_of_le (h.yL a e).2 hc.size⟩, fun a e => ⟨(h.yS a e).1, Nat.lt_of_lt_of_le (h.yS a e).2 hc.size⟩, h.l32, h.s16⟩
theorem RvE.swap {Y' : Nat → Prop} (h : RvE Y w A c L B d S) (hn : ∀ k, k < w.heap.size → Y k → Y' k) : RvE Y' w A c L B d S :=
  ⟨h.elL, h.elS, h.cL, h.cS, h.nL, h.nS, fun a e => ⟨hn _ (h.yL a e).2 (h.yL a e).1, (h.yL a e).2⟩, fun a e => ⟨hn _ (h.yS a e).2 (h.yS a e).1, (h.yS a e).2⟩, h.l32, h.s16⟩
/-- what number k of the static ones holds -/
theorem es_at {x : Pl × UInt8} {k : Nat} (h : Els 8 esV w B S) (hx : S[k]? = some x) : ∃ b off, B = some ⟨b, off, none⟩ ∧ b < w.heap.size ∧ w.cell? ⟨b, off + k * 8, none⟩ = some (.int .u16 x.1.v.toNat) ∧ w.cell? ⟨b, off + k * 8 + 1, none⟩ = some (.int .u8 x.1.m.a.toNat) ∧ w.cell? ⟨b, off + k * 8 + 2, none⟩ = some (.int .u8 x.1.m.b.toNat) ∧ w.cell? ⟨b, off + k * 8 + 3, none⟩ = some (.int .u8 x.1.m.c.toNat) ∧ w.cell? ⟨b, off + k * 8 + 4, none⟩ = some (.int .u8 x.1.m.d.toNat) ∧ w.cell? ⟨b, off + k * 8 + 5, none⟩ = some (.int .u8 x.1.m.e.toNat) ∧ w.cell? ⟨b, off + k * 8 + 6, none⟩ = some (.int .u8 x.1.m.f.toNat) ∧ w.cell? ⟨b, off + k * 8 + 7, none⟩ = some (.int .u8 x.2.toNat) := by
  obtain ⟨hk, rfl⟩ := List.getElem?_eq_some_iff.1 hx
  obtain ⟨b, off, e, hlt, hc⟩ := h (by omega)
  exact ⟨b, off, e, hlt, hc k hk 0 _ rfl, hc k hk 1 _ rfl, hc k hk 2 _ rfl, hc k hk 3 _ rfl, hc k hk 4 _ rfl, hc k hk 5 _ rfl, hc k hk 6 _ rfl, hc k hk 7 _ rfl⟩
theorem en_at {x : En} {k : Nat} (h : Els 9 enV w A L) (hx : L[k]? = some x) : ∃ b off, A = some ⟨b, off, none⟩ ∧ b < w.heap.size ∧ w.cell? ⟨b, off + k * 9, none⟩ = some (.int .u16 x.k.v.toNat) ∧ w.cell? ⟨b, off + k * 9 + 1, none⟩ = some (.int .u8 x.k.m.a.toNat) ∧ w.cell? ⟨b, off + k * 9 + 2, none⟩ = some (.int .u8 x.k.m.b.toNat) ∧ w.cell? ⟨b, off + k * 9 + 3, none⟩ = some (.int .u8 x.k.m.c.toNat) ∧ w.cell? ⟨b, off + k * 9 + 4, none⟩ = some (.int .u8 x.k.m.d.toNat) ∧ w.cell? ⟨b, off + k * 9 + 5, none⟩ = some (.int .u8 x.k.m.e.toNat) ∧ w.cell? ⟨b, off + k * 9 + 6, none⟩ = some (.int .u8 x.k.m.f.toNat) ∧ w.cell? ⟨b, off + k * 9 + 7, none⟩ = some (.int .u8 x.p.toNat) ∧ w.cell? ⟨b, off + k * 9 + 8, none⟩ = some (.int .i64 (x.a : Nat)) := by
  obtain ⟨hk, rfl⟩ := List.getElem?_eq_some_iff.1 hx
  obtain ⟨b, off, e, hlt, hc⟩ := h (by omega)
  exact ⟨b, off, e, hlt, hc k hk 0 _ rfl, hc k hk 1 _ rfl, hc k hk 2 _ rfl, hc k hk 3 _ rfl, hc k hk 4 _ rfl, hc k hk 5 _ rfl, hc k hk 6 _ rfl, hc k hk 7 _ rfl, hc k hk 8 _ rfl⟩
end
theorem own_full {α : Type} {k : Nat} {enc : α → List Value} (hk : ∀ x, (enc x).length = k) {w : World} {base : Nat} {t : TypeId} {v : Value} {l : List α} (h : w.ownsRow base t k v l.length (l.flatMap enc)) :
    ∃ A c, v = .slice A l.length c ∧ Els k enc w A l ∧ l.length ≤ c ∧ (A = none → c = 0) ∧ ∀ a, A = some a → base ≤ a.block ∧ a.block < w.heap.size := by
  obtain ⟨A, c, rfl, hE, _⟩ := own_elsB hk h
  refine ⟨A, c, rfl, hE, ?_⟩
  rcases h.2 with ⟨e, h0⟩ | ⟨g, cap, cur, e, hb, hg, h1, h2, h3, h4⟩
  · simp only [Value.slice.injEq] at e
    exact ⟨by omega, fun _ => e.2.2, fun a ha => by rw [e.1] at ha; cases ha⟩
  · simp only [Value.slice.injEq] at e
    refine ⟨by omega, fun ha => (by rw [e.1] at ha; cases ha), fun a ha => ?_⟩
    rw [e.1] at ha
    cases ha
    exact ⟨hb, (Array.getElem?_eq_some_iff.1 hg).1⟩
/-- where a place's static entry is, or less than nothing -/
def isAt (S : List (Pl × UInt8)) (k : Pl) (z : Int) : Prop := (shas S k = false ∧ z = -1) ∨ ∃ (i : Nat) (x : Pl × UInt8), z = (i : Int) ∧ S[i]? = some x ∧ x.1 = k ∧ shas (S.take i) k = false
theorem shas_take {S : List (Pl × UInt8)} {k : Pl} {i : Nat} {x : Pl × UInt8} (hx : S[i]? = some x) (h : shas (S.take i) k = false) (hn : x.1 ≠ k) : shas (S.take (i + 1)) k = false := by
  rw [List.take_add_one, hx]
  unfold shas at h ⊢
  rw [List.any_append, h]
  simpa using hn
set_option maxHeartbeats 4000000 in
theorem static_any {w : World} {Y : Nat → Prop} {A B : Option Addr} {c d : Nat} {L : List En} {S : List (Pl × UInt8)} (h : RvE Y w A c L B d S) (v : UInt16) (m : Mc) :
    Calls Try.prog 31 #[.agg #[.slice A L.length c, .slice B S.length d], .int .u16 v.toNat, mV m] w fun e w' => ∃ z, e = .returned (.int .i64 z) ∧ isAt S ⟨v, m⟩ z ∧ Gro w w' := by
  obtain ⟨w1, hw1⟩ : ∃ w1, (w.alloc (.cells #[.slice A L.length c, .slice B S.length d] 32)).alloc (.cells #[.int .u8 m.a.toNat, .int .u8 m.b.toNat, .int .u8 m.c.toNat, .int .u8 m.d.toNat, .int .u8 m.e.toNat, .int .u8 m.f.toNat] 25) = w1 := ⟨_, rfl⟩
  obtain ⟨g, hg⟩ : ∃ g, w.heap.size = g := ⟨_, rfl⟩
  have HG := Lib.hid (show Gro w w1 by rw [← hw1]; exact ((Gro.refl w).alloc _).alloc _)
  have HB := Lib.hid (show Blk w1 g 32 #[.slice A L.length c, .slice B S.length d] by rw [← hw1, ← hg]; exact (Blk.new w _ _).alloc _)
  have HM := Lib.hid (show Blk w1 (g + 1) 25 #[.int .u8 m.a.toNat, .int .u8 m.b.toNat, .int .u8 m.c.toNat, .int .u8 m.d.toNat, .int .u8 m.e.toNat, .int .u8 m.f.toNat] by rw [← hw1, ← hg]; have := Blk.new (w.alloc (.cells #[.slice A L.length c, .slice B S.length d] 32)) 25 #[.int .u8 m.a.toNat, .int .u8 m.b.toNat, .int .u8 m.c.toNat, .int .u8 m.d.toNat, .int .u8 m.e.toNat, .int .u8 m.f.toNat]; simpa using this)
  have HE := Lib.hid (h.elS.next HG.out.below)
  obtain ⟨n, hn⟩ : ∃ n, S.length = n := ⟨_, rfl⟩
  have HN := Lib.hid hn
  have hn16 := h.s16
  rw [hn] at HB hn16
  clear h hn
  go_enter Try.func31, Try.ntmps31
  go_upto_region 1 with fail
  clear hw1 hg
  go_wp2_with fail
  go_loopw [7] (fun i wr => ∃ k : Nat, k ≤ n ∧ i = .int .i64 k ∧ Hid (shas (S.take k) ⟨v, m⟩ = false) ∧ Hid (Gro w1 wr)) (fun i _ => n - (intOf i).toNat)
  case atStart => exact ⟨0, Nat.zero_le _, rfl, Lib.hid rfl, Lib.hid (Gro.refl _)⟩
  case round =>
    obtain ⟨k, hk, rfl, HK, HR⟩ := hrel
    have c1 := (HR.out.blk HB.out).cell 1
    simp only [List.getElem?_toArray, List.getElem?_cons_succ, List.getElem?_cons_zero] at c1
    by_cases hlt : k < n
    · obtain ⟨x, hx⟩ : ∃ x, S[k]? = some x := ⟨_, List.getElem?_eq_getElem (by rw [HN.out]; exact hlt)⟩
      obtain ⟨b, off, rfl, hb, e0, e1, e2, e3, e4, e5, e6, _⟩ := es_at (HE.out.next HR.out.below) hx
      have HX := Lib.hid hx
      have hkn : (k : Int) < n := by omega
      obtain ⟨m0, m1, m2, m3, m4, m5⟩ := mcells (HR.out.blk HM.out)
      clear hx
      by_cases he : x.1.v = v
      · by_cases hm : x.1.m = m
        · subst he hm
          have q := fun w => run_eqM x.1.m x.1.m w
          go_wp2_with fail
          go_quiet (fail)
          go_wp2
          go_ret
          exact ⟨_, rfl, .inr ⟨k, x, rfl, HX.out, rfl, HK.out⟩, (HG.out.trans HR.out).drewN _⟩
        · have HF := Lib.hid (shas_take HX.out HK.out (fun e => hm (by rw [e])))
          subst he
          have q := fun w => run_eqM x.1.m m w
          have hd : decide (x.1.m = m) = false := by simpa using hm
          simp only [hd] at q
          go_wp2_with fail
          go_quiet (fail)
          go_wp2
          go_roundw
          case rel => exact ⟨k + 1, by omega, by go_num, HF, Lib.hid (HR.out.drewN _)⟩
          case measure => simp [intOf]; omega
      · have HF := Lib.hid (shas_take HX.out HK.out (fun e => he (by rw [e])))
        have he2 : ((x.1.v.toNat : Int) == (v.toNat : Int)) = false := by rw [u16_eqI]; simpa using he
        have he3 : ¬ ((x.1.v.toNat : Int) = (v.toNat : Int)) := by simpa using he2
        go_wp2_with fail
        go_quiet (fail)
        go_wp2
        go_roundw
        case rel => exact ⟨k + 1, by omega, by go_num, HF, Lib.hid (HR.out.drewN _)⟩
        case measure => simp [intOf]; omega
    · obtain rfl : k = n := by omega
      have HF : Hid (shas S ⟨v, m⟩ = false) := Lib.hid (by have := HK.out; rw [List.take_of_length_le (by rw [HN.out]; exact Nat.le_refl _)] at this; exact this)
      go_wp2
      go_ret
      exact ⟨_, rfl, .inl ⟨HF.out, rfl⟩, HG.out.trans HR.out⟩
end Go.Proofs.Ytlofaahckdfeiaa
