/- QueuePlays: a queue of any room, behind any acts, answers, and has, what the document says. -/
import Derived.Test.YtofgdemkddbjeaaSame
import Derived.Test.YtofgdemkddbjeaaQueImpl
import Derived.Deep.DeepCutAuto
import Derived.Deep.CutBlock
import Derived.Deep.RegionHeld3
import Derived.BigQuiet
import Derived.OpenShut
import Derived.ShutString
import Derived.ChangeOld
namespace Go.Proofs.Ytofgdemkddbjeaa.queuePlays
open Go.ChangeShapes Go.WideShapes Go.ChangeAt Go.RowKit
open Go.ChangeMaps (open_string shut_string)
set_option linter.unusedVariables false
set_option linter.unusedSimpArgs false
set_option maxRecDepth 100000


/-- while the loop runs: the queue at p holds L, and the document's one at b zs -/
structure Two6 (W w : World) (p c b m : Nat) (A : Option Addr) (cc : Nat) (zs L : List Int) : Prop where
  q : Que w p c 57 m (vi L)
  v : Blk w b 31 #[.int .i64 m, .slice A zs.length cc]
  r : RL w A cc zs
  h : Below W.heap.size W w
  pb : W.heap.size ≤ p
  cb : W.heap.size ≤ c
  bb : W.heap.size ≤ b
  cne : b ≠ c
  pne : b ≠ p
  ne : ∀ b' o', A = some ⟨b', o', none⟩ → b' ≠ b
  le : zs.length ≤ m
  alt : ∀ b' o', A = some ⟨b', o', none⟩ → b' < w.heap.size
theorem que_below {w w' : World} {p c cap : Nat} {t : TypeId} {L : List Value} (h : Que w p c t cap L) (hb : Below w.heap.size w w') : Que w' p c t cap L := h.chg (S := fun _ => False) (Chg.of_below hb) (by simp) (by simp)
/-- a call on the queue -/
theorem Two6.chan {W w w' : World} {p c b m : Nat} {A : Option Addr} {cc : Nat} {zs L L' : List Int} (h : Two6 W w p c b m A cc zs L) (hq : Que w' p c 57 m (vi L')) (hg : Chg (sole c) w w') : Two6 W w' p c b m A cc zs L' :=
  ⟨hq, h.v.chg hg (by have := h.cne; unfold sole; omega), ⟨h.r.le, h.r.nil, h.r.els.chan one_pos h.q.ch hg⟩, h.h.trans (hg.below h.h.size (fun k hk e => by have := h.cb; unfold sole at e; omega)), h.pb, h.cb, h.bb, h.cne, h.pne, h.ne, h.le, fun b' o' e => Nat.lt_of_lt_of_le (h.alt b' o' e) hg.size⟩
/-- a call that changes nothing old -/
theorem Two6.below {W w w' : World} {p c b m : Nat} {A : Option Addr} {cc : Nat} {zs L : List Int} (h : Two6 W w p c b m A cc zs L) (hb : Below w.heap.size w w') : Two6 W w' p c b m A cc zs L :=
  ⟨que_below h.q hb, h.v.below hb h.v.lt, h.r.next hb, h.h.trans (hb.mono h.h.size), h.pb, h.cb, h.bb, h.cne, h.pne, h.ne, h.le, fun b' o' e => Nat.lt_of_lt_of_le (h.alt b' o' e) hb.size⟩
theorem Two6.drew {W w : World} {p c b m : Nat} {A : Option Addr} {cc : Nat} {zs L : List Int} (h : Two6 W w p c b m A cc zs L) : Two6 W w.drew p c b m A cc zs L := h.below (Below.refl _ w).drew
theorem Two6.alloc {W w : World} {p c b m : Nat} {A : Option Addr} {cc : Nat} {zs L : List Int} (h : Two6 W w p c b m A cc zs L) (o : Obj) : Two6 W (w.alloc o) p c b m A cc zs L := h.below ((Below.refl _ w).alloc (Nat.le_refl _) o)
/-- the document's queue, changed -/
theorem Two6.put {W w w6 : World} {p c b m : Nat} {A A' : Option Addr} {cc cc' : Nat} {zs zs' L : List Int} (h : Two6 W w p c b m A cc zs L) (hr : RL w A' cc' zs') (hne : ∀ b' o', A' = some ⟨b', o', none⟩ → b' ≠ b ∧ b' < w.heap.size) (hl : zs'.length ≤ m)
    (ho : ∀ k, k ≠ b → w6.heap[k]? = w.heap[k]?) (hs : w.heap.size ≤ w6.heap.size) (hh : Below W.heap.size W w6) (hv : Blk w6 b 31 #[.int .i64 m, .slice A' zs'.length cc']) : Two6 W w6 p c b m A' cc' zs' L where
  q := ⟨(ho p h.pne.symm).trans h.q.blk, by
    obtain ⟨s, r, hc⟩ := h.q.ch
    exact ⟨s, r, (ho c h.cne.symm).trans hc⟩⟩
  v := hv
  r := ⟨hr.le, hr.nil, by
    intro h0
    obtain ⟨b', o', e, hlt, hc⟩ := hr.els h0
    refine ⟨b', o', e, Nat.lt_of_lt_of_le hlt hs, fun i hi j u hu => ?_⟩
    rw [World.cell?_of_block (w := w) (a := ⟨b', o' + i * 1 + j, none⟩) (ho b' (hne b' o' e).1)]
    exact hc i hi j u hu⟩
  h := hh
  pb := h.pb
  cb := h.cb
  bb := h.bb
  cne := h.cne
  pne := h.pne
  ne := fun b' o' e => (hne b' o' e).1
  le := hl
  alt := fun b' o' e => Nat.lt_of_lt_of_le (hne b' o' e).2 hs
theorem Two6.store {W w : World} {p c b m : Nat} {A A' : Option Addr} {cc cc' n : Nat} {zs zs' L : List Int} (h : Two6 W w p c b m A cc zs L) (hn : zs'.length = n) (hr : RL w A' cc' zs') (hne : ∀ b' o', A' = some ⟨b', o', none⟩ → b' ≠ b ∧ b' < w.heap.size) (hl : zs'.length ≤ m) :
    Two6 W ((w.setCell ⟨b, 0, none⟩ (.int .i64 m)).setCell ⟨b, 1, none⟩ (.slice A' n cc')) p c b m A' cc' zs' L := by
  subst hn
  exact h.put hr hne hl (fun k hk => (Below.heap_setCell _ _ _ k (by simpa using hk)).trans (Below.heap_setCell _ _ _ k (by simpa using hk))) (by simp [World.setCell]) ((h.h.setCell (by simpa using h.bb) _).setCell (by simpa using h.bb) _)
    (by simpa using (h.v.put 0 (.int .i64 m)).put 1 (.slice A' zs'.length cc'))
theorem Two6.nel {W w : World} {p c b m : Nat} {A : Option Addr} {cc : Nat} {zs L : List Int} (h : Two6 W w p c b m A cc zs L) : ∀ b' o', A = some ⟨b', o', none⟩ → b' ≠ b ∧ b' < w.heap.size := fun b' o' e => ⟨h.ne b' o' e, h.alt b' o' e⟩
theorem rl_far {w : World} {A : Option Addr} {c : Nat} {zs : List Int} {g : Addr} (h : RL w A c zs) (hA : ∀ b' o', A = some ⟨b', o', none⟩ → b' ≠ g.block) (u : Value) : RL (w.setCell g u) A c zs :=
  ⟨h.le, h.nil, by
    intro h0
    obtain ⟨b', o', e, hlt, hc⟩ := h.els h0
    refine ⟨b', o', e, by simpa [World.setCell] using hlt, fun i hi j u' hu => ?_⟩
    rw [World.cell?_of_block (w := w) (a := ⟨b', o' + i * 1 + j, none⟩) (Below.heap_setCell w g u b' (hA b' o' e))]
    exact hc i hi j u' hu⟩
/-- a cell elsewhere, stored -/
theorem Two6.far {W w : World} {p c b m : Nat} {A : Option Addr} {cc : Nat} {zs L : List Int} {g : Addr} (h : Two6 W w p c b m A cc zs L) (hp : p ≠ g.block) (hc : c ≠ g.block) (hb : b ≠ g.block) (hW : W.heap.size ≤ g.block) (hA : ∀ b' o', A = some ⟨b', o', none⟩ → b' ≠ g.block) (u : Value) : Two6 W (w.setCell g u) p c b m A cc zs L where
  q := ⟨(Below.heap_setCell w g u p hp).trans h.q.blk, by
    obtain ⟨s, r, hh⟩ := h.q.ch
    exact ⟨s, r, (Below.heap_setCell w g u c hc).trans hh⟩⟩
  v := (Below.heap_setCell w g u b hb).trans h.v
  r := rl_far h.r hA u
  h := h.h.setCell hW u
  pb := h.pb
  cb := h.cb
  bb := h.bb
  cne := h.cne
  pne := h.pne
  ne := h.ne
  le := h.le
  alt := by simpa [World.setCell] using h.alt
theorem els_at {w : World} {ba off : Nat} {l : List Do} (h : Els 2 encD w (some ⟨ba, off, none⟩) l) {k : Nat} {x : Do} (hx : l[k]? = some x) : w.cell? ⟨ba, off + k * 2, none⟩ = some (.int .u8 x.d) ∧ w.cell? ⟨ba, off + k * 2 + 1, none⟩ = some (.int .i64 x.n) := by
  obtain ⟨b', o', e, _, h0, h1⟩ := els_do h hx
  simp only [Option.some.injEq, Addr.mk.injEq, and_true] at e
  obtain ⟨rfl, rfl⟩ := e
  exact ⟨h0, h1⟩
theorem Two6.reset {W w : World} {p c b m : Nat} {A : Option Addr} {cc : Nat} {zs L : List Int} (h : Two6 W w p c b m A cc zs L) :
    Two6 W (w.setCell ⟨b, 1, none⟩ (.slice none 0 0)) p c b m none 0 [] L :=
  h.put ⟨Nat.le_refl _, fun _ => rfl, fun h0 => absurd h0 (by simp [vi])⟩ (by simp) (Nat.zero_le _) (fun k hk => Below.heap_setCell _ _ _ k (by simpa using hk)) (by simp [World.setCell]) (h.h.setCell (by simpa using h.bb) _)
    (by simpa using h.v.put 1 (.slice none 0 0))
/-- what the walk reads of the document's queue -/
theorem Two6.cells {W w : World} {p c b m : Nat} {A : Option Addr} {cc : Nat} {zs L : List Int} (h : Two6 W w p c b m A cc zs L) :
    w.cell? ⟨b, 0, none⟩ = some (.int .i64 m) ∧ w.cell? ⟨b, 1, none⟩ = some (.slice A zs.length cc) ∧ w.frozen? ⟨b, 0, none⟩ = false ∧ w.frozen? ⟨b, 1, none⟩ = false ∧ b < w.heap.size :=
  ⟨h.v.cell 0, h.v.cell 1, h.v.frozen 0, h.v.frozen 1, h.v.lt⟩
set_option maxRecDepth 100000 in
set_option maxHeartbeats 8000000 in
theorem plays_law (K : QueI) (KC : ClearI) (KS : QueS) (W : World) (room : Int) (A : Option Addr) (ca : Nat) (l : List Do) (hl : l.length ≤ maxLen) (hE : Els 2 encD W A l) :
    Calls Try.prog 3 #[.int .i64 room, .slice A l.length ca] W fun e w' => e = .returned (.bool true) ∧ Below W.heap.size W w' := by
  have HKI := Lib.hid K
  have HK := Lib.hid K
  have HKC := Lib.hid KC
  have HKS := Lib.hid KS
  have HE := Lib.hid hE
  obtain ⟨n, hn⟩ : ∃ n, l.length = n := ⟨_, rfl⟩
  have HN := Lib.hid hn
  rw [hn] at hl ⊢
  unfold maxLen at hl
  clear K KC KS hE hn
  by_cases h200 : 200 < n
  · have d : decide ((200 : Int) < (n : Int)) = true := by simp; omega
    go_enter Try.func3, Try.ntmps3
    go_wp2_with fail
    refine (wakes_any HKS.out _).mono ?_
    rintro e w1 ⟨rfl, hb⟩
    go_wp2
    go_ret
    exact ⟨rfl, hb⟩
  have d : decide ((200 : Int) < (n : Int)) = false := by simp; omega
  have h200' : n ≤ 200 := by omega
  clear h200 hl
  by_cases hroom : room < 1 ∨ 1024 < room
  · have hm : (decide (0 < room) && decide (room < 1025)) = false := by
      rcases hroom with h | h
      · have : decide (0 < room) = false := by simp; omega
        rw [this]; rfl
      · have : decide (room < 1025) = false := by simp; omega
        rw [this]; simp
    have HR := Lib.hid hroom
    clear hroom
    go_enter Try.func3, Try.ntmps3
    go_wp2_with fail
    refine (HK.out.newNo _ _ HR.out).mono ?_
    rintro e w1 ⟨rfl, hb⟩
    have HB1 := Lib.hid hb
    clear hb
    go_wp2_with fail
    refine (may_any _ room).mono ?_
    rintro e w2 ⟨rfl, hb⟩
    rw [hm]
    have HB2 := Lib.hid (HB1.out.trans (hb.mono HB1.out.size))
    clear hb
    go_wp2_with fail
    refine (wakes_any HKS.out _).mono ?_
    rintro e w3 ⟨rfl, hb⟩
    go_wp2
    go_ret
    exact ⟨rfl, HB2.out.trans (hb.mono HB2.out.size)⟩
  obtain ⟨m, rfl⟩ : ∃ m : Nat, room = (m : Int) := ⟨room.toNat, by omega⟩
  have hm0 : 0 < m := by omega
  have hm1 : m ≤ 1024 := by omega
  have hmy : (decide ((0 : Int) < (m : Int)) && decide ((m : Int) < 1025)) = true := by simp; omega
  clear hroom
  go_enter Try.func3, Try.ntmps3
  go_wp2_with fail
  refine (HK.out.newOk _ m hm0 hm1).mono ?_
  rintro e w1 ⟨p, c, rfl, hq, hp, hc, hb⟩
  have HQ1 := Lib.hid hq
  have HB1 := Lib.hid hb
  have HPC : Hid (W.heap.size ≤ p ∧ W.heap.size ≤ c) := Lib.hid ⟨hp, hc⟩
  clear hq hp hc hb
  go_wp2_with fail
  refine (may_any _ _).mono ?_
  rintro e w2 ⟨rfl, hb⟩
  rw [hmy]
  have HM : Hid (Two6 W (w2.alloc (.cells #[.int .i64 m, .slice none 0 0] 31)) p c w2.heap.size m none 0 [] []) := Lib.hid (by
    have h2 := que_below HQ1.out hb
    have hB := HB1.out.trans (hb.mono HB1.out.size)
    exact ⟨que_alloc h2 _, Blk.new w2 _ _, ⟨Nat.le_refl _, fun _ => rfl, fun h0 => absurd h0 (by simp [vi])⟩, hB.alloc hB.size _, HPC.out.1, HPC.out.2, hB.size, fun e => by have := h2.ch.lt; omega, fun e => by have := h2.blk.lt; omega, by simp, Nat.zero_le _, by simp⟩)
  clear hb HB1 hmy HQ1
  go_wp2_with fail
  revert HM
  generalize (w2.alloc (.cells #[.int .i64 m, .slice none 0 0] 31)) = w3
  generalize w2.heap.size = b
  intro HM
  go_loopw [8] (fun i wr => ∃ (j : Nat) (A' : Option Addr) (cc : Nat) (zs : List Int), j ≤ n ∧ i = .int .i64 j ∧ zs.length ≤ j ∧ Hid (Two6 W wr p c b m A' cc zs zs)) (fun i _ => n - (intOf i).toNat)
  case atStart => exact ⟨0, none, 0, [], Nat.zero_le _, rfl, Nat.le_refl _, HM⟩
  case round =>
    obtain ⟨j, A', cc, zs, hj, rfl, hzj, HM⟩ := hrel
    by_cases hlt : j < n
    · obtain ⟨x, hx⟩ : ∃ x, l[j]? = some x := ⟨_, List.getElem?_eq_getElem (by rw [HN.out]; exact hlt)⟩
      obtain ⟨ba, off, rfl, hbl, c0, c1⟩ := els_do (HE.out.next HM.out.h) hx
      obtain ⟨d, y⟩ := x
      simp only at c0 c1
      have HX := Lib.hid hx
      have hbW : ba < W.heap.size := by
        obtain ⟨b9, o9, e9, h9, _⟩ := els_do HE.out hx
        simp only [Option.some.injEq, Addr.mk.injEq, and_true] at e9
        rw [e9.1]; exact h9
      clear hx
      go_upto_block 2 with fail
      go_cut [] (fun wx => ∃ (A2 : Option Addr) (cc2 : Nat) (zs2 : List Int), zs2.length ≤ j + 1 ∧ Two6 W wx p c b m A2 cc2 zs2 zs2)
      case first =>
        by_cases d0 : d = 0
        · subst d0
          clear c1
          match zs, hzj, HM with
          | [], hzj, HM =>
            go_wp2_with fail
            refine (HK.out.popNone _ p c m HM.out.q).mono ?_
            rintro e w4 ⟨rfl, hq, hg⟩
            have HM4 := Lib.hid (HM.out.chan (L' := []) hq hg)
            obtain ⟨y0, y1, _, _, _⟩ := HM4.out.cells
            simp only [List.length_nil] at y1
            clear hq hg HM c0
            go_wp2_with fail
            refine (refpop_none _ m A' cc).mono ?_
            rintro e w5 ⟨rfl, hb⟩
            have HM5 := Lib.hid (HM4.out.below hb)
            obtain ⟨z0, z1, f0, f1, zl⟩ := HM5.out.cells
            simp only [List.length_nil] at z1
            clear hb y0 y1 HM4
            go_wp2
            go_meet
            exact ⟨A', cc, [], Nat.zero_le _, (HM5.out.store rfl HM5.out.r HM5.out.nel (Nat.zero_le _)).alloc _⟩
          | s :: zs, hzj, HM =>
            go_wp2_with fail
            refine (HK.out.popSome _ p c m (vi zs) (.int .i64 s) HM.out.q).mono ?_
            rintro e w4 ⟨rfl, hq, hg⟩
            have HM4 := Lib.hid (HM.out.chan (L' := zs) hq hg)
            obtain ⟨y0, y1, _, _, _⟩ := HM4.out.cells
            clear hq hg HM c0
            go_wp2_with fail
            refine (refpop_some _ m A' cc s zs HM4.out.r).mono ?_
            rintro e w5 ⟨⟨A3, c3, rfl, hr, hsame⟩, hb⟩
            have HM5 := Lib.hid (HM4.out.below hb)
            obtain ⟨z0, z1, f0, f1, zl⟩ := HM5.out.cells
            have HR := Lib.hid hr
            have HNE : Hid (∀ b' o', A3 = some ⟨b', o', none⟩ → b' ≠ b ∧ b' < w5.heap.size) := Lib.hid (fun b' o' e => by obtain ⟨o, ho⟩ := hsame b' o' e; exact HM5.out.nel b' o ho)
            clear hb y0 y1 HM4 hr hsame
            go_wp2
            go_meet
            exact ⟨A3, c3, zs, by simp only [List.length_cons] at hzj; omega, (HM5.out.store rfl HR.out HNE.out (by have := HM5.out.le; simp only [List.length_cons] at this; omega)).alloc _⟩
        have e0 : (d == 0) = false := by simpa using d0
        by_cases d1 : d = 1
        · subst d1
          clear c1
          obtain ⟨y0, y1, f0, f1, yl⟩ := HM.out.cells
          go_wp2_with fail
          go_region_with (go_at_call 12; refine (HKC.out.clearAny _ p c m (vi zs) HM.out.drew.q (by rw [vi_len]; exact HM.out.le) hm1).mono ?_; rintro e w5 ⟨rfl, hq, hg⟩; rw [vi_len]; have HM5 := Lib.hid (HM.out.drew.chan (L' := []) hq hg); obtain ⟨z0, z1, g0, g1, zl⟩ := HM5.out.cells; clear hq hg)
          all_goals (
            go_wp2
            go_meet
            exact ⟨none, 0, [], Nat.zero_le _, HM5.out.reset⟩)
        have e1 : (d == 1) = false := by simpa using d1
        obtain ⟨y0, y1, _, _, yl⟩ := HM.out.cells
        have hnb : ba ≠ b := by have := HM.out.bb; omega
        have hnb' : b ≠ ba := Ne.symm hnb
        by_cases hr : zs.length < m
        · go_upto_region 14 with fail
          go_cut [14, 15] (fun u v wx => ∃ (g : Nat) (A2 : Option Addr) (c2 : Nat) (zs2 : List Int), u = .pointer (some ⟨g, 0, none⟩) ∧ v = .int .i64 0 ∧ zs2 = zs ++ [y] ∧ Blk wx g 31 #[.int .i64 m, .slice A2 zs2.length c2] ∧ RL wx A2 c2 zs2 ∧ (∀ b' o', A2 = some ⟨b', o', none⟩ → b' ≠ b ∧ b' < wx.heap.size) ∧ Two6 W wx p c b m A' cc zs zs)
          case first =>
            go_wp2_with fail
            go_region_with (first
              | (go_at_call 13; refine (refpush_room _ m A' cc zs y (HM.out.drew).r (by omega) (by omega)).mono ?_; rintro e w5 ⟨⟨A3, c3, rfl, hr3, hfar, hlt3⟩, hb⟩; have HM5 := Lib.hid ((HM.out.drew).below hb); have HR := Lib.hid hr3; have HF : Hid (∀ b' o', A3 = some ⟨b', o', none⟩ → wr.heap.size ≤ b' ∧ b' < w5.heap.size) := Lib.hid (fun b' o' e => ⟨by have := hfar b' o' e; simpa using this, hlt3 b' o' e⟩); clear hr3 hfar hlt3; clear hb)
              | (go_at_call 13; refine (refpush_room _ m A' cc zs y ((HM.out.alloc (.cells #[.int .i64 0, .slice none 0 0] 31)).drew).r (by omega) (by omega)).mono ?_; rintro e w5 ⟨⟨A3, c3, rfl, hr3, hfar, hlt3⟩, hb⟩; have HM5 := Lib.hid (((HM.out.alloc (.cells #[.int .i64 0, .slice none 0 0] 31)).drew).below hb); have HR := Lib.hid hr3; have HF : Hid (∀ b' o', A3 = some ⟨b', o', none⟩ → wr.heap.size + 1 ≤ b' ∧ b' < w5.heap.size) := Lib.hid (fun b' o' e => ⟨by have := hfar b' o' e; simpa using this, hlt3 b' o' e⟩); clear hr3 hfar hlt3; have hT : Blk w5 wr.heap.size 31 #[.int .i64 0, .slice none 0 0] := Blk.below (Blk.drew (Blk.new wr 31 #[.int .i64 0, .slice none 0 0])) hb (by simp); have t0 := hT.cell 0; have t1 := hT.cell 1; have g0 := hT.frozen 0; have g1 := hT.frozen 1; have HT := Lib.hid hT; clear hT; clear hb))
            all_goals (
              go_wp2_with fail
              go_meet
              first
                | exact ⟨w5.heap.size, A3, c3, zs ++ [y], rfl, rfl, rfl, by have := Blk.new w5 31 #[.int .i64 m, .slice A3 (zs.length + 1) c3]; simpa using this, HR.out.next ((Below.refl _ w5).alloc (Nat.le_refl _) _), fun b' o' e => by have h1 := HF.out b' o' e; have h2 := HM.out.v.lt; exact ⟨by omega, by simp; omega⟩, HM5.out.alloc _⟩
                | exact ⟨wr.heap.size, A3, c3, zs ++ [y], rfl, rfl, rfl, by have := (HT.out.put 0 (.int .i64 m)).put 1 (.slice A3 (zs.length + 1) c3); simpa using this, rl_far (rl_far HR.out (fun b' o' e => by have := HF.out b' o' e; simp; omega) _) (fun b' o' e => by have := HF.out b' o' e; simp; omega) _, fun b' o' e => by have h1 := HF.out b' o' e; have h2 := HM.out.v.lt; exact ⟨by omega, by simpa [World.setCell] using h1.2⟩, (HM5.out.far (by have := HM.out.q.blk.lt; simp; omega) (by have := HM.out.q.ch.lt; simp; omega) (by have := HM.out.v.lt; simp; omega) (by have := HM.out.h.size; simpa using this) (fun b' o' e => by have := HM.out.alt b' o' e; simp; omega) (.int .i64 m)).far (by have := HM.out.q.blk.lt; simp; omega) (by have := HM.out.q.ch.lt; simp; omega) (by have := HM.out.v.lt; simp; omega) (by have := HM.out.h.size; simpa using this) (fun b' o' e => by have := HM.out.alt b' o' e; simp; omega) (.slice A3 (zs.length + 1) c3)⟩)
          case rest =>
            obtain ⟨g, A2, c2, zs2, rfl, rfl, hz2, hg2, hr2, hn2, hm2⟩ := hcut
            have HZ2 := Lib.hid hz2
            have HM5 := Lib.hid hm2
            have HR := Lib.hid hr2
            have HNE := Lib.hid hn2
            have hL : zs2.length ≤ m := by rw [hz2]; simp; omega
            have g0 := hg2.cell 0
            have g1 := hg2.cell 1
            obtain ⟨z0, z1, f0, f1, zl⟩ := hm2.cells
            obtain ⟨_, x1⟩ := els_at (HE.out.next hm2.h) HX.out
            simp only at x1
            clear hm2 hr2 hn2 hg2 hz2 c0 c1 y0 y1
            go_wp2_with fail
            have HM6 := Lib.hid (HM5.out.store rfl HR.out HNE.out hL)
            refine (HK.out.pushRoom _ p c m (vi zs) (.int .i64 y) ⟨_, rfl⟩ HM6.out.q (by rw [vi_len]; exact hr)).mono ?_
            rintro e w7 ⟨rfl, hq, hg⟩
            rw [← vi_put] at hq
            have HM7 := Lib.hid (HM6.out.chan hq hg)
            clear hq hg
            go_wp2
            go_meet
            have hz2 := HZ2.out
            subst hz2
            exact ⟨A2, c2, _, by simp; omega, HM7.out⟩
        · go_upto_region 14 with fail
          go_cut [14, 15] (fun u v wx => ∃ (g : Nat) (A2 : Option Addr) (c2 : Nat) (zs2 : List Int), u = .pointer (some ⟨g, 0, none⟩) ∧ v = .int .i64 6 ∧ zs2 = zs ∧ Blk wx g 31 #[.int .i64 m, .slice A2 zs2.length c2] ∧ RL wx A2 c2 zs2 ∧ (∀ b' o', A2 = some ⟨b', o', none⟩ → b' ≠ b ∧ b' < wx.heap.size) ∧ Two6 W wx p c b m A' cc zs zs)
          case first =>
            go_wp2_with fail
            go_region_with (first
              | (go_at_call 13; refine (refpush_full _ m A' zs.length cc y (by omega)).mono ?_; rintro e w5 ⟨rfl, hb⟩; have HM5 := Lib.hid ((HM.out.drew).below hb); clear hb)
              | (go_at_call 13; refine (refpush_full _ m A' zs.length cc y (by omega)).mono ?_; rintro e w5 ⟨rfl, hb⟩; have HM5 := Lib.hid (((HM.out.alloc (.cells #[.int .i64 0, .slice none 0 0] 31)).drew).below hb); have hT : Blk w5 wr.heap.size 31 #[.int .i64 0, .slice none 0 0] := Blk.below (Blk.drew (Blk.new wr 31 #[.int .i64 0, .slice none 0 0])) hb (by simp); have t0 := hT.cell 0; have t1 := hT.cell 1; have g0 := hT.frozen 0; have g1 := hT.frozen 1; have HT := Lib.hid hT; clear hT; clear hb))
            all_goals (
              go_wp2_with fail
              go_meet
              first
                | exact ⟨w5.heap.size, A', cc, zs, rfl, rfl, rfl, by have := Blk.new w5 31 #[.int .i64 m, .slice A' zs.length cc]; simpa using this, (HM5.out.alloc _).r, (HM5.out.alloc _).nel, HM5.out.alloc _⟩
                | exact ⟨wr.heap.size, A', cc, zs, rfl, rfl, rfl, by have := (HT.out.put 0 (.int .i64 m)).put 1 (.slice A' zs.length cc); simpa using this, ((HM5.out.far (by have := HM.out.q.blk.lt; simp; omega) (by have := HM.out.q.ch.lt; simp; omega) (by have := HM.out.v.lt; simp; omega) (by have := HM.out.h.size; simpa using this) (fun b' o' e => by have := HM.out.alt b' o' e; simp; omega) (.int .i64 m)).far (by have := HM.out.q.blk.lt; simp; omega) (by have := HM.out.q.ch.lt; simp; omega) (by have := HM.out.v.lt; simp; omega) (by have := HM.out.h.size; simpa using this) (fun b' o' e => by have := HM.out.alt b' o' e; simp; omega) (.slice A' zs.length cc)).r, ((HM5.out.far (by have := HM.out.q.blk.lt; simp; omega) (by have := HM.out.q.ch.lt; simp; omega) (by have := HM.out.v.lt; simp; omega) (by have := HM.out.h.size; simpa using this) (fun b' o' e => by have := HM.out.alt b' o' e; simp; omega) (.int .i64 m)).far (by have := HM.out.q.blk.lt; simp; omega) (by have := HM.out.q.ch.lt; simp; omega) (by have := HM.out.v.lt; simp; omega) (by have := HM.out.h.size; simpa using this) (fun b' o' e => by have := HM.out.alt b' o' e; simp; omega) (.slice A' zs.length cc)).nel, (HM5.out.far (by have := HM.out.q.blk.lt; simp; omega) (by have := HM.out.q.ch.lt; simp; omega) (by have := HM.out.v.lt; simp; omega) (by have := HM.out.h.size; simpa using this) (fun b' o' e => by have := HM.out.alt b' o' e; simp; omega) (.int .i64 m)).far (by have := HM.out.q.blk.lt; simp; omega) (by have := HM.out.q.ch.lt; simp; omega) (by have := HM.out.v.lt; simp; omega) (by have := HM.out.h.size; simpa using this) (fun b' o' e => by have := HM.out.alt b' o' e; simp; omega) (.slice A' zs.length cc)⟩)
          case rest =>
            obtain ⟨g, A2, c2, zs2, rfl, rfl, hz2, hg2, hr2, hn2, hm2⟩ := hcut
            have HZ2 := Lib.hid hz2
            have HM5 := Lib.hid hm2
            have HR := Lib.hid hr2
            have HNE := Lib.hid hn2
            have hL : zs2.length ≤ m := by rw [hz2]; exact HM.out.le
            have g0 := hg2.cell 0
            have g1 := hg2.cell 1
            obtain ⟨z0, z1, f0, f1, zl⟩ := hm2.cells
            obtain ⟨_, x1⟩ := els_at (HE.out.next hm2.h) HX.out
            simp only at x1
            clear hm2 hr2 hn2 hg2 hz2 c0 c1 y0 y1
            go_wp2_with fail
            have HM6 := Lib.hid (HM5.out.store rfl HR.out HNE.out hL)
            refine (HK.out.pushFull _ p c m (vi zs) (.int .i64 y) ⟨_, rfl⟩ HM6.out.q (by rw [vi_len]; omega)).mono ?_
            rintro e w7 ⟨rfl, hq, hg⟩
            skip
            have HM7 := Lib.hid (HM6.out.chan hq hg)
            clear hq hg
            go_wp2
            go_meet
            have hz2 := HZ2.out
            subst hz2
            exact ⟨A2, c2, _, by omega, HM7.out⟩
      case rest =>
        obtain ⟨A2, cc2, zs2, hz2, hm2⟩ := hcut
        have HM2 := Lib.hid hm2
        obtain ⟨y0, y1, _, _, _⟩ := hm2.cells
        clear hm2 c0 c1 HM
        go_wp2_with fail
        refine (same_any HKI.out _ p c m A2 cc2 zs2 HM2.out.q HM2.out.r HM2.out.le hm1).mono ?_
        rintro e w5 ⟨rfl, hq, hg⟩
        have HM5 := Lib.hid (HM2.out.chan hq hg)
        clear hq hg y0 y1
        go_wp2
        go_roundw
        case rel => exact ⟨j + 1, A2, cc2, zs2, by omega, by go_num, by omega, HM5⟩
        case measure => simp [intOf]; omega
    · obtain rfl : j = n := by omega
      go_wp2_with fail
      refine (wakes_any HKS.out _).mono ?_
      rintro e w7 ⟨rfl, hb⟩
      go_wp2
      go_ret
      exact ⟨rfl, HM.out.h.trans (hb.mono HM.out.h.size)⟩

set_option maxRecDepth 100000 in
set_option maxHeartbeats 4000000 in
theorem walk {H : Type} {enc : TypeId × Value → H} (W : World) (base : Nat) {v0 v1 : Value} {d0 d1 : DataW H} {p0 p1 : List MemPlace}
    (o0 : Value.okWide Try.prog W .any base 3 v0) (h0 : DataW.Trod enc Try.prog W 0 (fun _ => true) true 3 v0 d0 p0) (o1 : Value.okWide Try.prog W .any base 22 v1) (h1 : DataW.Trod enc Try.prog W 0 (fun _ => true) true 22 v1 d1 p1) :
    Calls Try.prog 3 #[v0, v1] W fun e w' => e = .returned (.bool true) ∧ Below W.heap.size W w' := by
  obtain ⟨r, rfl, hr⟩ := open_num Try.underlying3 o0 h0
  obtain ⟨A, c, l, rfl, hl, _, _, hE⟩ := open_els 2 encD Do.ok Try.underlying22 (e := 33) (by kernel_rfl) (by omega)
    (fun cs fuel x hl h => do_trod Try.underlying33 ⟨rfl, rfl⟩ ⟨rfl, rfl⟩ (hl.trans (by kernel_rfl)) h) o1 h1
  exact plays_law queI clearI queS W r A c l hl hE

theorem own : ownKnob Try.prog.godebug = none := by kernel_rfl
theorem laidOut : laidOutB Try.prog = true := by kernel_rfl
set_option maxRecDepth 100000 in
theorem lifted (os : Os) (started : os.Started) (H : Type) (enc : TypeId × Value → H) :
    ReturnsInHanded {} Try.checked os 3 .any (Rows.queuePlaysSpec.pre6 enc Try.prog Try.f3 Rows.queuePlaysRow.domain false) (Rows.queuePlaysSpec.post enc Try.prog Try.f3 false true false false) := by
  refine returnsInHanded_of_change (C := Try.checked) own started (by kernel_rfl) Try.func3
    (ChangeSpec.witness6 (enc := enc) (C := Try.checked) false ⟨#[], #[.int .i64 0, .slice none 0 0], []⟩ 8 (by kernel_rfl) (by kernel_rfl) (by kernel_rfl) (by kernel_rfl)) ?_
  intro W base args ds gs before hval0 hW hcnd _
  have hval : ∀ (j : Nat) t v, Try.f3.params[j]? = some t → args[j]? = some v → Value.okWide Try.prog W .any base t v := hval0
  have hW' := hW
  obtain ⟨p, q, hA0, hV, rfl, hfz, hnd⟩ := hW
  have hA : DataW.TrodAll enc Try.prog W 0 (fun _ => true) true Try.f3.params.toList args.toList ds p := hA0
  rw [Try.params3] at hA hval
  obtain ⟨v0, vs0, d0, ds0, p0, q0, hargs, rfl, rfl, h0, r0⟩ := trodAll_cons hA
  obtain ⟨v1, vs1, d1, ds1, p1, q1, rfl, rfl, rfl, h1, r1⟩ := trodAll_cons r0
  obtain ⟨rfl, rfl, rfl⟩ := trodAll_nil r1
  obtain rfl : args = #[v0, v1] := by cases args; simp_all
  obtain ⟨rfl, rfl⟩ := trodVars_none hV
  have o0 := hval 0 3 v0 rfl rfl
  have lt0 : ∀ x ∈ p0, x.block < W.heap.size := by obtain ⟨m, hm⟩ := h0; exact DataW.trod_lt m _ _ _ hm
  have o1 := hval 1 22 v1 rfl rfl
  have lt1 : ∀ x ∈ p1, x.block < W.heap.size := by obtain ⟨m, hm⟩ := h1; exact DataW.trod_lt m _ _ _ hm
  clear hA0 hval0
  refine (walk W base o0 h0 o1 h1).mono fun e W' ⟨he, bel⟩ => ?_
  subst he
  exact ⟨_, rfl, _, _, _, [], _, [], hW', trodAll_mk1 (shut_bool Try.underlying4 _), (trodAll_cons_mk (Below.trod laidOut (by kernel_rfl) (of_decide_eq_true (by kernel_rfl)) h0 bel lt0) (trodAll_cons_mk (Below.trod laidOut (by kernel_rfl) (of_decide_eq_true (by kernel_rfl)) h1 bel lt1) trodAll_mk0)), rfl, bel.frame _, fun h => by cases h⟩

theorem over : Rows.queuePlaysRow.holds Try.pinned (OpenSpec.ofChange Rows.queuePlaysSpec) :=
  OpenClaim.holds_of_wide 3 Try.f3 rfl rfl rfl rfl rfl rfl rfl ⟨rfl, rfl, rfl, rfl, rfl⟩ rfl rfl rfl rfl rfl (by kernel_rfl) Try.func3 (by kernel_rfl)
    (of_decide_eq_true (by kernel_rfl)) (by unfold Func.isWrapper; first | (rw [if_pos (by decide +kernel)]; kernel_rfl) | (rw [if_neg (by decide +kernel)]; exact ⟨rfl, rfl⟩))
    (fun os started H enc _ => lifted os started H enc)

/-- THE STATEMENT -/
theorem proved : Rows.QueuePlaysSaid := over
end Go.Proofs.Ytofgdemkddbjeaa.queuePlays
