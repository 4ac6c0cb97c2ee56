/- Layer 18, the program: Tick. -/
import Derived.Test.YtkmdgpfaaniibaaZzPn18
import Derived.StillTailTactics
import Derived.BigRegion
namespace Go.Proofs.Ytkmdgpfaaniibaa
open Go.RowKit
set_option linter.unusedVariables false
set_option linter.unusedSimpArgs false
set_option maxRecDepth 100000

set_option maxHeartbeats 2000000 in
theorem age18_two (o : On) (mb b g er cr : Nat) (tg : TypeId) (w : World) (he : er ≤ 35) (hc : cr ≤ 35) (hb : Blk w b 60 #[.int .u8 o.lv.toNat, .int .u16 o.me.toNat, .int .u8 o.iv.toNat, .string ⟨o.ma.toArray⟩, .map (some mb), .int .i64 (er : Nat), .int .i64 (cr : Nat)]) (hg : Blk w g tg #[.pointer (some ⟨b, 5, none⟩), .pointer (some ⟨b, 6, none⟩)]) :
    Calls Try.prog 28 #[.slice (some ⟨g, 0, none⟩) 2 2] w fun e w' => e = .returned (.tuple #[]) ∧ Blk w' b 60 #[.int .u8 o.lv.toNat, .int .u16 o.me.toNat, .int .u8 o.iv.toNat, .string ⟨o.ma.toArray⟩, .map (some mb), .int .i64 (er - 1 : Nat), .int .i64 (cr - 1 : Nat)] ∧ Chg (fun k => k = b) w w' := by
  have hne : g ≠ b := by
    rintro rfl
    have := hb.symm.trans hg
    simp at this
  have e0 : max ((er : Int) - 1) 0 = ((er - 1 : Nat) : Int) := by omega
  have e1 : max ((cr : Int) - 1) 0 = ((cr - 1 : Nat) : Int) := by omega
  obtain ⟨W1, hW1⟩ : ∃ W1, w.setCell ⟨b, 5, none⟩ (.int .i64 (er - 1 : Nat)) = W1 := ⟨_, rfl⟩
  have hb1 : Blk W1 b 60 #[.int .u8 o.lv.toNat, .int .u16 o.me.toNat, .int .u8 o.iv.toNat, .string ⟨o.ma.toArray⟩, .map (some mb), .int .i64 (er - 1 : Nat), .int .i64 (cr : Nat)] := by rw [← hW1]; exact hb.put 5 _
  have hg1 : Blk W1 g tg #[.pointer (some ⟨b, 5, none⟩), .pointer (some ⟨b, 6, none⟩)] := by rw [← hW1]; exact hg.far (p := ⟨b, 5, none⟩) hne _
  have hc1 : Chg (fun k => k = b) w W1 := by rw [← hW1]; exact (Chg.refl (fun k => k = b) w).setCell (p := ⟨b, 5, none⟩) (.inr rfl) _
  obtain ⟨W2, hW2⟩ : ∃ W2, W1.setCell ⟨b, 6, none⟩ (.int .i64 (cr - 1 : Nat)) = W2 := ⟨_, rfl⟩
  have hb2 : Blk W2 b 60 #[.int .u8 o.lv.toNat, .int .u16 o.me.toNat, .int .u8 o.iv.toNat, .string ⟨o.ma.toArray⟩, .map (some mb), .int .i64 (er - 1 : Nat), .int .i64 (cr - 1 : Nat)] := by rw [← hW2]; exact hb1.put 6 _
  have hc2 : Chg (fun k => k = b) w W2 := by rw [← hW2]; exact hc1.setCell (p := ⟨b, 6, none⟩) (.inr rfl) _
  have H0 := Lib.hid (And.intro hb hg)
  have H1 := Lib.hid (And.intro hb1 hg1)
  have H2 := Lib.hid (And.intro hb2 hc2)
  have HW := Lib.hid (And.intro hW1 hW2)
  clear hb hg hb1 hg1 hc1 hb2 hc2 hW1 hW2
  go_enter Try.func28, Try.ntmps28
  go_wp2
  go_loopw [6] (fun i wr => (i = .int .i64 0 ∧ wr = w) ∨ (i = .int .i64 1 ∧ wr = W1) ∨ (i = .int .i64 2 ∧ wr = W2)) (fun i _ => 2 - (intOf i).toNat)
  case atStart => exact .inl ⟨rfl, rfl⟩
  case round =>
    rcases hrel with ⟨rfl, rfl⟩ | ⟨rfl, rfl⟩ | ⟨rfl, rfl⟩
    · have s0 := H0.out.2.cell 0
      have c5 := H0.out.1.cell 5
      have f5 := H0.out.1.frozen 5
      simp only [List.getElem?_toArray, List.getElem?_cons_succ, List.getElem?_cons_zero] at s0 c5
      have hst := HW.out.1
      go_wp2
      go_roundw
      case rel => exact .inr (.inl ⟨by go_num, trivial⟩)
      case measure => simp [intOf]
    · have s1 := H1.out.2.cell 1
      have c6 := H1.out.1.cell 6
      have f6 := H1.out.1.frozen 6
      simp only [List.getElem?_toArray, List.getElem?_cons_succ, List.getElem?_cons_zero] at s1 c6
      have hst := HW.out.2
      go_wp2
      go_roundw
      case rel => exact .inr (.inr ⟨by go_num, trivial⟩)
      case measure => simp [intOf]
    · go_wp2
      go_end0
      exact ⟨rfl, H2.out.1, H2.out.2⟩
set_option maxHeartbeats 2000000 in
theorem age18_one (b g l : Nat) (r : Bool) (tg : TypeId) (w : World) (he : l ≤ 35) (hb : Blk w b 63 #[.int .i64 l, .bool r]) (hg : Blk w g tg #[.pointer (some ⟨b, 0, none⟩)]) :
    Calls Try.prog 28 #[.slice (some ⟨g, 0, none⟩) 1 1] w fun e w' => e = .returned (.tuple #[]) ∧ Blk w' b 63 #[.int .i64 (l - 1 : Nat), .bool r] ∧ Chg (fun k => k = b) w w' := by
  have e0 : max ((l : Int) - 1) 0 = ((l - 1 : Nat) : Int) := by omega
  obtain ⟨W1, hW1⟩ : ∃ W1, w.setCell ⟨b, 0, none⟩ (.int .i64 (l - 1 : Nat)) = W1 := ⟨_, rfl⟩
  have hb1 : Blk W1 b 63 #[.int .i64 (l - 1 : Nat), .bool r] := by rw [← hW1]; exact hb.put 0 _
  have hc1 : Chg (fun k => k = b) w W1 := by rw [← hW1]; exact (Chg.refl (fun k => k = b) w).setCell (p := ⟨b, 0, none⟩) (.inr rfl) _
  have H0 := Lib.hid (And.intro hb hg)
  have H2 := Lib.hid (And.intro hb1 hc1)
  have HW := Lib.hid hW1
  clear hb hg hb1 hc1 hW1
  go_enter Try.func28, Try.ntmps28
  go_wp2
  go_loopw [6] (fun i wr => (i = .int .i64 0 ∧ wr = w) ∨ (i = .int .i64 1 ∧ wr = W1)) (fun i _ => 1 - (intOf i).toNat)
  case atStart => exact .inl ⟨rfl, rfl⟩
  case round =>
    rcases hrel with ⟨rfl, rfl⟩ | ⟨rfl, rfl⟩
    · have s0 := H0.out.2.cell 0
      have c5 := H0.out.1.cell 0
      have f5 := H0.out.1.frozen 0
      simp only [List.getElem?_toArray, List.getElem?_cons_succ, List.getElem?_cons_zero] at s0 c5
      have hst := HW.out
      go_wp2
      go_roundw
      case rel => exact .inr ⟨by go_num, trivial⟩
      case measure => simp [intOf]
    · go_wp2
      go_end0
      exact ⟨rfl, H2.out.1, H2.out.2⟩

/-- one, a tick later; those that are no longer to come, a tick later -/
def age18 (x : Vn) : Vn := ⟨x.v, x.m - 1, x.u⟩
def agL (left : Lit → Bool) (x : Vn) : Vn := if left (kL x.v) then x else age18 x
theorem agL_v (left : Lit → Bool) (x : Vn) : (agL left x).v = x.v := by unfold agL; split <;> rfl
theorem agL_ris {L : List Vn} (h : Ris L) (left : Lit → Bool) : Ris (L.map (agL left)) := by
  unfold Ris at *
  rw [List.pairwise_map]
  refine h.imp fun h => ?_
  rw [agL_v, agL_v]; exact h
theorem ris_one {L : List Vn} (h : Ris L) {x y : Vn} (hx : x ∈ L) (hy : y ∈ L) (e : x.v = y.v) : x = y := by
  have h1 := vfind_mem h hx
  rw [e, vfind_mem h hy] at h1
  exact (Option.some.inj h1).symm
theorem agL_step {L : List Vn} (h : Ris L) {left : Lit → Bool} {x : Vn} (hx : x ∈ L) (hl : left (kL x.v) = true) : vput (L.map (agL left)) (age18 x) = L.map (agL (fun z => left z && !z.sameKey (kL x.v))) := by
  have hth : vhas (L.map (agL left)) (age18 x).v = true := by
    rw [vhas_iff, List.map_map]
    exact List.mem_map.2 ⟨x, hx, agL_v left x⟩
  rw [vput_there (agL_ris h left) hth, List.map_map]
  refine List.map_congr_left fun y hy => ?_
  show (if (agL left y).v = x.v then age18 x else agL left y) = _
  rw [agL_v]
  by_cases e : y.v = x.v
  · rw [if_pos e]
    obtain rfl := ris_one h hy hx e
    unfold agL
    simp only [kL_same]
    simp
  · rw [if_neg e]
    unfold agL
    simp only [kL_same]
    simp [e]
theorem agL_start (L : List Vn) : L.map (agL (Maps.has (encL L))) = L := by
  refine (List.map_congr_left fun x hx => ?_).trans (List.map_id L)
  unfold agL
  rw [has_enc, show vhas L x.v = true from vhas_iff.2 (List.mem_map_of_mem hx)]
  rfl
theorem agL_end (L : List Vn) {left : Lit → Bool} (h : ∀ k, left k = false) : L.map (agL left) = L.map age18 := by
  refine List.map_congr_left fun x hx => ?_
  unfold agL
  rw [h]
  rfl
/-- the step of the map's way, in letters -/
theorem next18 {L : List Vn} {left : Lit → Bool} {kl : Lit} {key v : Value} {y : D0 × List MemPlace} (hr : Ris L)
    (hkey : keyOf Try.prog 22 key = some kl) (hl : left kl = true) (hv : setsR v = some y) (hat : ∀ zd, (encL (L.map (agL left))).atKey kl zd = y.1) :
    ∃ x ∈ L, kl = kL x.v ∧ key = .int .u16 x.v.toNat ∧ v = .agg #[.int .i64 x.m, .bool x.u] := by
  obtain ⟨x', rfl, rfl, _⟩ := Maps.keyOf_int_inv Try.underlying22 hkey
  have hhas := (has_u _ x').1 (Maps.has_true_of_atKey hat)
  unfold vks at hhas
  rw [List.map_map] at hhas
  obtain ⟨x, hx, e⟩ := List.mem_map.1 hhas
  have e : (x.v.toNat : Int) = x' := by
    have : ((agL left x).v.toNat : Int) = x' := e
    rwa [agL_v] at this
  subst e
  refine ⟨x, hx, rfl, rfl, ?_⟩
  have h1 := hat (encS 0 false)
  have hmem : agL left x ∈ L.map (agL left) := List.mem_map_of_mem hx
  have hag : agL left x = x := by unfold agL; rw [show left (kL x.v) = true from hl]; rfl
  have h2 := at_enc (L.map (agL left)) x.v
  rw [hag] at hmem
  rw [vm_mem (agL_ris hr left) hmem, vu_mem (agL_ris hr left) hmem] at h2
  rw [show Lit.int .u16 (x.v.toNat : Int) = kL x.v from rfl, h2] at h1
  obtain ⟨a, c, rfl, rfl⟩ := setsR_inv hv
  obtain ⟨rfl, rfl⟩ := encS_inj h1
  rfl
theorem chg_also18 {S S' : Nat → Prop} {w w' w'' : World} (h : Chg S w w') (h' : Chg S' w' w'') (hs : ∀ k, k < w.heap.size → S' k → S k) : Chg S w w'' :=
  ⟨h'.os.trans h.os, h'.tape.trans h.tape, h'.output.trans h.output, Nat.le_trans h.size h'.size, fun k hk hn => (h'.block k (Nat.lt_of_lt_of_le hk h.size) (fun e => hn (hs k hk e))).trans (h.block k hk hn)⟩
theorem chg_grown18 {S : Nat → Prop} {w w' : World} {r : Nat} (h : Chg (fun k => k = r) w w') : w.grownBy w' (some r) :=
  ⟨h.os, h.tape, h.output, h.size, fun i hi hne => h.block i hi (fun e => hne (by rw [e]))⟩
theorem grown_chg18 {w w' : World} {S : Nat → Prop} {r : Nat} (h : w.grownBy w' (some r)) (hr : S r) : Chg S w w' := Chg.of_grown h (fun k e => .inr (by cases e; exact hr))
theorem Rmo.tick {w w' : World} {b mb : Nat} {L : List Vn} {m : Rm} (h : Rmo w b mb L m) (hb : Blk w' b 60 #[.int .u8 m.o.lv.toNat, .int .u16 m.o.me.toNat, .int .u8 m.o.iv.toNat, .string ⟨m.o.ma.toArray⟩, .map (some mb), .int .i64 (m.er - 1 : Nat), .int .i64 (m.cr - 1 : Nat)]) (hm : Vmap w' mb (L.map age18)) (hr : Ris (L.map age18)) : Rmo w' b mb (L.map age18) (rmTick m) := by
  refine ⟨hb, hm, hr, by rw [List.length_map]; exact h.l8, ?_, ?_, ?_, ?_, Nat.le_trans (Nat.sub_le _ _) h.er, Nat.le_trans (Nat.sub_le _ _) h.cr⟩
  · rw [List.map_map]; exact h.keys
  · intro x hx
    obtain ⟨y, hy, rfl⟩ := List.mem_map.1 hx
    show m.la y.v - 1 = y.m - 1
    rw [h.la y hy]
  · intro x hx
    obtain ⟨y, hy, rfl⟩ := List.mem_map.1 hx
    exact h.rd y hy
  · intro x hx
    obtain ⟨y, hy, rfl⟩ := List.mem_map.1 hx
    exact Nat.le_trans (Nat.sub_le _ _) (h.top y hy)
set_option maxHeartbeats 4000000 in
theorem tick18_any {w : World} {b mb : Nat} {L : List Vn} {m : Rm} (h : Rmo w b mb L m) :
    Calls Try.prog 12 #[.pointer (some ⟨b, 0, none⟩)] w fun e w' => e = .returned (.tuple #[]) ∧ Rmo w' b mb (L.map age18) (rmTick m) ∧ Chg (rmS b mb) w w' := by
  have HM := Lib.hid h
  obtain ⟨er, her⟩ : ∃ n, m.er = n := ⟨_, rfl⟩
  obtain ⟨cr, hcr⟩ : ∃ n, m.cr = n := ⟨_, rfl⟩
  obtain ⟨o, ho⟩ : ∃ o, m.o = o := ⟨_, rfl⟩
  have hb := h.blk
  rw [her, hcr, ho] at hb
  have HBk := Lib.hid hb
  have HE := Lib.hid (And.intro her (And.intro hcr ho))
  have he35 : er ≤ 35 := her ▸ h.er
  have hc35 : cr ≤ 35 := hcr ▸ h.cr
  obtain ⟨g, hg⟩ : ∃ g, w.heap.size = g := ⟨_, rfl⟩
  have K2 : Hid (∀ tg, Calls Try.prog 28 #[.slice (some ⟨g, 0, none⟩) 2 2] (w.drew.alloc (.cells #[.pointer (some ⟨b, 5, none⟩), .pointer (some ⟨b, 6, none⟩)] tg)) fun e w' => e = .returned (.tuple #[]) ∧ Blk w' b 60 #[.int .u8 o.lv.toNat, .int .u16 o.me.toNat, .int .u8 o.iv.toNat, .string ⟨o.ma.toArray⟩, .map (some mb), .int .i64 (er - 1 : Nat), .int .i64 (cr - 1 : Nat)] ∧ Chg (fun k => k = b) w w') := Lib.hid (fun tg => by
    have hG := Blk.new w.drew tg #[.pointer (some ⟨b, 5, none⟩), .pointer (some ⟨b, 6, none⟩)]
    rw [show w.drew.heap.size = g from hg] at hG
    refine (age18_two o mb b g er cr tg _ he35 hc35 (hb.drew.alloc _) hG).mono ?_
    rintro e w' ⟨he, hB, hC⟩
    exact ⟨he, hB, (((Chg.refl _ w).drew).alloc _).trans hC⟩)
  clear h hb her hcr ho he35 hc35
  go_enter Try.func12, Try.ntmps12
  go_wp2_with fail
  have hgd : w.drew.heap.size = g := hg
  go_region_with (go_at_call 28; refine (K2.out _).mono ?_; rintro e w1 ⟨rfl, hB1, hC1⟩)
  have HB1 := Lib.hid hB1
  have HC1 := Lib.hid hC1
  have hvm : Vmap w1 mb L := HM.out.map.chg hC1 HM.out.ne
  have c4 : w1.cell? ⟨b, 4, none⟩ = some (.map (some mb)) := by
    have := HB1.out.cell 4
    simpa using this
  have hown : w1.ownsMap Try.prog 22 setsR mb L.length (encL L) := hvm
  clear hB1 hC1 K2 hgd hvm
  obtain ⟨r, hr⟩ : ∃ r, w1.heap.size = r := ⟨_, rfl⟩
  go_wp2_with (at_range; refine wpList_range_own _ rfl _ 58 rfl 22 63 key_law map_und _ mb L.length _ rfl hown ?_; intro w2 hrg hg2 hs2)
  rw [hr] at hrg ⊢
  have HS2 : Hid (Blk w2 b 60 #[.int .u8 o.lv.toNat, .int .u16 o.me.toNat, .int .u8 o.iv.toNat, .string ⟨o.ma.toArray⟩, .map (some mb), .int .i64 (er - 1 : Nat), .int .i64 (cr - 1 : Nat)] ∧ Chg (rmS b mb) w w2) := Lib.hid ⟨(hg2.block b HB1.out.lt (by simp)).trans HB1.out, (HC1.out.mono (fun k _ hk => .inl hk)).trans (Chg.of_grown hg2 (fun k e => by cases e))⟩
  have HRG := Lib.hid hrg
  have HBR : Hid (b < r ∧ w.heap.size ≤ r) := Lib.hid ⟨by rw [← hr]; exact HB1.out.lt, by rw [← hr]; exact HC1.out.size⟩
  clear hrg hg2 hs2 hown c4 hr HB1 HC1 HBk
  go_frame
  go_loopw [3] (fun _ wr => ∃ (left : Lit → Bool) (cnt : Nat), wr.ranges Try.prog 22 setsR mb r L.length (encL (L.map (agL left))) left cnt ∧ Hid (Blk wr b 60 #[.int .u8 o.lv.toNat, .int .u16 o.me.toNat, .int .u8 o.iv.toNat, .string ⟨o.ma.toArray⟩, .map (some mb), .int .i64 (er - 1 : Nat), .int .i64 (cr - 1 : Nat)] ∧ Chg (rmS b mb) w wr)) (fun _ wr => wr.rangeLeft mb r)
  case atStart => exact ⟨_, _, by rw [agL_start]; exact HRG.out, HS2⟩
  case round =>
    obtain ⟨left, cnt, hrgs, HB⟩ := hrel
    have hris := HM.out.ris
    go_wp2_with (at_next; refine wpList_next_ranges _ rfl _ rfl 22 key_law setsR (Value.int .u16) id (fun key kl hk => by obtain ⟨x, hx, _⟩ := Maps.keyOf_int_inv Try.underlying22 hk; exact ⟨x, hx⟩) (fun v _ _ => ⟨v, rfl⟩) mb r L.length _ _ _ rfl hrgs ?_ ?_)
    · intro hc0 hl0
      have HV : Hid (Vmap wr mb (L.map age18)) := Lib.hid (Vmap.of (by have := hrgs.owns; rwa [agL_end L hl0] at this))
      have HR : Hid (Ris (L.map age18)) := Lib.hid (by rw [← agL_end L hl0]; exact agL_ris hris left)
      clear hrgs hl0 hc0 hris
      go_wp2
      go_end0
      exact ⟨rfl, HM.out.tick (by rw [HE.out.1, HE.out.2.1, HE.out.2.2]; exact HB.out.1) HV.out HR.out, HB.out.2⟩
    · intro x' c kl yd yp w3 cnt2 hkey hlk hv hat hrg3 hlt3 hg3 hs3 hen
      obtain ⟨x, hx, rfl, ek, ev⟩ := next18 hris hkey hlk hv hat
      simp only [Value.int.injEq, true_and] at ek
      subst ek
      obtain rfl : c = _ := ev
      have HX := Lib.hid (And.intro hx hlk)
      have htop := HM.out.top x hx
      have HLT := Lib.hid hlt3
      have HRS := Lib.hid hrgs.left_eq
      have HBc : Hid (Blk w3 b 60 #[.int .u8 o.lv.toNat, .int .u16 o.me.toNat, .int .u8 o.iv.toNat, .string ⟨o.ma.toArray⟩, .map (some mb), .int .i64 (er - 1 : Nat), .int .i64 (cr - 1 : Nat)] ∧ Chg (rmS b mb) w w3) := Lib.hid ⟨(hg3.block b HB.out.1.lt (by intro e; cases e; have := HBR.out.1; omega)).trans HB.out.1, chg_also18 HB.out.2 (grown_chg18 (S := fun k => k = r) hg3 rfl) (fun k hk e => by have := HBR.out.2; omega)⟩
      have HR3 := Lib.hid hrg3
      obtain ⟨g3, hg3e⟩ : ∃ g3, w3.heap.size = g3 := ⟨_, rfl⟩
      have K1 : Hid (∀ tg, Calls Try.prog 28 #[.slice (some ⟨g3 + 1, 0, none⟩) 1 1] ((w3.alloc (.cells #[.int .i64 x.m, .bool x.u] 63)).alloc (.cells #[.pointer (some ⟨g3, 0, none⟩)] tg)) fun e w' => e = .returned (.tuple #[]) ∧ Blk w' g3 63 #[.int .i64 (x.m - 1 : Nat), .bool x.u] ∧ Chg (fun k => k = g3) w3 w') := Lib.hid (fun tg => by
        have h1 := (Blk.new w3 63 #[.int .i64 x.m, .bool x.u]).alloc (.cells #[.pointer (some ⟨g3, 0, none⟩)] tg)
        have h2 := Blk.new (w3.alloc (.cells #[.int .i64 x.m, .bool x.u] 63)) tg #[.pointer (some ⟨g3, 0, none⟩)]
        rw [hg3e] at h1
        rw [show (w3.alloc (.cells #[.int .i64 x.m, .bool x.u] 63)).heap.size = g3 + 1 by simp [hg3e]] at h2
        refine (age18_one g3 (g3 + 1) x.m x.u tg _ htop h1 h2).mono ?_
        rintro e w' ⟨he, hB, hC⟩
        exact ⟨he, hB, (((Chg.refl _ w3).alloc _).alloc _).trans hC⟩)
      clear hrgs hkey hv hat hrg3 hlt3 hg3 hs3 htop hx hlk hris HB
      go_wp2_with fail
      refine (K1.out _).mono ?_
      rintro e w5 ⟨rfl, hB5, hC5⟩
      have hlts := hg3e
      have hmb : mb < w3.heap.size := HR3.out.owns.lt
      have hrl : r < w3.heap.size := HR3.out.lt
      have hR5 := HR3.out.kept (chg_grown18 (S := fun k => k = g3) hC5) (by intro e; cases e; omega) (by intro e; cases e; omega)
      have hthere : Maps.has (encL (L.map (agL left))) (kL x.v) = true := by
        rw [has_enc, vhas_iff, List.map_map]
        exact List.mem_map.2 ⟨x, HX.out.1, agL_v left x⟩
      have hR5d := hR5.kept (w' := w5.drew) (row := none) ⟨rfl, rfl, rfl, Nat.le_refl _, fun _ _ _ => rfl⟩ (by simp) (by simp)
      obtain ⟨w6, hput, hR6, ht6⟩ := ranges_store hR5d (by have := HM.out.l8; unfold maxLen; omega) (key_at x.v) hthere (setsR_mk ((x.m - 1 : Nat) : Int) x.u)
      rw [show encS ((x.m - 1 : Nat) : Int) x.u = encS (age18 x).m (age18 x).u from rfl, show kL x.v = kL (age18 x).v from rfl, put_enc, agL_step HM.out.ris HX.out.1 HX.out.2] at hR6
      have hB5b : Blk w5 b 60 #[.int .u8 o.lv.toNat, .int .u16 o.me.toNat, .int .u8 o.iv.toNat, .string ⟨o.ma.toArray⟩, .map (some mb), .int .i64 (er - 1 : Nat), .int .i64 (cr - 1 : Nat)] := HBc.out.1.chg hC5 (by have := HBc.out.1.lt; omega)
      have hc5 : Chg (rmS b mb) w w5 := chg_also18 HBc.out.2 hC5 (fun k hk e => by have := HBc.out.2.size; omega)
      have hgm := ht6.grown
      have HB6 : Hid (Blk w6 b 60 #[.int .u8 o.lv.toNat, .int .u16 o.me.toNat, .int .u8 o.iv.toNat, .string ⟨o.ma.toArray⟩, .map (some mb), .int .i64 (er - 1 : Nat), .int .i64 (cr - 1 : Nat)] ∧ Chg (rmS b mb) w w6) := Lib.hid ⟨(hgm.block b (show b < w5.drew.heap.size from hB5b.lt) (fun e => HM.out.ne (by cases e; rfl))).trans hB5b, chg_also18 hc5.drew (grown_chg18 (S := rmS b mb) hgm (.inr rfl)) (fun k hk e => e)⟩
      have HR6 := Lib.hid hR6
      have c4 : w5.drew.cell? ⟨b, 4, none⟩ = some (.map (some mb)) := by
        have := hB5b.cell 4
        simpa using this
      have k0 : w5.drew.cell? ⟨g3, 0, none⟩ = some (.int .i64 (x.m - 1 : Nat)) := by
        have := hB5.cell 0
        simpa using this
      have k1 : w5.drew.cell? ⟨g3, 1, none⟩ = some (.bool x.u) := by
        have := hB5.cell 1
        simpa using this
      clear hB5 hC5 hlts hmb hrl hR5 hR5d hthere hR6 ht6 hB5b hc5 hgm K1 hen HBc HR3
      go_wp2_with fail
      go_still_tail 6, (by kernel_rfl)
      change wpList _ _ _ _ _ w5.drew
      go_wp2
      go_roundw
      case rel => exact ⟨_, cnt2, HR6.out, HB6⟩
      case measure => rw [HR6.out.left_eq, HRS.out]; exact HLT.out
end Go.Proofs.Ytkmdgpfaaniibaa
