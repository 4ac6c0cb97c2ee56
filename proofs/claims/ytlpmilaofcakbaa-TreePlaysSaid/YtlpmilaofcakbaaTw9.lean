/- Layer 9: its numbers fit, kept; reset, spreadBut. -/
import Derived.Test.YtlpmilaofcakbaaTw8
namespace Go.Proofs.Ytlpmilaofcakbaa
open Go.RowKit Go.Shelf
open Go.Sort (grow)
set_option linter.unusedVariables false
set_option linter.unusedSimpArgs false
set_option maxRecDepth 100000

/-- a word whose numbers fit -/
structure Bp.fit (b : Bp) : Prop where
  c : 0 ≤ b.v.c ∧ b.v.c ≤ 4294967295
  h : 0 ≤ b.h ∧ b.h ≤ 255
/-- a port whose numbers fit -/
structure Sd.fit (p : Sd) : Prop where
  b : p.b.fit
  cost : 0 ≤ p.cost ∧ p.cost ≤ 65535
  la : 0 ≤ p.la ∧ p.la ≤ 3
  sp : 0 ≤ p.sp ∧ p.sp ≤ 4
theorem Mch.fits_iff {M : Mch} : M.fits ↔ M.ps.length ≤ 8 ∧ (∀ p ∈ M.ps, p.fit) ∧ M.fl.length = M.ps.length :=
  ⟨fun h => ⟨h.n8, fun p hp => ⟨⟨h.vc p hp, h.hops p hp⟩, h.cost p hp, h.la p hp, h.sp p hp⟩, h.fl⟩,
   fun ⟨h1, h2, h3⟩ => ⟨h1, fun p hp => (h2 p hp).b.c, fun p hp => (h2 p hp).cost, fun p hp => (h2 p hp).b.h, fun p hp => (h2 p hp).la, fun p hp => (h2 p hp).sp, h3⟩⟩
theorem Mch.fits_of {M M' : Mch} (h : M.fits) (h8 : M'.ps.length = M.ps.length) (hp : ∀ p ∈ M'.ps, p.fit) (hf : M'.fl.length = M'.ps.length) : M'.fits := Mch.fits_iff.2 ⟨by rw [h8]; exact h.n8, hp, hf⟩
theorem Mch.fits.port {M : Mch} (h : M.fits) : ∀ p ∈ M.ps, p.fit := (Mch.fits_iff.1 h).2.1
theorem Bp.zero_fit : Bp.zero.fit := ⟨⟨by decide, by decide⟩, ⟨by decide, by decide⟩⟩
theorem Sd.reset_fit {p : Sd} (h : p.fit) (u : Bool) : (p.reset u).fit := ⟨Bp.zero_fit, h.cost, (show (0 : Int) ≤ 0 ∧ (0 : Int) ≤ 3 by decide), (show (0 : Int) ≤ 0 ∧ (0 : Int) ≤ 4 by decide)⟩
theorem Sd.chg_fit {p : Sd} (h : p.fit) : p.chg.fit := by
  refine ⟨h.b, h.cost, h.la, ?_⟩
  show 0 ≤ (if p.live then (4 : Int) else p.sp) ∧ (if p.live then (4 : Int) else p.sp) ≤ 4
  have := h.sp
  split <;> omega
theorem Sd.spr_fit {p : Sd} (h : p.fit) : p.spr.fit := by
  unfold Sd.spr
  split
  · exact ⟨h.b, h.cost, h.la, (show (0 : Int) ≤ 4 ∧ (4 : Int) ≤ 4 by decide)⟩
  · exact h
theorem Sd.less_fit {p : Sd} (h : p.fit) : p.less.fit := ⟨h.b, h.cost, (by have := h.la; show 0 ≤ max 0 (p.la - 1) ∧ max 0 (p.la - 1) ≤ 3; omega), h.sp⟩
theorem Sd.lessS_fit {p : Sd} (h : p.fit) : p.lessS.fit := ⟨h.b, h.cost, h.la, (by have := h.sp; show 0 ≤ max 0 (p.sp - 1) ∧ max 0 (p.sp - 1) ≤ 4; omega)⟩
theorem Mch.setP_fits {M : Mch} (h : M.fits) {i : Nat} {p : Sd} (hp : p.fit) : (M.setP i p).fits := by
  refine Mch.fits_of h (by simp [Mch.setP]) (fun q hq => ?_) (by simp [Mch.setP, h.fl])
  rcases List.mem_or_eq_of_mem_set hq with e | rfl
  · exact h.port q e
  · exact hp
theorem Mch.map_fits {M : Mch} (h : M.fits) {f : Sd → Sd} (hf : ∀ p, p.fit → (f p).fit) : ({ M with ps := M.ps.map f } : Mch).fits := by
  refine Mch.fits_of h (by simp) (fun q hq => ?_) (by simp [h.fl])
  obtain ⟨p, hp, rfl⟩ := List.mem_map.1 hq
  exact hf p (h.port p hp)
theorem Mch.mapIdx_fits {M : Mch} (h : M.fits) {f : Nat → Sd → Sd} (hf : ∀ i p, p.fit → (f i p).fit) : ({ M with ps := M.ps.mapIdx f } : Mch).fits := by
  refine Mch.fits_of h (by simp) (fun q hq => ?_) (by simp [h.fl])
  obtain ⟨i, hi, rfl⟩ := List.mem_mapIdx.1 hq
  exact hf i _ (h.port _ (List.getElem_mem hi))
theorem Mch.change_fits {M : Mch} (h : M.fits) : M.change.fits := by
  refine Mch.fits_of h (by simp [Mch.change]) (fun q hq => ?_) (by simp [Mch.change, h.fl])
  obtain ⟨p, hp, rfl⟩ := List.mem_map.1 hq
  exact Sd.chg_fit (h.port p hp)
theorem Mch.settle_fits {M : Mch} (h : M.fits) : M.settle.fits := Mch.mapIdx_fits h fun i p hp => ⟨hp.b, hp.cost, hp.la, hp.sp⟩
theorem Mch.choose_fits {M : Mch} (h : M.fits) : M.choose.fits := by
  unfold Mch.choose
  split
  · exact Mch.settle_fits (Mch.put_fits h)
  · exact Mch.settle_fits (Mch.change_fits (Mch.put_fits h))
theorem Mch.upP_fits {M : Mch} (h : M.fits) (i : Nat) : (M.upP i).fits := by
  unfold Mch.upP
  split
  · rename_i hc
    exact Mch.choose_fits (Mch.setP_fits h (Sd.reset_fit (h.port _ (Mch.port_mem hc.1)) _))
  · exact h
theorem Mch.downP_fits {M : Mch} (h : M.fits) (i : Nat) : (M.downP i).fits := by
  unfold Mch.downP
  split
  · rename_i hc
    have h1 := Mch.setP_fits h (i := i) (Sd.reset_fit (h.port _ (Mch.port_mem hc.1)) false)
    exact Mch.choose_fits (Mch.fits_of (M := M.setP i ((M.port i).reset false)) h1 rfl h1.port (by simp [Mch.setP, h.fl]))
  · exact h
theorem Mch.tick1_fits {M : Mch} (h : M.fits) : M.tick1.fits := Mch.choose_fits (Mch.map_fits h fun _ => Sd.less_fit)
theorem Mch.tick_fits {M : Mch} (h : M.fits) : M.tick.fits := Mch.map_fits (Mch.tick1_fits h) fun _ => Sd.lessS_fit
theorem Mch.spread_fits {M : Mch} (h : M.fits) (i : Nat) : (M.spread i).fits := by
  have h1 := Mch.mapIdx_fits h (f := fun k p => if k = i then p else p.spr) (fun k p hp => by
    show (if k = i then p else p.spr).fit
    split
    · exact hp
    · exact Sd.spr_fit hp)
  exact Mch.fits_of h1 rfl h1.port (by simp [Mch.spread, h.fl])
theorem Mch.hear1_fits {M : Mch} (h : M.fits) {i : Nat} {b : Bp} (hi : i < M.ps.length) (hb : b.fit) : (M.hear1 i b).fits :=
  Mch.choose_fits (Mch.setP_fits h ⟨hb, (h.port _ (Mch.port_mem hi)).cost, (show (0 : Int) ≤ 3 ∧ (3 : Int) ≤ 3 by decide), (h.port _ (Mch.port_mem hi)).sp⟩)
theorem Mch.choose_len (M : Mch) : M.choose.ps.length = M.ps.length := by
  unfold Mch.choose Mch.settle
  rw [List.length_mapIdx]
  split
  · rfl
  · simp [Mch.change, Mch.put]
theorem Mch.hear1_len (M : Mch) (i : Nat) (b : Bp) : (M.hear1 i b).ps.length = M.ps.length := by unfold Mch.hear1; rw [Mch.choose_len]; simp [Mch.setP]
theorem Mch.hear2_len (M : Mch) (i : Nat) (b : Bp) : (M.hear2 i b).ps.length = M.ps.length := by unfold Mch.hear2; split <;> simp [Mch.setP]
theorem Mch.hear2_fits {M : Mch} (h : M.fits) {i : Nat} (b : Bp) (hi : i < M.ps.length) : (M.hear2 i b).fits := by
  unfold Mch.hear2
  split
  · have hp := h.port _ (Mch.port_mem hi)
    exact Mch.setP_fits h ⟨hp.b, hp.cost, hp.la, hp.sp⟩
  · exact h
theorem Mch.hear_fits {M : Mch} (h : M.fits) (i : Nat) {b : Bp} (hb : b.fit) : (M.hear i b).fits := by
  unfold Mch.hear
  split
  · rename_i hc
    have h2 := Mch.hear2_fits (Mch.hear1_fits h hc.1 hb) b (i := i) (by rw [Mch.hear1_len]; exact hc.1)
    unfold Mch.hear3
    split
    · exact Mch.spread_fits h2 i
    · exact h2
  · exact h
set_option maxHeartbeats 2000000 in
theorem put16 {w : World} {g i : Nat} {M : Mch} {p : Sd} {u : Bool} (h : MaP w g M) (h8 : M.ps.length ≤ 8) (hi : i < M.ps.length) (hp : M.port i = p) : MaP ((((((((((((((((w.setCell ⟨g, 2 + i * 16, none⟩ (.int .u32 p.cost)).setCell ⟨g, 2 + i * 16 + 1, none⟩ (.bool u)).setCell ⟨g, 2 + i * 16 + 2, none⟩ (.int .u64 0)).setCell ⟨g, 2 + i * 16 + 3, none⟩ (.int .u32 0)).setCell ⟨g, 2 + i * 16 + 4, none⟩ (.int .u64 0)).setCell ⟨g, 2 + i * 16 + 5, none⟩ (.int .u8 0)).setCell ⟨g, 2 + i * 16 + 6, none⟩ (.int .u8 0)).setCell ⟨g, 2 + i * 16 + 7, none⟩ (.int .u64 0)).setCell ⟨g, 2 + i * 16 + 8, none⟩ (.int .u8 0)).setCell ⟨g, 2 + i * 16 + 9, none⟩ (.bool false)).setCell ⟨g, 2 + i * 16 + 10, none⟩ (.bool false)).setCell ⟨g, 2 + i * 16 + 11, none⟩ (.bool false)).setCell ⟨g, 2 + i * 16 + 12, none⟩ (.int .u64 0)).setCell ⟨g, 2 + i * 16 + 13, none⟩ (.int .i64 0)).setCell ⟨g, 2 + i * 16 + 14, none⟩ (.bool false)).setCell ⟨g, 2 + i * 16 + 15, none⟩ (.int .i64 0)) g (M.setP i (p.reset u)) := by
  obtain ⟨p0, hp0⟩ : ∃ x : Sd, x = { p with cost := p.cost } := ⟨_, rfl⟩
  have h0 := MaP.put (i := i) h (by simpa [Mch.setP] using h8) (by simpa [Mch.setP] using hi) 0 (by omega) (.int .u32 p.cost) p0 (by rw [hp, hp0]; rfl)
  obtain ⟨p1, hp1⟩ : ∃ x : Sd, x = { p0 with up := u } := ⟨_, rfl⟩
  have h0 := MaP.put (i := i) h0 (by simpa [Mch.setP] using h8) (by simpa [Mch.setP] using hi) 1 (by omega) (.bool u) p1 (by rw [Mch.setP_port _ hi, hp1]; rfl)
  rw [Mch.setP_setP] at h0
  obtain ⟨p2, hp2⟩ : ∃ x : Sd, x = { p1 with b := { p1.b with v := { p1.b.v with r := 0 } } } := ⟨_, rfl⟩
  have h0 := MaP.put (i := i) h0 (by simpa [Mch.setP] using h8) (by simpa [Mch.setP] using hi) 2 (by omega) (.int .u64 0) p2 (by rw [Mch.setP_port _ hi, hp2]; rfl)
  rw [Mch.setP_setP] at h0
  obtain ⟨p3, hp3⟩ : ∃ x : Sd, x = { p2 with b := { p2.b with v := { p2.b.v with c := 0 } } } := ⟨_, rfl⟩
  have h0 := MaP.put (i := i) h0 (by simpa [Mch.setP] using h8) (by simpa [Mch.setP] using hi) 3 (by omega) (.int .u32 0) p3 (by rw [Mch.setP_port _ hi, hp3]; rfl)
  rw [Mch.setP_setP] at h0
  obtain ⟨p4, hp4⟩ : ∃ x : Sd, x = { p3 with b := { p3.b with v := { p3.b.v with b := 0 } } } := ⟨_, rfl⟩
  have h0 := MaP.put (i := i) h0 (by simpa [Mch.setP] using h8) (by simpa [Mch.setP] using hi) 4 (by omega) (.int .u64 0) p4 (by rw [Mch.setP_port _ hi, hp4]; rfl)
  rw [Mch.setP_setP] at h0
  obtain ⟨p5, hp5⟩ : ∃ x : Sd, x = { p4 with b := { p4.b with v := { p4.b.v with p := 0 } } } := ⟨_, rfl⟩
  have h0 := MaP.put (i := i) h0 (by simpa [Mch.setP] using h8) (by simpa [Mch.setP] using hi) 5 (by omega) (.int .u8 0) p5 (by rw [Mch.setP_port _ hi, hp5]; rfl)
  rw [Mch.setP_setP] at h0
  obtain ⟨p6, hp6⟩ : ∃ x : Sd, x = { p5 with b := { p5.b with h := 0 } } := ⟨_, rfl⟩
  have h0 := MaP.put (i := i) h0 (by simpa [Mch.setP] using h8) (by simpa [Mch.setP] using hi) 6 (by omega) (.int .u8 0) p6 (by rw [Mch.setP_port _ hi, hp6]; rfl)
  rw [Mch.setP_setP] at h0
  obtain ⟨p7, hp7⟩ : ∃ x : Sd, x = { p6 with b := { p6.b with ver := 0 } } := ⟨_, rfl⟩
  have h0 := MaP.put (i := i) h0 (by simpa [Mch.setP] using h8) (by simpa [Mch.setP] using hi) 7 (by omega) (.int .u64 0) p7 (by rw [Mch.setP_port _ hi, hp7]; rfl)
  rw [Mch.setP_setP] at h0
  obtain ⟨p8, hp8⟩ : ∃ x : Sd, x = { p7 with b := { p7.b with role := 0 } } := ⟨_, rfl⟩
  have h0 := MaP.put (i := i) h0 (by simpa [Mch.setP] using h8) (by simpa [Mch.setP] using hi) 8 (by omega) (.int .u8 0) p8 (by rw [Mch.setP_port _ hi, hp8]; rfl)
  rw [Mch.setP_setP] at h0
  obtain ⟨p9, hp9⟩ : ∃ x : Sd, x = { p8 with b := { p8.b with pr := false } } := ⟨_, rfl⟩
  have h0 := MaP.put (i := i) h0 (by simpa [Mch.setP] using h8) (by simpa [Mch.setP] using hi) 9 (by omega) (.bool false) p9 (by rw [Mch.setP_port _ hi, hp9]; rfl)
  rw [Mch.setP_setP] at h0
  obtain ⟨p10, hp10⟩ : ∃ x : Sd, x = { p9 with b := { p9.b with ag := false } } := ⟨_, rfl⟩
  have h0 := MaP.put (i := i) h0 (by simpa [Mch.setP] using h8) (by simpa [Mch.setP] using hi) 10 (by omega) (.bool false) p10 (by rw [Mch.setP_port _ hi, hp10]; rfl)
  rw [Mch.setP_setP] at h0
  obtain ⟨p11, hp11⟩ : ∃ x : Sd, x = { p10 with b := { p10.b with tp := false } } := ⟨_, rfl⟩
  have h0 := MaP.put (i := i) h0 (by simpa [Mch.setP] using h8) (by simpa [Mch.setP] using hi) 11 (by omega) (.bool false) p11 (by rw [Mch.setP_port _ hi, hp11]; rfl)
  rw [Mch.setP_setP] at h0
  obtain ⟨p12, hp12⟩ : ∃ x : Sd, x = { p11 with b := { p11.b with ec := 0 } } := ⟨_, rfl⟩
  have h0 := MaP.put (i := i) h0 (by simpa [Mch.setP] using h8) (by simpa [Mch.setP] using hi) 12 (by omega) (.int .u64 0) p12 (by rw [Mch.setP_port _ hi, hp12]; rfl)
  rw [Mch.setP_setP] at h0
  obtain ⟨p13, hp13⟩ : ∃ x : Sd, x = { p12 with la := 0 } := ⟨_, rfl⟩
  have h0 := MaP.put (i := i) h0 (by simpa [Mch.setP] using h8) (by simpa [Mch.setP] using hi) 13 (by omega) (.int .i64 0) p13 (by rw [Mch.setP_port _ hi, hp13]; rfl)
  rw [Mch.setP_setP] at h0
  obtain ⟨p14, hp14⟩ : ∃ x : Sd, x = { p13 with ag := false } := ⟨_, rfl⟩
  have h0 := MaP.put (i := i) h0 (by simpa [Mch.setP] using h8) (by simpa [Mch.setP] using hi) 14 (by omega) (.bool false) p14 (by rw [Mch.setP_port _ hi, hp14]; rfl)
  rw [Mch.setP_setP] at h0
  obtain ⟨p15, hp15⟩ : ∃ x : Sd, x = { p14 with sp := 0 } := ⟨_, rfl⟩
  have h0 := MaP.put (i := i) h0 (by simpa [Mch.setP] using h8) (by simpa [Mch.setP] using hi) 15 (by omega) (.int .i64 0) p15 (by rw [Mch.setP_port _ hi, hp15]; rfl)
  rw [Mch.setP_setP] at h0
  have e : p15 = p.reset u := by subst hp15 hp14 hp13 hp12 hp11 hp10 hp9 hp8 hp7 hp6 hp5 hp4 hp3 hp2 hp1 hp0; rfl
  rw [e] at h0
  exact h0
set_option maxRecDepth 100000 in
set_option maxHeartbeats 4000000 in
theorem reset_any {w : World} {g i : Nat} {M : Mch} {p : Sd} {u : Bool} (hM : MaP w g M) (h8 : M.ps.length ≤ 8) (hi : i < M.ps.length) (hp : M.port i = p) :
    Calls Try.prog 35 #[.pointer (some ⟨g, 2 + i * 16, none⟩), .bool u] w fun e w' => e = .returned (.tuple #[]) ∧ MaP w' g (M.setP i (p.reset u)) ∧ Chg (· = g) w w' := by
  have S := hM.sd h8 hi
  rw [hp] at S
  have HP := Lib.hid (put16 (u := u) hM h8 hi hp)
  have hc0 : Chg (· = g) w w := Chg.refl _ w
  have HC : Hid (Chg (· = g) w ((((((((((((((((w.setCell ⟨g, 2 + i * 16, none⟩ (.int .u32 p.cost)).setCell ⟨g, 2 + i * 16 + 1, none⟩ (.bool u)).setCell ⟨g, 2 + i * 16 + 2, none⟩ (.int .u64 0)).setCell ⟨g, 2 + i * 16 + 3, none⟩ (.int .u32 0)).setCell ⟨g, 2 + i * 16 + 4, none⟩ (.int .u64 0)).setCell ⟨g, 2 + i * 16 + 5, none⟩ (.int .u8 0)).setCell ⟨g, 2 + i * 16 + 6, none⟩ (.int .u8 0)).setCell ⟨g, 2 + i * 16 + 7, none⟩ (.int .u64 0)).setCell ⟨g, 2 + i * 16 + 8, none⟩ (.int .u8 0)).setCell ⟨g, 2 + i * 16 + 9, none⟩ (.bool false)).setCell ⟨g, 2 + i * 16 + 10, none⟩ (.bool false)).setCell ⟨g, 2 + i * 16 + 11, none⟩ (.bool false)).setCell ⟨g, 2 + i * 16 + 12, none⟩ (.int .u64 0)).setCell ⟨g, 2 + i * 16 + 13, none⟩ (.int .i64 0)).setCell ⟨g, 2 + i * 16 + 14, none⟩ (.bool false)).setCell ⟨g, 2 + i * 16 + 15, none⟩ (.int .i64 0))) := Lib.hid (Chg.setCell (Chg.setCell (Chg.setCell (Chg.setCell (Chg.setCell (Chg.setCell (Chg.setCell (Chg.setCell (Chg.setCell (Chg.setCell (Chg.setCell (Chg.setCell (Chg.setCell (Chg.setCell (Chg.setCell (Chg.setCell hc0 (p := ⟨g, 2 + i * 16, none⟩) (.inr rfl) _) (p := ⟨g, 2 + i * 16 + 1, none⟩) (.inr rfl) _) (p := ⟨g, 2 + i * 16 + 2, none⟩) (.inr rfl) _) (p := ⟨g, 2 + i * 16 + 3, none⟩) (.inr rfl) _) (p := ⟨g, 2 + i * 16 + 4, none⟩) (.inr rfl) _) (p := ⟨g, 2 + i * 16 + 5, none⟩) (.inr rfl) _) (p := ⟨g, 2 + i * 16 + 6, none⟩) (.inr rfl) _) (p := ⟨g, 2 + i * 16 + 7, none⟩) (.inr rfl) _) (p := ⟨g, 2 + i * 16 + 8, none⟩) (.inr rfl) _) (p := ⟨g, 2 + i * 16 + 9, none⟩) (.inr rfl) _) (p := ⟨g, 2 + i * 16 + 10, none⟩) (.inr rfl) _) (p := ⟨g, 2 + i * 16 + 11, none⟩) (.inr rfl) _) (p := ⟨g, 2 + i * 16 + 12, none⟩) (.inr rfl) _) (p := ⟨g, 2 + i * 16 + 13, none⟩) (.inr rfl) _) (p := ⟨g, 2 + i * 16 + 14, none⟩) (.inr rfl) _) (p := ⟨g, 2 + i * 16 + 15, none⟩) (.inr rfl) _)
  have f := fun k => hM.fz (2 + i * 16 + k)
  have f0 := hM.fz (2 + i * 16)
  obtain ⟨o, ho⟩ : ∃ o, 2 + i * 16 = o := ⟨_, rfl⟩
  rw [ho] at S f f0 HP HC
  rw [ho]
  obtain ⟨c0, c1, c2, c3, c4, c5, c6, c7, c8, c9, c10, c11, c12, c13, c14, c15⟩ := S
  clear hM h8 hi hp ho hc0
  go_enter Try.func35, Try.ntmps35
  go_wp2
  go_end0
  exact ⟨rfl, HP.out, HC.out⟩
/-- spread, of the first k ports -/
def Mch.spreadTo (M : Mch) (i k : Nat) : Mch := { M with ps := M.ps.mapIdx (fun j p => if j < k then (if j = i then p else p.spr) else p), fl := M.fl.mapIdx (fun j x => if j < k then (if j = i then x else true) else x) }
theorem Mch.spreadTo_zero (M : Mch) (i : Nat) : M.spreadTo i 0 = M := by
  unfold Mch.spreadTo
  rw [mapIdxi_zero M.ps (fun j p => if j = i then p else p.spr), mapIdxi_zero M.fl (fun j x => if j = i then x else true)]
theorem Mch.spreadTo_all (M : Mch) (i : Nat) (hf : M.fl.length = M.ps.length) : M.spreadTo i M.ps.length = M.spread i := by
  unfold Mch.spreadTo Mch.spread
  rw [mapIdxi_all M.ps (fun j p => if j = i then p else p.spr) _ (Nat.le_refl _), mapIdxi_all M.fl (fun j x => if j = i then x else true) _ (by omega)]
theorem Mch.spreadTo_len (M : Mch) (i k : Nat) : (M.spreadTo i k).ps.length = M.ps.length := by simp [Mch.spreadTo]
theorem Mch.spreadTo_port (M : Mch) (i k : Nat) (hk : k < M.ps.length) : (M.spreadTo i k).port k = M.port k := by
  simp [Mch.spreadTo, Mch.port, List.getD_eq_getElem?_getD, List.getElem?_mapIdx, hk]
theorem Mch.spreadTo_self (M : Mch) (i : Nat) (hk : i < M.ps.length) (hf : M.fl.length = M.ps.length) : M.spreadTo i (i + 1) = M.spreadTo i i := by
  have h1 := mapIdxi_succ M.ps (fun j p => if j = i then p else p.spr) i hk
  have h2 := mapIdxi_succ M.fl (fun j x => if j = i then x else true) i (by omega)
  unfold Mch.spreadTo
  rw [h1, h2]
  simp only [if_true]
  congr 1
  · apply List.ext_getElem?
    intro j
    rw [List.getElem?_set, List.getElem?_mapIdx]
    by_cases e : i = j
    · subst e; simp [hk]
    · rw [if_neg e]
  · apply List.ext_getElem?
    intro j
    rw [List.getElem?_set, List.getElem?_mapIdx]
    by_cases e : i = j
    · subst e; simp [hf, hk]
    · rw [if_neg e]
theorem Mch.spreadTo_succ (M : Mch) (i k : Nat) (hk : k < M.ps.length) (hf : M.fl.length = M.ps.length) (hne : k ≠ i) : M.spreadTo i (k + 1) = ({ M.spreadTo i k with fl := (M.spreadTo i k).fl.set k true } : Mch).setP k (M.port k).spr := by
  have h1 := mapIdxi_succ M.ps (fun j p => if j = i then p else p.spr) k hk
  have h2 := mapIdxi_succ M.fl (fun j x => if j = i then x else true) k (by omega)
  rw [Mch.port_at hk] at h1
  simp only [if_neg hne] at h1 h2
  unfold Mch.spreadTo Mch.setP
  simp only [h1, h2]
set_option maxRecDepth 100000 in
set_option maxHeartbeats 4000000 in
theorem spread_any {w : World} {g i : Nat} {M : Mch} (hM : MaP w g M) (h8 : M.ps.length ≤ 8) (hf : M.fl.length = M.ps.length) :
    Calls Try.prog 45 #[.pointer (some ⟨g, 0, none⟩), .int .u8 (i : Nat)] w fun e w' => e = .returned (.tuple #[]) ∧ MaP w' g (M.spread i) ∧ Chg (· = g) w w' := by
  obtain ⟨n, hn⟩ : ∃ n, M.ps.length = n := ⟨_, rfl⟩
  have c1 := (hM.hd h8).c1
  rw [hn] at c1 h8
  have HM := Lib.hid hM
  have HN := Lib.hid (And.intro hn hf)
  clear hM hn hf
  go_enter Try.func45, Try.ntmps45
  go_wp2_with fail
  clear c1
  go_loopw [10] (fun i_ wr => ∃ k : Nat, k ≤ n ∧ i_ = .int .u8 k ∧ Hid (MaP wr g (M.spreadTo i k)) ∧ Hid (Chg (· = g) w wr)) (fun i_ _ => n - (intOf i_).toNat)
  case atStart => exact ⟨0, Nat.zero_le _, rfl, Lib.hid (by rw [Mch.spreadTo_zero]; exact HM.out), Lib.hid (Chg.refl _ _)⟩
  case round =>
    obtain ⟨k, hk, rfl, hS, hC⟩ := hrel
    by_cases hlt : k < n
    · have hlt' : k < M.ps.length := by rw [HN.out.1]; exact hlt
      have hk8 : k < 8 := by omega
      have hk8' : (k : Int) < 8 := by omega
      by_cases hki : k = i
      · subst hki
        have HS3 : Hid (MaP wr g (M.spreadTo k (k + 1))) := Lib.hid (by rw [Mch.spreadTo_self M k hlt' HN.out.2]; exact hS.out)
        clear hS
        go_wp2
        go_roundw
        case rel => exact ⟨k + 1, by omega, by go_num, HS3, hC⟩
        case measure => simp [intOf]; omega
      · have dki : decide ((k : Int) = (i : Int)) = false := by simp; omega
        have dki' : ((k : Int) == (i : Int)) = false := by simp; omega
        obtain ⟨p, hp⟩ : ∃ p, M.port k = p := ⟨_, rfl⟩
        have h8' : (M.spreadTo i k).ps.length ≤ 8 := by rw [Mch.spreadTo_len, HN.out.1]; exact h8
        have hpk : (M.spreadTo i k).port k = p := by rw [Mch.spreadTo_port _ _ _ hlt', hp]
        obtain ⟨F, hF⟩ : ∃ F, flN (M.spreadTo i k).fl = F := ⟨_, rfl⟩
        have c135 := (hS.out.hd h8').c135
        rw [hF] at c135
        have f135 := hS.out.fz 135
        have HBIT : Hid (bits BinOp.or IntKind.u8 (F : Int) (2 ^ k % 256) = ((flN ((M.spreadTo i k).fl.set k true) : Nat) : Int)) := Lib.hid (by
          have hlen : (M.spreadTo i k).fl.length = n := by unfold Mch.spreadTo; rw [List.length_mapIdx, HN.out.2, HN.out.1]
          rw [← hF]
          exact fl_or _ k (by rw [hlen]; exact hlt) (by rw [hlen]; exact h8))
        have HP1 : Hid (MaP (wr.setCell ⟨g, 135, none⟩ (.int .u8 (bits BinOp.or IntKind.u8 (F : Int) (2 ^ k % 256)))) g { M.spreadTo i k with fl := (M.spreadTo i k).fl.set k true }) := Lib.hid (by
          rw [HBIT.out]
          exact hS.out.putT h8' 5 _ _ rfl rfl rfl)
        have HC1 : Hid (Chg (· = g) w (wr.setCell ⟨g, 135, none⟩ (.int .u8 (bits BinOp.or IntKind.u8 (F : Int) (2 ^ k % 256))))) := Lib.hid (hC.out.setCell (p := ⟨g, 135, none⟩) (.inr rfl) _)
        obtain ⟨w1, hw1⟩ : ∃ w1, wr.setCell ⟨g, 135, none⟩ (.int .u8 (bits BinOp.or IntKind.u8 (F : Int) (2 ^ k % 256))) = w1 := ⟨_, rfl⟩
        have HW1 := Lib.hid hw1
        rw [hw1] at HP1 HC1
        have hport : ({ M.spreadTo i k with fl := (M.spreadTo i k).fl.set k true } : Mch).port k = p := hpk
        have kS := HP1.out.sd (i := k) h8' (by show k < (M.spreadTo i k).ps.length; rw [Mch.spreadTo_len]; exact hlt')
        rw [hport] at kS
        have kL := isLink_any kS
        have s15 := kS.c15
        have f15 := HP1.out.fz (2 + k * 16 + 15)
        have HSU := Lib.hid (M.spreadTo_succ i k hlt' HN.out.2 hki)
        have HPP := Lib.hid (And.intro hp (And.intro hport (And.intro h8' hlt')))
        clear hw1 hF hp hpk h8' hport kS hS hC hlt' hki
        go_upto_region 6 with fail
        rw [HW1.out]
        clear HW1 c135 f135 HBIT
        cases hl : p.live with
        | false =>
          rw [hl] at kL
          have HS3 : Hid (MaP w1 g (M.spreadTo i (k + 1))) := Lib.hid (by
            have e : p.spr = p := by unfold Sd.spr; rw [hl]; simp
            rw [HSU.out, HPP.out.1, e]
            have := Mch.setP_self ({ M.spreadTo i k with fl := (M.spreadTo i k).fl.set k true } : Mch) (i := k) (by show k < (M.spreadTo i k).ps.length; rw [Mch.spreadTo_len]; exact HPP.out.2.2.2)
            rw [HPP.out.2.1] at this
            rw [this]
            exact HP1.out)
          clear hl
          go_wp2_with fail
          refine kL.mono ?_
          rintro e w' ⟨rfl, rfl⟩
          clear kL
          go_wp2
          go_roundw
          case rel => exact ⟨k + 1, by omega, by go_num, HS3, HC1⟩
          case measure => simp [intOf]; omega
        | true =>
          rw [hl] at kL
          by_cases h0 : p.sp = 0
          · have d0 : (p.sp == 0) = true := by simpa using h0
            have HS3 : Hid (MaP (w1.setCell ⟨g, 2 + k * 16 + 15, none⟩ (.int .i64 4)) g (M.spreadTo i (k + 1))) := Lib.hid (by
              have e : p.spr = { p with sp := 4 } := by unfold Sd.spr; rw [hl, if_pos ⟨rfl, h0⟩]
              rw [HSU.out, HPP.out.1, e]
              exact HP1.out.put HPP.out.2.2.1 (by show k < (M.spreadTo i k).ps.length; rw [Mch.spreadTo_len]; exact HPP.out.2.2.2) 15 (by omega) _ _ (by rw [HPP.out.2.1]; rfl))
            have HC3 : Hid (Chg (· = g) w (w1.setCell ⟨g, 2 + k * 16 + 15, none⟩ (.int .i64 4))) := Lib.hid (HC1.out.setCell (p := ⟨g, 2 + k * 16 + 15, none⟩) (.inr rfl) _)
            clear hl h0
            go_wp2_with fail
            refine kL.mono ?_
            rintro e w' ⟨rfl, rfl⟩
            clear kL
            go_wp2
            go_roundw
            case rel => exact ⟨k + 1, by omega, by go_num, HS3, HC3⟩
            case measure => simp [intOf]; omega
          · have d0 : (p.sp == 0) = false := by simpa using h0
            have HS3 : Hid (MaP w1 g (M.spreadTo i (k + 1))) := Lib.hid (by
              have e : p.spr = p := by unfold Sd.spr; rw [if_neg (by rintro ⟨_, h⟩; exact h0 h)]
              rw [HSU.out, HPP.out.1, e]
              have := Mch.setP_self ({ M.spreadTo i k with fl := (M.spreadTo i k).fl.set k true } : Mch) (i := k) (by show k < (M.spreadTo i k).ps.length; rw [Mch.spreadTo_len]; exact HPP.out.2.2.2)
              rw [HPP.out.2.1] at this
              rw [this]
              exact HP1.out)
            clear hl h0
            go_wp2_with fail
            refine kL.mono ?_
            rintro e w' ⟨rfl, rfl⟩
            clear kL
            go_wp2
            go_roundw
            case rel => exact ⟨k + 1, by omega, by go_num, HS3, HC1⟩
            case measure => simp [intOf]; omega
    · obtain rfl : k = n := by omega
      have HE : Hid (MaP wr g (M.spread i)) := Lib.hid (by
        have := hS.out
        rw [← HN.out.1, Mch.spreadTo_all M i HN.out.2] at this
        exact this)
      clear hS hlt
      go_wp2
      go_end0
      exact ⟨rfl, HE.out, hC.out⟩
end Go.Proofs.Ytlpmilaofcakbaa
