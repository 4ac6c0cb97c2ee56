/- Layer 9: the document's machine in memory; link, own, Role, Forwards. -/
import Derived.Test.YtlpmilaofcakbaaWk
import Derived.Test.YtlpmilaofcakbaaRefLeast
namespace Go.Proofs.Ytlpmilaofcakbaa
open Go.RowKit Go.Shelf
open Go.Sort (grow)
set_option linter.unusedVariables false
set_option linter.unusedSimpArgs false
set_option maxRecDepth 100000

/-- the root port as the document has it -/
def dport (x : Int) : Int := if x = 8 then -1 else x
/-- the document's machine at m; its ports lie in block pb, what to flush in fb -/
structure DmP (w : World) (m pb fb c cf : Nat) (M : Mch) : Prop where
  hd : Blk w m 50 #[.int .u64 M.id, .slice (some ⟨pb, 0, none⟩) M.ps.length c, .int .u64 M.root, .int .u32 M.cost, .int .i64 (dport M.inn), .int .u8 M.hops, .int .u64 M.ver, .slice (some ⟨fb, 0, none⟩) M.ps.length cf]
  pr : ∃ cs : Array Value, Blk w pb 94 cs ∧ cs.toList.take (M.ps.length * 16) = M.ps.flatMap sdV
  fl : ∃ cs : Array Value, Blk w fb 4 cs ∧ cs.toList.take M.ps.length = M.fl.map Value.bool
  ne : m ≠ pb ∧ m ≠ fb ∧ pb ≠ fb
  nf : M.fl.length = M.ps.length
section
variable {w w' : World} {m pb fb c cf i : Nat} {M : Mch}
theorem DmP.next (h : DmP w m pb fb c cf M) (hb : Below w.heap.size w w') : DmP w' m pb fb c cf M := by
  obtain ⟨h1, ⟨cs, h2, h3⟩, ⟨ds, h4, h5⟩, h6, h7⟩ := h
  exact ⟨h1.below hb h1.lt, ⟨cs, h2.below hb h2.lt, h3⟩, ⟨ds, h4.below hb h4.lt, h5⟩, h6, h7⟩
theorem DmP.gro (h : DmP w m pb fb c cf M) (hb : Gro w w') : DmP w' m pb fb c cf M := h.next hb.below
theorem DmP.drewN (h : DmP w m pb fb c cf M) (n : Nat) : DmP (w.drewN n) m pb fb c cf M := h.next (Below.drewN' (Below.refl _ w) n)
theorem DmP.chg {S : Nat → Prop} (h : DmP w m pb fb c cf M) (hc : Chg S w w') (h1 : ¬ S m) (h2 : ¬ S pb) (h3 : ¬ S fb) : DmP w' m pb fb c cf M := by
  obtain ⟨a1, ⟨cs, a2, a3⟩, ⟨ds, a4, a5⟩, a6, a7⟩ := h
  exact ⟨a1.chg hc h1, ⟨cs, a2.chg hc h2, a3⟩, ⟨ds, a4.chg hc h3, a5⟩, a6, a7⟩
theorem DmP.lt (h : DmP w m pb fb c cf M) : m < w.heap.size ∧ pb < w.heap.size ∧ fb < w.heap.size := by
  obtain ⟨a1, ⟨cs, a2, a3⟩, ⟨ds, a4, a5⟩, a6, a7⟩ := h
  exact ⟨a1.lt, a2.lt, a4.lt⟩
theorem DmP.fz (h : DmP w m pb fb c cf M) (k : Nat) : w.frozen? ⟨m, k, none⟩ = false := h.hd.frozen k
theorem DmP.fzP (h : DmP w m pb fb c cf M) (k : Nat) : w.frozen? ⟨pb, k, none⟩ = false := by obtain ⟨cs, h2, _⟩ := h.pr; exact h2.frozen k
theorem DmP.fzF (h : DmP w m pb fb c cf M) (k : Nat) : w.frozen? ⟨fb, k, none⟩ = false := by obtain ⟨cs, h2, _⟩ := h.fl; exact h2.frozen k
theorem DmP.sd (h : DmP w m pb fb c cf M) (hi : i < M.ps.length) : SdC w pb (i * 16) (M.port i) := by
  obtain ⟨cs, h2, h3⟩ := h.pr
  refine SdC.of fun k u hu => ?_
  have hk : k < 16 := by have := (List.getElem?_eq_some_iff.1 hu).1; rwa [sdV_len] at this
  rw [h2.cell (i * 16 + k)]
  have e : cs[i * 16 + k]? = (cs.toList.take (M.ps.length * 16))[i * 16 + k]? := by
    rw [List.getElem?_take_of_lt (by omega)]; simp
  rw [e, h3, flat_at 16 sdV sdV_len M.ps i hi k hk, Mch.port_at hi]
  exact hu
theorem DmP.fc (h : DmP w m pb fb c cf M) (hi : i < M.ps.length) : w.cell? ⟨fb, i, none⟩ = some (.bool (M.fl.getD i false)) := by
  obtain ⟨cs, h2, h3⟩ := h.fl
  rw [h2.cell i]
  have e : cs[i]? = (cs.toList.take M.ps.length)[i]? := by
    rw [List.getElem?_take_of_lt hi]; simp
  have hi' : i < M.fl.length := by rw [h.nf]; exact hi
  rw [e, h3, List.getElem?_map, List.getElem?_eq_getElem hi', List.getD_eq_getElem?_getD, List.getElem?_eq_getElem hi']
  rfl
theorem DmP.put (h : DmP w m pb fb c cf M) (hi : i < M.ps.length) (k : Nat) (hk : k < 16) (v : Value) (p' : Sd) (hv : (sdV (M.port i)).set k v = sdV p') : DmP (w.setCell ⟨pb, i * 16 + k, none⟩ v) m pb fb c cf (M.setP i p') := by
  obtain ⟨a1, ⟨cs, a2, a3⟩, ⟨ds, a4, a5⟩, a6, a7⟩ := h
  have hl : (M.setP i p').ps.length = M.ps.length := M.setP_len i p'
  refine ⟨?_, ⟨_, a2.put (i * 16 + k) v, ?_⟩, ⟨ds, a4.far (p := ⟨pb, i * 16 + k, none⟩) (Ne.symm a6.2.2) v, ?_⟩, a6, by rw [hl]; exact a7⟩
  · rw [hl]
    exact a1.far (p := ⟨pb, i * 16 + k, none⟩) a6.1 v
  · rw [hl, Array.toList_setIfInBounds, List.take_set, a3, flat_set 16 sdV sdV_len M.ps i hi k hk v p' (by rw [Mch.port_at hi]; exact hv)]
    rfl
  · rw [hl]; exact a5
theorem DmP.putF (h : DmP w m pb fb c cf M) (k : Nat) (x : Bool) : DmP (w.setCell ⟨fb, k, none⟩ (.bool x)) m pb fb c cf { M with fl := M.fl.set k x } := by
  obtain ⟨a1, ⟨cs, a2, a3⟩, ⟨ds, a4, a5⟩, a6, a7⟩ := h
  refine ⟨a1.far (p := ⟨fb, k, none⟩) a6.2.1 _, ⟨cs, a2.far (p := ⟨fb, k, none⟩) a6.2.2 _, a3⟩, ⟨_, a4.put k _, ?_⟩, a6, by simpa using a7⟩
  rw [Array.toList_setIfInBounds, List.take_set, a5, List.map_set]
theorem DmP.putH (h : DmP w m pb fb c cf M) (j : Nat) (v : Value) (M' : Mch) (hp : M'.ps = M.ps) (hf : M'.fl = M.fl)
    (hv : (#[.int .u64 M.id, .slice (some ⟨pb, 0, none⟩) M.ps.length c, .int .u64 M.root, .int .u32 M.cost, .int .i64 (dport M.inn), .int .u8 M.hops, .int .u64 M.ver, .slice (some ⟨fb, 0, none⟩) M.ps.length cf] : Array Value).setIfInBounds j v = #[.int .u64 M'.id, .slice (some ⟨pb, 0, none⟩) M'.ps.length c, .int .u64 M'.root, .int .u32 M'.cost, .int .i64 (dport M'.inn), .int .u8 M'.hops, .int .u64 M'.ver, .slice (some ⟨fb, 0, none⟩) M'.ps.length cf]) : DmP (w.setCell ⟨m, j, none⟩ v) m pb fb c cf M' := by
  obtain ⟨a1, ⟨cs, a2, a3⟩, ⟨ds, a4, a5⟩, a6, a7⟩ := h
  refine ⟨by rw [← hv]; exact a1.put j v, ⟨cs, a2.far (p := ⟨m, j, none⟩) (Ne.symm a6.1) v, by rw [hp]; exact a3⟩, ⟨ds, a4.far (p := ⟨m, j, none⟩) (Ne.symm a6.2.1) v, by rw [hp, hf]; exact a5⟩, a6, by rw [hp, hf]; exact a7⟩
end
theorem link_ref {w : World} {m pb fb c cf i : Nat} {M : Mch} (hD : DmP w m pb fb c cf M) (hi : i < M.ps.length) (h8 : M.ps.length ≤ 8) : Calls Try.prog 41 #[.pointer (some ⟨m, 0, none⟩), .int .i64 (i : Nat)] w fun e w' => e = .returned (.bool (M.port i).live) ∧ w' = w := by
  obtain ⟨p, hp⟩ : ∃ p, M.port i = p := ⟨_, rfl⟩
  have S := hD.sd hi
  rw [hp] at S
  rw [hp]
  have c1 := hD.hd.cell 1
  have s0 := S.c0
  have s1 := S.c1
  obtain ⟨n, hn⟩ : ∃ n, M.ps.length = n := ⟨_, rfl⟩
  have hi' : i < n := by omega
  rw [hn] at c1
  have E : Hid ((p.up && decide (0 < p.cost)) = p.live) := Lib.hid rfl
  clear S hD hi h8 hn hp
  obtain ⟨u, hu⟩ : ∃ u, p.up = u := ⟨_, rfl⟩
  rw [hu] at s1 E
  clear hu
  cases u
  · have E2 : Hid (p.live = false) := Lib.hid (by rw [← E.out]; rfl)
    clear E
    go_enter Try.func41, Try.ntmps41
    go_wp2
    go_ret
    exact ⟨by rw [E2.out]; rfl, rfl⟩
  · have E2 : Hid (p.live = decide (0 < p.cost)) := Lib.hid (by rw [← E.out]; rfl)
    clear E
    go_enter Try.func41, Try.ntmps41
    go_wp2
    go_ret
    exact ⟨by rw [E2.out]; rfl, rfl⟩
set_option maxHeartbeats 1000000 in
theorem own_ref {w : World} {m pb fb c cf i : Nat} {M : Mch} (hD : DmP w m pb fb c cf M) (hi : i < M.ps.length) (h8 : M.ps.length ≤ 8) : Calls Try.prog 61 #[.pointer (some ⟨m, 0, none⟩), .int .i64 (i : Nat)] w fun e w' => e = .returned (VV (M.own i)) ∧ Gro w w' := by
  obtain ⟨wa, hwa⟩ : ∃ wa, w.alloc (.cells #[.int .u64 0, .int .u32 0, .int .u64 0, .int .u8 0] 35) = wa := ⟨_, rfl⟩
  obtain ⟨b, hb⟩ : ∃ b, w.heap.size = b := ⟨_, rfl⟩
  have HG : Hid (Gro w wa) := Lib.hid (by rw [← hwa]; exact (Gro.refl w).alloc _)
  have HB : Hid (Blk wa.drew b 35 #[.int .u64 0, .int .u32 0, .int .u64 0, .int .u8 0]) := Lib.hid (by rw [← hwa, ← hb]; exact Blk.new w _ _)
  have H2 := hD.next HG.out.below
  have c0 := H2.hd.cell 0
  have c2 := H2.hd.cell 2
  have c3 := H2.hd.cell 3
  have hu8 : IntKind.u8.wrap (i : Int) = (i : Int) := by
    have : i = 0 ∨ i = 1 ∨ i = 2 ∨ i = 3 ∨ i = 4 ∨ i = 5 ∨ i = 6 ∨ i = 7 := by omega
    rcases this with h | h | h | h | h | h | h | h <;> subst h <;> rfl
  have HE : Hid (VV (M.own i) = .agg #[.int .u64 M.root, .int .u32 M.cost, .int .u64 M.id, .int .u8 (i : Nat)]) := Lib.hid rfl
  have HW := Lib.hid hwa
  have HBB := Lib.hid hb
  have hi8 : (i : Int) < 8 := by omega
  clear hD H2 hwa hb h8 hi
  go_enter Try.func61, Try.ntmps61
  go_wp2_with fail
  rw [HW.out, HBB.out]
  go_still_tail 15, (by kernel_rfl)
  change wpList _ _ _ _ _ wa.drew
  have HG2 : Hid (Gro w wa.drew) := Lib.hid HG.out.drew
  have HL : Hid (w.heap.size ≤ b) := Lib.hid (Nat.le_of_eq HBB.out)
  clear c0 c2 c3 HG HW HBB
  generalize wa.drew = wd at *
  go_wp2_with (refine wpList_store_row rfl 35 (.tmp 4) (.tmp 19) rfl b rfl #[.int .u64 M.root, .int .u32 M.cost, .int .u64 M.id, .int .u8 (i : Nat)] rfl 35 _ HB.out (by kernel_rfl) rfl (by kernel_rfl) ?_)
  exact bodyPost_ret (v := VV (M.own i)) (results_cell_row (p := 4) (by kernel_rfl) _ _ b 35 _ (0, 0) _ rfl (Blk.row HB.out _) Try.underlying35 rfl (by kernel_rfl)) rfl ⟨rfl, below_row HG2.out.below HL.out _, HG2.out.drawn⟩

set_option maxHeartbeats 2000000 in
theorem rrole_dis {w : World} {m pb fb c cf i : Nat} {M : Mch} (hD : DmP w m pb fb c cf M) {p : Sd} (hi : i < M.ps.length) (h8 : M.ps.length ≤ 8) (hp : M.port i = p) (hu : p.up = false) :
    Calls Try.prog 47 #[.pointer (some ⟨m, 0, none⟩), .int .i64 (i : Nat)] w fun e w' => e = .returned (.int .u8 0) ∧ Gro w w' := by
  have S := hD.sd hi
  rw [hp] at S
  have HS := Lib.hid S
  have HD := Lib.hid hD
  have HI := Lib.hid (And.intro hi h8)
  obtain ⟨n, hn⟩ : ∃ n, M.ps.length = n := ⟨_, rfl⟩
  have c1 := hD.hd.cell 1
  have c4 := hD.hd.cell 4
  rw [hn] at c1
  have hi' : i < n := by omega
  have hi8 : (i : Int) < 8 := by omega
  have dn : decide ((n : Int) ≤ (i : Int)) = false := by simp; omega
  have s1 := S.c1
  clear hp h8 hi hD hn
  rw [hu] at s1
  clear hu
  clear S
  go_enter Try.func47, Try.ntmps47
  go_wp2
  go_ret
  exact ⟨rfl, Gro.refl _⟩

set_option maxHeartbeats 2000000 in
theorem rrole_edge {w : World} {m pb fb c cf i : Nat} {M : Mch} (hD : DmP w m pb fb c cf M) {p : Sd} (hi : i < M.ps.length) (h8 : M.ps.length ≤ 8) (hp : M.port i = p) (hu : p.up = true) (hl : (p.cost == 0) = true) :
    Calls Try.prog 47 #[.pointer (some ⟨m, 0, none⟩), .int .i64 (i : Nat)] w fun e w' => e = .returned (.int .u8 5) ∧ Gro w w' := by
  have S := hD.sd hi
  rw [hp] at S
  have HS := Lib.hid S
  have HD := Lib.hid hD
  have HI := Lib.hid (And.intro hi h8)
  obtain ⟨n, hn⟩ : ∃ n, M.ps.length = n := ⟨_, rfl⟩
  have c1 := hD.hd.cell 1
  have c4 := hD.hd.cell 4
  rw [hn] at c1
  have hi' : i < n := by omega
  have hi8 : (i : Int) < 8 := by omega
  have dn : decide ((n : Int) ≤ (i : Int)) = false := by simp; omega
  have s1 := S.c1
  clear hp h8 hi hD hn
  rw [hu] at s1
  clear hu
  have s0 := S.c0
  clear S
  go_enter Try.func47, Try.ntmps47
  go_wp2
  go_ret
  exact ⟨rfl, Gro.refl _⟩

set_option maxHeartbeats 2000000 in
theorem rrole_root {w : World} {m pb fb c cf i : Nat} {M : Mch} (hD : DmP w m pb fb c cf M) {p : Sd} (hi : i < M.ps.length) (h8 : M.ps.length ≤ 8) (hp : M.port i = p) (hu : p.up = true) (hl : (p.cost == 0) = false) (hn : (dport M.inn == (i : Int)) = true) :
    Calls Try.prog 47 #[.pointer (some ⟨m, 0, none⟩), .int .i64 (i : Nat)] w fun e w' => e = .returned (.int .u8 1) ∧ Gro w w' := by
  have S := hD.sd hi
  rw [hp] at S
  have HS := Lib.hid S
  have HD := Lib.hid hD
  have HI := Lib.hid (And.intro hi h8)
  obtain ⟨n, hn⟩ : ∃ n, M.ps.length = n := ⟨_, rfl⟩
  have c1 := hD.hd.cell 1
  have c4 := hD.hd.cell 4
  rw [hn] at c1
  have hi' : i < n := by omega
  have hi8 : (i : Int) < 8 := by omega
  have dn : decide ((n : Int) ≤ (i : Int)) = false := by simp; omega
  have s1 := S.c1
  clear hp h8 hi hD hn
  rw [hu] at s1
  clear hu
  have s0 := S.c0
  clear S
  go_enter Try.func47, Try.ntmps47
  go_wp2
  go_ret
  exact ⟨rfl, Gro.refl _⟩

set_option maxHeartbeats 2000000 in
theorem rrole_des0 {w : World} {m pb fb c cf i : Nat} {M : Mch} (hD : DmP w m pb fb c cf M) {p : Sd} (hi : i < M.ps.length) (h8 : M.ps.length ≤ 8) (hp : M.port i = p) (hu : p.up = true) (hl : (p.cost == 0) = false) (hn : (dport M.inn == (i : Int)) = false) (h0 : (p.la == 0) = true) :
    Calls Try.prog 47 #[.pointer (some ⟨m, 0, none⟩), .int .i64 (i : Nat)] w fun e w' => e = .returned (.int .u8 2) ∧ Gro w w' := by
  have S := hD.sd hi
  rw [hp] at S
  have HS := Lib.hid S
  have HD := Lib.hid hD
  have HI := Lib.hid (And.intro hi h8)
  obtain ⟨n, hn⟩ : ∃ n, M.ps.length = n := ⟨_, rfl⟩
  have c1 := hD.hd.cell 1
  have c4 := hD.hd.cell 4
  rw [hn] at c1
  have hi' : i < n := by omega
  have hi8 : (i : Int) < 8 := by omega
  have dn : decide ((n : Int) ≤ (i : Int)) = false := by simp; omega
  have s1 := S.c1
  clear hp h8 hi hD hn
  rw [hu] at s1
  clear hu
  have s0 := S.c0
  have s13 := S.c13
  have mixed : Try.prog.follows .mixedOrders = true := by kernel_rfl
  have g1 := fun n os => cell_grT c1 n os
  have g13 := fun n os => cell_grT S.c13 n os
  clear S
  go_enter Try.func47, Try.ntmps47
  go_wp2_with fail
  refine wp_region_quiet_grown mixed (by kernel_rfl) ?_
  repeat (first | go_big_quiet_step ((fail)) | quiet_step ((fail)))
  refine wpQuiet_nil ?_
  intro _ hw'
  obtain ⟨⟨nq, osq⟩, hw''⟩ := hw'
  subst hw''
  have HG := Lib.hid (Gro.of_grow (w := w) nq osq)
  generalize grow (w.drewN nq) osq = wg at *
  clear g1 g13
  go_wp2
  go_ret
  exact ⟨rfl, HG.out⟩

set_option maxHeartbeats 2000000 in
theorem rrole_des1 {w : World} {m pb fb c cf i : Nat} {M : Mch} (hD : DmP w m pb fb c cf M) {p : Sd} (hi : i < M.ps.length) (h8 : M.ps.length ≤ 8) (hp : M.port i = p) (hu : p.up = true) (hl : (p.cost == 0) = false) (hn : (dport M.inn == (i : Int)) = false) (h0 : (p.la == 0) = false) (hL : lessV (M.own i) p.b.v = true) :
    Calls Try.prog 47 #[.pointer (some ⟨m, 0, none⟩), .int .i64 (i : Nat)] w fun e w' => e = .returned (.int .u8 2) ∧ Gro w w' := by
  have S := hD.sd hi
  rw [hp] at S
  have HS := Lib.hid S
  have HD := Lib.hid hD
  have HI := Lib.hid (And.intro hi h8)
  obtain ⟨n, hn⟩ : ∃ n, M.ps.length = n := ⟨_, rfl⟩
  have c1 := hD.hd.cell 1
  have c4 := hD.hd.cell 4
  rw [hn] at c1
  have hi' : i < n := by omega
  have hi8 : (i : Int) < 8 := by omega
  have dn : decide ((n : Int) ≤ (i : Int)) = false := by simp; omega
  have s1 := S.c1
  clear hp h8 hi hD hn
  rw [hu] at s1
  clear hu
  have s0 := S.c0
  have s13 := S.c13
  obtain ⟨y, hy⟩ : ∃ y, M.own i = y := ⟨_, rfl⟩
  have kO : ∀ n os, Calls Try.prog 61 #[.pointer (some ⟨m, 0, none⟩), .int .i64 (i : Nat)] (grow (w.drewN n) os) fun e w' => e = .returned (VV y) ∧ ∃ n' os', w' = grow ((grow (w.drewN n) os).drewN n') os' := fun n os =>
    (own_ref (HD.out.gro (Gro.of_grow n os)) HI.out.1 HI.out.2).mono fun _ _ ⟨he, hg⟩ => ⟨by rw [he, hy], hg.out⟩
  have kC : ∀ W, Calls Try.prog 62 #[VV y, VV p.b.v] W fun e w' => e = .returned (.bool true) ∧ ∃ n' os', w' = grow (W.drewN n') os' := fun W => refless_grow W y p.b.v true (by rw [← hy]; exact hL)
  have mixed : Try.prog.follows .mixedOrders = true := by kernel_rfl
  have g1 := fun n os => cell_grT c1 n os
  have g2 := fun n os => cell_grT S.c2 n os
  have g3 := fun n os => cell_grT S.c3 n os
  have g4 := fun n os => cell_grT S.c4 n os
  have g5 := fun n os => cell_grT S.c5 n os
  have g13 := fun n os => cell_grT S.c13 n os
  have g13 := g13
  clear hy hL
  clear S
  go_enter Try.func47, Try.ntmps47
  go_wp2_with fail
  refine wp_region_quiet_grown mixed (by kernel_rfl) ?_
  repeat (first | go_big_quiet_step ((first | (go_at_call 61; exact Calls.grown_of (kO _ _)) | (go_at_call 62; exact Calls.grown_of (kC _)))) | quiet_step ((first | (go_at_call 61; exact Calls.grown_of (kO _ _)) | (go_at_call 62; exact Calls.grown_of (kC _)))))
  refine wpQuiet_nil ?_
  intro _ hw'
  obtain ⟨⟨nq, osq⟩, hw''⟩ := hw'
  subst hw''
  have HG := Lib.hid (Gro.of_grow (w := w) nq osq)
  generalize grow (w.drewN nq) osq = wg at *
  clear kO kC g1 g2 g3 g4 g5 g13 c1 c4 s0 s1 s13
  go_wp2
  go_ret
  exact ⟨rfl, HG.out⟩

set_option maxHeartbeats 2000000 in
theorem rrole_back {w : World} {m pb fb c cf i : Nat} {M : Mch} (hD : DmP w m pb fb c cf M) {p : Sd} (hi : i < M.ps.length) (h8 : M.ps.length ≤ 8) (hp : M.port i = p) (hu : p.up = true) (hl : (p.cost == 0) = false) (hn : (dport M.inn == (i : Int)) = false) (h0 : (p.la == 0) = false) (hL : lessV (M.own i) p.b.v = false) (hb : (p.b.v.b == M.id) = true) :
    Calls Try.prog 47 #[.pointer (some ⟨m, 0, none⟩), .int .i64 (i : Nat)] w fun e w' => e = .returned (.int .u8 4) ∧ Gro w w' := by
  have S := hD.sd hi
  rw [hp] at S
  have HS := Lib.hid S
  have HD := Lib.hid hD
  have HI := Lib.hid (And.intro hi h8)
  obtain ⟨n, hn⟩ : ∃ n, M.ps.length = n := ⟨_, rfl⟩
  have c1 := hD.hd.cell 1
  have c4 := hD.hd.cell 4
  rw [hn] at c1
  have hi' : i < n := by omega
  have hi8 : (i : Int) < 8 := by omega
  have dn : decide ((n : Int) ≤ (i : Int)) = false := by simp; omega
  have s1 := S.c1
  clear hp h8 hi hD hn
  rw [hu] at s1
  clear hu
  have s0 := S.c0
  have s13 := S.c13
  obtain ⟨y, hy⟩ : ∃ y, M.own i = y := ⟨_, rfl⟩
  have kO : ∀ n os, Calls Try.prog 61 #[.pointer (some ⟨m, 0, none⟩), .int .i64 (i : Nat)] (grow (w.drewN n) os) fun e w' => e = .returned (VV y) ∧ ∃ n' os', w' = grow ((grow (w.drewN n) os).drewN n') os' := fun n os =>
    (own_ref (HD.out.gro (Gro.of_grow n os)) HI.out.1 HI.out.2).mono fun _ _ ⟨he, hg⟩ => ⟨by rw [he, hy], hg.out⟩
  have kC : ∀ W, Calls Try.prog 62 #[VV y, VV p.b.v] W fun e w' => e = .returned (.bool false) ∧ ∃ n' os', w' = grow (W.drewN n') os' := fun W => refless_grow W y p.b.v false (by rw [← hy]; exact hL)
  have mixed : Try.prog.follows .mixedOrders = true := by kernel_rfl
  have g1 := fun n os => cell_grT c1 n os
  have g2 := fun n os => cell_grT S.c2 n os
  have g3 := fun n os => cell_grT S.c3 n os
  have g4 := fun n os => cell_grT S.c4 n os
  have g5 := fun n os => cell_grT S.c5 n os
  have g13 := fun n os => cell_grT S.c13 n os
  have g13 := g13
  clear hy hL
  clear S
  go_enter Try.func47, Try.ntmps47
  go_wp2_with fail
  refine wp_region_quiet_grown mixed (by kernel_rfl) ?_
  repeat (first | go_big_quiet_step ((first | (go_at_call 61; exact Calls.grown_of (kO _ _)) | (go_at_call 62; exact Calls.grown_of (kC _)))) | quiet_step ((first | (go_at_call 61; exact Calls.grown_of (kO _ _)) | (go_at_call 62; exact Calls.grown_of (kC _)))))
  refine wpQuiet_nil ?_
  intro _ hw'
  obtain ⟨⟨nq, osq⟩, hw''⟩ := hw'
  subst hw''
  have HG := Lib.hid (Gro.of_grow (w := w) nq osq)
  generalize grow (w.drewN nq) osq = wg at *
  clear kO kC g1 g2 g3 g4 g5 g13 c1 c4 s0 s1 s13
  have d4 := (HS.out.next HG.out.below).c4
  have d0 := (HD.out.gro HG.out).hd.cell 0
  have d1 := (HD.out.gro HG.out).hd.cell 1
  have hi1 := HI.out.1
  go_wp2_with fail
  go_quiet (fail)
  go_wp2
  go_ret
  exact ⟨rfl, HG.out.drewN _⟩

set_option maxHeartbeats 2000000 in
theorem rrole_alt {w : World} {m pb fb c cf i : Nat} {M : Mch} (hD : DmP w m pb fb c cf M) {p : Sd} (hi : i < M.ps.length) (h8 : M.ps.length ≤ 8) (hp : M.port i = p) (hu : p.up = true) (hl : (p.cost == 0) = false) (hn : (dport M.inn == (i : Int)) = false) (h0 : (p.la == 0) = false) (hL : lessV (M.own i) p.b.v = false) (hb : (p.b.v.b == M.id) = false) :
    Calls Try.prog 47 #[.pointer (some ⟨m, 0, none⟩), .int .i64 (i : Nat)] w fun e w' => e = .returned (.int .u8 3) ∧ Gro w w' := by
  have S := hD.sd hi
  rw [hp] at S
  have HS := Lib.hid S
  have HD := Lib.hid hD
  have HI := Lib.hid (And.intro hi h8)
  obtain ⟨n, hn⟩ : ∃ n, M.ps.length = n := ⟨_, rfl⟩
  have c1 := hD.hd.cell 1
  have c4 := hD.hd.cell 4
  rw [hn] at c1
  have hi' : i < n := by omega
  have hi8 : (i : Int) < 8 := by omega
  have dn : decide ((n : Int) ≤ (i : Int)) = false := by simp; omega
  have s1 := S.c1
  clear hp h8 hi hD hn
  rw [hu] at s1
  clear hu
  have s0 := S.c0
  have s13 := S.c13
  obtain ⟨y, hy⟩ : ∃ y, M.own i = y := ⟨_, rfl⟩
  have kO : ∀ n os, Calls Try.prog 61 #[.pointer (some ⟨m, 0, none⟩), .int .i64 (i : Nat)] (grow (w.drewN n) os) fun e w' => e = .returned (VV y) ∧ ∃ n' os', w' = grow ((grow (w.drewN n) os).drewN n') os' := fun n os =>
    (own_ref (HD.out.gro (Gro.of_grow n os)) HI.out.1 HI.out.2).mono fun _ _ ⟨he, hg⟩ => ⟨by rw [he, hy], hg.out⟩
  have kC : ∀ W, Calls Try.prog 62 #[VV y, VV p.b.v] W fun e w' => e = .returned (.bool false) ∧ ∃ n' os', w' = grow (W.drewN n') os' := fun W => refless_grow W y p.b.v false (by rw [← hy]; exact hL)
  have mixed : Try.prog.follows .mixedOrders = true := by kernel_rfl
  have g1 := fun n os => cell_grT c1 n os
  have g2 := fun n os => cell_grT S.c2 n os
  have g3 := fun n os => cell_grT S.c3 n os
  have g4 := fun n os => cell_grT S.c4 n os
  have g5 := fun n os => cell_grT S.c5 n os
  have g13 := fun n os => cell_grT S.c13 n os
  have g13 := g13
  clear hy hL
  clear S
  go_enter Try.func47, Try.ntmps47
  go_wp2_with fail
  refine wp_region_quiet_grown mixed (by kernel_rfl) ?_
  repeat (first | go_big_quiet_step ((first | (go_at_call 61; exact Calls.grown_of (kO _ _)) | (go_at_call 62; exact Calls.grown_of (kC _)))) | quiet_step ((first | (go_at_call 61; exact Calls.grown_of (kO _ _)) | (go_at_call 62; exact Calls.grown_of (kC _)))))
  refine wpQuiet_nil ?_
  intro _ hw'
  obtain ⟨⟨nq, osq⟩, hw''⟩ := hw'
  subst hw''
  have HG := Lib.hid (Gro.of_grow (w := w) nq osq)
  generalize grow (w.drewN nq) osq = wg at *
  clear kO kC g1 g2 g3 g4 g5 g13 c1 c4 s0 s1 s13
  have d4 := (HS.out.next HG.out.below).c4
  have d0 := (HD.out.gro HG.out).hd.cell 0
  have d1 := (HD.out.gro HG.out).hd.cell 1
  have hi1 := HI.out.1
  go_wp2_with fail
  go_quiet (fail)
  go_wp2
  go_ret
  exact ⟨rfl, HG.out.drewN _⟩

/-- Role -/
theorem role_ref {w : World} {m pb fb c cf i : Nat} {M : Mch} (hD : DmP w m pb fb c cf M) (hc : ∀ p ∈ M.ps, 0 ≤ p.cost) (hin : M.inn ≠ -1) (h8 : M.ps.length ≤ 8) : Calls Try.prog 47 #[.pointer (some ⟨m, 0, none⟩), .int .i64 (i : Nat)] w fun e w' => e = .returned (.int .u8 (M.role i : Nat)) ∧ Gro w w' := by
  by_cases hi : i < M.ps.length
  · have e1 : M.role i = M.roleOf i (M.port i) := by simp [Mch.role, hi]
    rw [e1]
    have hc0 := hc _ (Mch.port_mem hi)
    obtain ⟨p, hp⟩ : ∃ p, M.port i = p := ⟨_, rfl⟩
    rw [hp]
    rw [hp] at hc0
    unfold Mch.roleOf
    cases hu : p.up with
    | false => exact rrole_dis hD hi h8 hp hu
    | true =>
      have hlv : p.live = decide (0 < p.cost) := by unfold Sd.live; rw [hu]; rfl
      by_cases hz : p.cost = 0
      · have : p.live = false := by rw [hlv]; simp [hz]
        rw [this]
        exact rrole_edge hD hi h8 hp hu (by simpa using hz)
      · have hz' : (p.cost == 0) = false := by simpa using hz
        have : p.live = true := by rw [hlv]; simp; omega
        rw [this]
        simp only [Bool.not_true, Bool.false_eq_true, if_false]
        have hdp : dport M.inn = (i : Int) ↔ (i : Int) = M.inn := by
          unfold dport
          split
          · omega
          · exact eq_comm
        by_cases hn : (i : Int) = M.inn
        · rw [if_pos hn]; exact rrole_root hD hi h8 hp hu hz' (by simpa using hdp.2 hn)
        · rw [if_neg hn]
          have hn' : (dport M.inn == (i : Int)) = false := by simpa using fun e => hn (hdp.1 e)
          by_cases h0 : p.la = 0
          · rw [if_pos (.inl h0)]; exact rrole_des0 hD hi h8 hp hu hz' hn' (by simpa using h0)
          · have h0' : (p.la == 0) = false := by simpa using h0
            cases hL : lessV (M.own i) p.b.v with
            | true => rw [if_pos (.inr rfl)]; exact rrole_des1 hD hi h8 hp hu hz' hn' h0' hL
            | false =>
              rw [if_neg (by rintro (h | h) <;> simp_all)]
              by_cases hb : p.b.v.b = M.id
              · rw [if_pos hb]; exact rrole_back hD hi h8 hp hu hz' hn' h0' hL (by simpa using hb)
              · rw [if_neg hb]; exact rrole_alt hD hi h8 hp hu hz' hn' h0' hL (by simpa using hb)
  · have e1 : M.role i = 0 := by simp [Mch.role, hi]
    rw [e1]
    obtain ⟨n, hn⟩ : ∃ n, M.ps.length = n := ⟨_, rfl⟩
    have c1 := hD.hd.cell 1
    rw [hn] at c1
    have dn : decide (n ≤ i) = true := by simp; omega
    clear hi hD h8 e1 hc hn hin
    go_enter Try.func47, Try.ntmps47
    go_wp2
    go_ret
    exact ⟨rfl, Gro.refl _⟩
end Go.Proofs.Ytlpmilaofcakbaa
