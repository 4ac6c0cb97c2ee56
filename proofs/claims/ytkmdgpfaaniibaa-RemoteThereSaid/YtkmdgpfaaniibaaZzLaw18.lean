/- Layer 18: the contracts of package remote as words; the law's of, check, maid, same, great, rising. -/
import Derived.Test.YtkmdgpfaaniibaaZzD18
import Derived.Test.YtkmdgpfaaniibaaZz
import Derived.Test.YtkmdgpfaaniibaaZzRp
import Derived.Deep.RegionHeld3
namespace Go.Proofs.Ytkmdgpfaaniibaa
open Go.RowKit
set_option linter.unusedVariables false
set_option linter.unusedSimpArgs false
set_option maxRecDepth 100000

/-- what package remote is held to: R w S b m says that the block b is the machine m, which lies in the blocks S -/
structure RmI (R : World → (Nat → Prop) → Nat → Rm → Prop) : Prop where
  new : ∀ (o : On) (A : Option Addr) (c : Nat) (os : List UInt16) (w : World), rmMay o os = true → Els 1 u16c w A os → Calls Try.prog 8 #[.agg #[.int .u8 o.lv.toNat, .int .u16 o.me.toNat, .int .u8 o.iv.toNat, .string ⟨o.ma.toArray⟩], .slice A os.length c] w fun e w' => ∃ b S, e = .returned (.tuple #[.pointer (some ⟨b, 0, none⟩), .int .i64 0]) ∧ R w' S b (rmNew o (risen os)) ∧ (∀ k, S k → w.heap.size ≤ k) ∧ Below w.heap.size w w'
  bad : ∀ (o : On) (A : Option Addr) (c : Nat) (os : List UInt16) (w : World), rmMay o os = false → o.ma.length ≤ 1000 → os.length ≤ 1000 → Els 1 u16c w A os → Calls Try.prog 8 #[.agg #[.int .u8 o.lv.toNat, .int .u16 o.me.toNat, .int .u8 o.iv.toNat, .string ⟨o.ma.toArray⟩], .slice A os.length c] w fun e w' => e = .returned (.tuple #[.pointer none, .int .i64 2]) ∧ Below w.heap.size w w'
  hear : ∀ (w : World) (S : Nat → Prop) (b : Nat) (m : Rm) (c : Ck), R w S b m → c.a.length ≤ 1000 → Calls Try.prog 13 #[.pointer (some ⟨b, 0, none⟩), .agg #[.int .u8 c.l.toNat, .bool c.r, .int .u8 c.i.toNat, .int .u32 c.q.toNat, .int .u16 c.m.toNat, .string ⟨c.a.toArray⟩]] w fun e w' => e = .returned (.tuple #[]) ∧ R w' S b (rmHear m c) ∧ Chg S w w'
  tick : ∀ (w : World) (S : Nat → Prop) (b : Nat) (m : Rm), R w S b m → Calls Try.prog 12 #[.pointer (some ⟨b, 0, none⟩)] w fun e w' => e = .returned (.tuple #[]) ∧ R w' S b (rmTick m) ∧ Chg S w w'
  lost : ∀ (w : World) (S : Nat → Prop) (b : Nat) (m : Rm), R w S b m → Calls Try.prog 16 #[.pointer (some ⟨b, 0, none⟩)] w fun e w' => ∃ A c, e = .returned (.slice A (rmLost m).length c) ∧ Els 1 u16c w' A (rmLost m) ∧ (∀ a, A = some a → w.heap.size ≤ a.block) ∧ R w' S b m ∧ Below w.heap.size w w'
  rdis : ∀ (w : World) (S : Nat → Prop) (b : Nat) (m : Rm), R w S b m → Calls Try.prog 17 #[.pointer (some ⟨b, 0, none⟩)] w fun e w' => ∃ A c, e = .returned (.slice A (rmRdis m).length c) ∧ Els 1 u16c w' A (rmRdis m) ∧ (∀ a, A = some a → w.heap.size ≤ a.block) ∧ R w' S b m ∧ Below w.heap.size w w'
  defects : ∀ (w : World) (S : Nat → Prop) (b : Nat) (m : Rm), R w S b m → Calls Try.prog 18 #[.pointer (some ⟨b, 0, none⟩)] w fun e w' => e = .returned (.bool (rmDef m)) ∧ R w' S b m ∧ Below w.heap.size w w'
  worst : ∀ (w : World) (S : Nat → Prop) (b : Nat) (m : Rm), R w S b m → Calls Try.prog 19 #[.pointer (some ⟨b, 0, none⟩)] w fun e w' => e = .returned (.int .u8 (rmWorst m : Nat)) ∧ R w' S b m ∧ Below w.heap.size w w'
  hearN : ∀ (w : World) (c : Ck), c.a.length ≤ 1000 → Calls Try.prog 13 #[.pointer none, .agg #[.int .u8 c.l.toNat, .bool c.r, .int .u8 c.i.toNat, .int .u32 c.q.toNat, .int .u16 c.m.toNat, .string ⟨c.a.toArray⟩]] w fun e w' => e = .returned (.tuple #[]) ∧ Below w.heap.size w w'
  tickN : ∀ (w : World), Calls Try.prog 12 #[.pointer none] w fun e w' => e = .returned (.tuple #[]) ∧ Below w.heap.size w w'
  lostN : ∀ (w : World), Calls Try.prog 16 #[.pointer none] w fun e w' => ∃ A c, e = .returned (.slice A 0 c) ∧ Below w.heap.size w w'
  rdisN : ∀ (w : World), Calls Try.prog 17 #[.pointer none] w fun e w' => ∃ A c, e = .returned (.slice A 0 c) ∧ Below w.heap.size w w'
  defectsN : ∀ (w : World), Calls Try.prog 18 #[.pointer none] w fun e w' => e = .returned (.bool false) ∧ Below w.heap.size w w'
  worstN : ∀ (w : World), Calls Try.prog 19 #[.pointer none] w fun e w' => e = .returned (.int .u8 0) ∧ Below w.heap.size w w'
  lasts : ∀ (i : UInt8) (w : World), Calls Try.prog 20 #[.int .u8 i.toNat] w fun e w' => e = .returned (.int .i64 (lsN i : Nat)) ∧ Below w.heap.size w w'
  inn : ∀ (w : World) (S : Nat → Prop) (b : Nat) (m : Rm), R w S b m → ∀ k, S k → k < w.heap.size
  next : ∀ (w w' : World) (S T : Nat → Prop) (b : Nat) (m : Rm), R w S b m → Chg T w w' → (∀ k, S k → ¬ T k) → R w' S b m
theorem RmI.after {R : World → (Nat → Prop) → Nat → Rm → Prop} (H : RmI R) {w w' : World} {S : Nat → Prop} {b : Nat} {m : Rm} (h : R w S b m) (hb : Below w.heap.size w w') : R w' S b m :=
  H.next w w' S (fun _ => False) b m h ⟨hb.os, hb.tape, hb.output, hb.size, fun k hk _ => hb.block k hk⟩ (fun _ _ h => h)
theorem chg_from18 {W w w' : World} {S : Nat → Prop} (hB : Below W.heap.size W w) (hS : ∀ k, S k → W.heap.size ≤ k) (hc : Chg S w w') : Below W.heap.size W w' :=
  hB.trans (Chg.below hc hB.size (fun k hk hs => by have := hS k hs; omega))
theorem results_cell_one18 {P : Program} {fn : Func} {p : Tmp} {ty : TypeId} (h : fn.results = #[.cell p ty]) (tmps : Array Value) (w : World) (g : Nat) (t : TypeId) (cs : Array Value) (d : TypeDesc)
    (hp : tmps.getD p undef = .pointer (some ⟨g, 0, none⟩)) (hg : Blk w g t cs)
    (hu : P.underlying ty = some d) (hd : (match d with | .struct _ | .array _ _ => true | _ => false) = true) (hi : (P.info? ty).map (·.size) = some cs.size) :
    (results fn tmps).run P w = .ok (.agg cs) w := by
  have hp' : tmps[p]?.getD undef = .pointer (some ⟨g, 0, none⟩) := by simpa using hp
  simp [results, h, hp', asAddr, run_loadVar_row w g t ty cs (0, 0) d hg hu hd hi]
set_option maxHeartbeats 1000000 in
theorem of18_any (o : On) (w : World) :
    Calls Try.prog 9 #[.agg #[.int .u8 o.lv.toNat, .int .u16 o.me.toNat, .int .u8 o.iv.toNat, .string ⟨o.ma.toArray⟩]] w fun e w' => e = .returned (.agg #[.int .u8 o.lv.toNat, .int .u16 o.me.toNat, .int .u8 o.iv.toNat, .string ⟨o.ma.toArray⟩]) ∧ Below w.heap.size w w' := by
  have HB0 : Hid (Below w.heap.size w ((w.alloc (.cells #[.int .u8 o.lv.toNat, .int .u16 o.me.toNat, .int .u8 o.iv.toNat, .string ⟨o.ma.toArray⟩] 24)).alloc (.cells #[.int .u8 0, .int .u16 0, .int .u8 0, .string ⟨#[]⟩] 33))) := Lib.hid (((Below.refl _ _).alloc (Nat.le_refl _) _).alloc (by simp) _)
  have HR0 : Hid (Blk ((w.alloc (.cells #[.int .u8 o.lv.toNat, .int .u16 o.me.toNat, .int .u8 o.iv.toNat, .string ⟨o.ma.toArray⟩] 24)).alloc (.cells #[.int .u8 0, .int .u16 0, .int .u8 0, .string ⟨#[]⟩] 33)) (w.heap.size + 1) 33 #[.int .u8 0, .int .u16 0, .int .u8 0, .string ⟨#[]⟩]) := Lib.hid (by
    have := Blk.new (w.alloc (.cells #[.int .u8 o.lv.toNat, .int .u16 o.me.toNat, .int .u8 o.iv.toNat, .string ⟨o.ma.toArray⟩] 24)) 33 #[.int .u8 0, .int .u16 0, .int .u8 0, .string ⟨#[]⟩]
    simpa using this)
  go_enter Try.func9, Try.ntmps9
  go_wp2_with (refine wpList_store_row rfl 33 (.tmp 2) (.tmp 11) rfl (w.heap.size + 1) rfl _ rfl 33 _ HR0.out (by kernel_rfl) rfl (by kernel_rfl) ?_)
  refine bodyPost_ret (v := .agg #[.int .u8 o.lv.toNat, .int .u16 o.me.toNat, .int .u8 o.iv.toNat, .string ⟨o.ma.toArray⟩]) (results_cell_one18 (p := 2) (by kernel_rfl) _ _ (w.heap.size + 1) 33 _ _ rfl (Blk.row HR0.out _) Try.underlying33 rfl (by kernel_rfl)) rfl ?_
  exact ⟨rfl, below_row HB0.out (by omega) _⟩
set_option maxHeartbeats 1000000 in
theorem check18_any (c : Ck) (w : World) :
    Calls Try.prog 14 #[.agg #[.int .u8 c.l.toNat, .bool c.r, .int .u8 c.i.toNat, .int .u32 c.q.toNat, .int .u16 c.m.toNat, .string ⟨c.a.toArray⟩]] w fun e w' => e = .returned (.agg #[.int .u8 c.l.toNat, .bool c.r, .int .u8 c.i.toNat, .int .u32 c.q.toNat, .int .u16 c.m.toNat, .string ⟨c.a.toArray⟩]) ∧ Below w.heap.size w w' := by
  have HB0 : Hid (Below w.heap.size w ((w.alloc (.cells #[.int .u8 c.l.toNat, .bool c.r, .int .u8 c.i.toNat, .int .u32 c.q.toNat, .int .u16 c.m.toNat, .string ⟨c.a.toArray⟩] 40)).alloc (.cells #[.int .u8 0, .bool false, .int .u8 0, .int .u32 0, .int .u16 0, .string ⟨#[]⟩] 44))) := Lib.hid (((Below.refl _ _).alloc (Nat.le_refl _) _).alloc (by simp) _)
  have HR0 : Hid (Blk ((w.alloc (.cells #[.int .u8 c.l.toNat, .bool c.r, .int .u8 c.i.toNat, .int .u32 c.q.toNat, .int .u16 c.m.toNat, .string ⟨c.a.toArray⟩] 40)).alloc (.cells #[.int .u8 0, .bool false, .int .u8 0, .int .u32 0, .int .u16 0, .string ⟨#[]⟩] 44)) (w.heap.size + 1) 44 #[.int .u8 0, .bool false, .int .u8 0, .int .u32 0, .int .u16 0, .string ⟨#[]⟩]) := Lib.hid (by
    have := Blk.new (w.alloc (.cells #[.int .u8 c.l.toNat, .bool c.r, .int .u8 c.i.toNat, .int .u32 c.q.toNat, .int .u16 c.m.toNat, .string ⟨c.a.toArray⟩] 40)) 44 #[.int .u8 0, .bool false, .int .u8 0, .int .u32 0, .int .u16 0, .string ⟨#[]⟩]
    simpa using this)
  go_enter Try.func14, Try.ntmps14
  go_wp2_with (refine wpList_store_row rfl 44 (.tmp 2) (.tmp 15) rfl (w.heap.size + 1) rfl _ rfl 44 _ HR0.out (by kernel_rfl) rfl (by kernel_rfl) ?_)
  refine bodyPost_ret (v := .agg #[.int .u8 c.l.toNat, .bool c.r, .int .u8 c.i.toNat, .int .u32 c.q.toNat, .int .u16 c.m.toNat, .string ⟨c.a.toArray⟩]) (results_cell_one18 (p := 2) (by kernel_rfl) _ _ (w.heap.size + 1) 44 _ _ rfl (Blk.row HR0.out _) Try.underlying44 rfl (by kernel_rfl)) rfl ?_
  exact ⟨rfl, below_row HB0.out (by omega) _⟩
def wk18a : List UInt8 := mdV [] [97]
theorem wk18_m : mdE [] [97] = 0 := by decide +kernel
theorem maid18_any (w : World) : Calls Try.prog 22 #[] w fun e w' => e = .returned (.string ⟨wk18a.toArray⟩) ∧ Below w.heap.size w w' := by
  have KR : Hid (∀ w, Calls Try.prog 35 #[.string ⟨#[]⟩, .string ⟨#[97]⟩] w fun e w' => e = .returned (.tuple #[.string ⟨wk18a.toArray⟩, .int .i64 0]) ∧ Below w.heap.size w w') := Lib.hid (fun w => by
    have := refput_any [] [97] w (by decide) (by decide)
    rw [wk18_m, show mdV [] [97] = wk18a from rfl] at this
    exact this)
  obtain ⟨V, hV⟩ : ∃ V, wk18a = V := ⟨_, rfl⟩
  rw [hV] at KR ⊢
  clear hV
  go_enter Try.func22, Try.ntmps22
  go_wp2_with fail
  refine (KR.out _).mono ?_
  rintro r w1 ⟨rfl, hb⟩
  go_wp2
  go_ret
  exact ⟨rfl, hb⟩
set_option maxHeartbeats 1000000 in
theorem same18_any (A B : Option Addr) (c d : Nat) (l : List UInt16) (w : World) (hl : l.length ≤ 1000000) (hA : Els 1 u16c w A l) (hB : Els 1 u16c w B l) :
    Calls Try.prog 31 #[.slice A l.length c, .slice B l.length d] w fun e w' => e = .returned (.bool true) ∧ Below w.heap.size w w' := by
  have HA := Lib.hid hA
  have HBB := Lib.hid hB
  obtain ⟨n, hn⟩ : ∃ n, l.length = n := ⟨_, rfl⟩
  have HN := Lib.hid hn
  rw [hn] at hl ⊢
  clear hA hB hn
  go_enter Try.func31, Try.ntmps31
  go_wp2
  go_loopw [5] (fun i wr => ∃ k : Nat, k ≤ n ∧ i = .int .i64 k ∧ Hid (Below w.heap.size w wr)) (fun i _ => n - (intOf i).toNat)
  case atStart => exact ⟨0, Nat.zero_le _, rfl, Lib.hid (Below.refl _ _)⟩
  case round =>
    obtain ⟨k, hk, rfl, HB⟩ := hrel
    by_cases hlt : k < n
    · obtain ⟨x, hx⟩ : ∃ x, l[k]? = some x := ⟨_, List.getElem?_eq_getElem (by rw [HN.out]; exact hlt)⟩
      have hki : (k : Int) < n := by omega
      obtain ⟨b1, o1, rfl, hb1, c1⟩ := u16c_at (HA.out.next HB.out) hx
      obtain ⟨b2, o2, rfl, hb2, c2⟩ := u16c_at (HBB.out.next HB.out) hx
      have HLT := Lib.hid hlt
      have d1 : ((x.toNat : Int) != (x.toNat : Int)) = false := by simp
      clear hx hlt
      go_wp2_with fail
      go_quiet (fail)
      all_goals (
        go_wp2
        go_roundw
        case rel => exact ⟨k + 1, by have := HLT.out; omega, by go_num, Lib.hid (bel18 HB.out _)⟩
        case measure => have := HLT.out; simp [intOf]; omega)
    · obtain rfl : k = n := by omega
      go_wp2
      go_ret
      exact ⟨rfl, HB.out⟩
/-- an act: 0 a tick, any other a check -/
abbrev Ac := UInt8 × Ck
def acE (e : Ac) : List Value := [.int .u8 e.1.toNat, .int .u8 e.2.l.toNat, .bool e.2.r, .int .u8 e.2.i.toNat, .int .u32 e.2.q.toNat, .int .u16 e.2.m.toNat, .string ⟨e.2.a.toArray⟩]
theorem ac_at {w : World} {A : Option Addr} {l : List Ac} {i : Nat} {x : Ac} (h : Els 7 acE w A l) (hx : l[i]? = some x) : ∃ b off, A = some ⟨b, off, none⟩ ∧ b < w.heap.size ∧ w.cell? ⟨b, off + i * 7, none⟩ = some (.int .u8 x.1.toNat) ∧ w.cell? ⟨b, off + i * 7 + 1, none⟩ = some (.int .u8 x.2.l.toNat) ∧ w.cell? ⟨b, off + i * 7 + 2, none⟩ = some (.bool x.2.r) ∧ w.cell? ⟨b, off + i * 7 + 3, none⟩ = some (.int .u8 x.2.i.toNat) ∧ w.cell? ⟨b, off + i * 7 + 4, none⟩ = some (.int .u32 x.2.q.toNat) ∧ w.cell? ⟨b, off + i * 7 + 5, none⟩ = some (.int .u16 x.2.m.toNat) ∧ w.cell? ⟨b, off + i * 7 + 6, none⟩ = some (.string ⟨x.2.a.toArray⟩) := by
  obtain ⟨hi, rfl⟩ := List.getElem?_eq_some_iff.1 hx
  obtain ⟨b, off, e, hlt, hc⟩ := h (by omega)
  exact ⟨b, off, e, hlt, hc i hi 0 _ rfl, hc i hi 1 _ rfl, hc i hi 2 _ rfl, hc i hi 3 _ rfl, hc i hi 4 _ rfl, hc i hi 5 _ rfl, hc i hi 6 _ rfl⟩
/-- is it too much to be looked at -/
def grB (o : On) (os : List UInt16) (l : List Ac) : Bool := decide (150 < l.length) || (decide (20 < os.length) || (decide (100 < o.ma.length) || l.any (fun e => decide (100 < e.2.a.length))))
theorem grB_no {o : On} {os : List UInt16} {l : List Ac} (h : grB o os l = false) : l.length ≤ 150 ∧ os.length ≤ 20 ∧ o.ma.length ≤ 100 ∧ ∀ e ∈ l, e.2.a.length ≤ 100 := by
  unfold grB at h
  simp only [Bool.or_eq_false_iff, decide_eq_false_iff_not, List.any_eq_false, decide_eq_true_eq] at h
  exact ⟨by omega, by omega, by omega, fun e he => by have := h.2.2.2 e he; omega⟩
set_option maxHeartbeats 2000000 in
theorem great18_any (o : On) (A B : Option Addr) (ca cb : Nat) (os : List UInt16) (l : List Ac) (w : World) (hl : Els 7 acE w B l) :
    Calls Try.prog 6 #[.agg #[.int .u8 o.lv.toNat, .int .u16 o.me.toNat, .int .u8 o.iv.toNat, .string ⟨o.ma.toArray⟩], .slice A os.length ca, .slice B l.length cb] w fun e w' => e = .returned (.bool (grB o os l)) ∧ Below w.heap.size w w' := by
  have HB0 : Hid (Below w.heap.size w (w.alloc (.cells #[.int .u8 o.lv.toNat, .int .u16 o.me.toNat, .int .u8 o.iv.toNat, .string ⟨o.ma.toArray⟩] 24))) := Lib.hid ((Below.refl _ _).alloc (Nat.le_refl _) _)
  have HK : Hid (Blk (w.alloc (.cells #[.int .u8 o.lv.toNat, .int .u16 o.me.toNat, .int .u8 o.iv.toNat, .string ⟨o.ma.toArray⟩] 24)) w.heap.size 24 #[.int .u8 o.lv.toNat, .int .u16 o.me.toNat, .int .u8 o.iv.toNat, .string ⟨o.ma.toArray⟩]) := Lib.hid (Blk.new _ _ _)
  have HE := Lib.hid hl
  obtain ⟨n, hn⟩ : ∃ n, l.length = n := ⟨_, rfl⟩
  obtain ⟨m, hm⟩ : ∃ m, os.length = m := ⟨_, rfl⟩
  obtain ⟨q, hq⟩ : ∃ q, o.ma.length = q := ⟨_, rfl⟩
  have HN := Lib.hid (And.intro hn (And.intro hm hq))
  have hsz : (⟨o.ma.toArray⟩ : ByteArray).size = q := by rw [← hq]; simp [ByteArray.size]
  rw [hn, hm]
  clear hl hn hm
  have HQ := Lib.hid hq
  clear hq
  have k0 := HK.out.cell 0
  have k1 := HK.out.cell 1
  have k2 := HK.out.cell 2
  have k3 := HK.out.cell 3
  simp only [List.getElem?_toArray, List.getElem?_cons_succ, List.getElem?_cons_zero] at k0 k1 k2 k3
  by_cases h1 : 150 < n
  · have p1 : (150 : Int) < (n : Int) := by omega
    have H1 := Lib.hid h1
    clear h1
    go_enter Try.func6, Try.ntmps6
    go_wp2
    go_ret
    exact ⟨by unfold grB; rw [HN.out.1, decide_eq_true H1.out]; rfl, HB0.out⟩
  have p1 : ¬ (150 : Int) < (n : Int) := by omega
  by_cases h2 : 20 < m
  · have p2 : (20 : Int) < (m : Int) := by omega
    have H2 := Lib.hid h2
    have H1 := Lib.hid h1
    clear h1 h2
    go_enter Try.func6, Try.ntmps6
    go_wp2
    go_ret
    exact ⟨by unfold grB; rw [HN.out.2.1, decide_eq_true H2.out]; simp, HB0.out⟩
  have p2 : ¬ (20 : Int) < (m : Int) := by omega
  by_cases h3 : 100 < q
  · have p3 : (100 : Int) < (q : Int) := by omega
    have H3 := Lib.hid h3
    clear h1 h2 h3
    go_enter Try.func6, Try.ntmps6
    go_wp2
    go_ret
    exact ⟨by unfold grB; rw [HN.out.2.2, decide_eq_true H3.out]; simp, HB0.out⟩
  have p3 : ¬ (100 : Int) < (q : Int) := by omega
  have H123 := Lib.hid (And.intro h1 (And.intro h2 h3))
  have hn150 : (n : Int) ≤ 150 := by omega
  clear h1 h2 h3
  go_enter Try.func6, Try.ntmps6
  go_wp2
  clear k0 k1 k2 k3 p1 p2 p3 hsz
  go_loopw [7] (fun i wr => ∃ k : Nat, k ≤ n ∧ i = .int .i64 k ∧ Hid ((l.take k).any (fun e => decide (100 < e.2.a.length)) = false) ∧ Hid (Below w.heap.size w wr)) (fun i _ => n - (intOf i).toNat)
  case atStart => exact ⟨0, Nat.zero_le _, rfl, Lib.hid rfl, HB0⟩
  case round =>
    obtain ⟨k, hk, rfl, HS, HB⟩ := hrel
    by_cases hlt : k < n
    · obtain ⟨x, hx⟩ : ∃ x, l[k]? = some x := ⟨_, List.getElem?_eq_getElem (by rw [HN.out.1]; exact hlt)⟩
      have hki : (k : Int) < n := by omega
      obtain ⟨b1, o1, rfl, hb1, c0, c1, c2, c3, c4, c5, c6⟩ := ac_at (HE.out.next HB.out) hx
      have HX := Lib.hid hx
      have HLT := Lib.hid hlt
      obtain ⟨z, hz⟩ : ∃ z, x.2.a.length = z := ⟨_, rfl⟩
      have hsz : (⟨x.2.a.toArray⟩ : ByteArray).size = z := by rw [← hz]; simp [ByteArray.size]
      have HZ := Lib.hid hz
      clear hx hlt hz c0 c1 c2 c3 c4 c5
      by_cases h4 : 100 < z
      · have p4 : (100 : Int) < (z : Int) := by omega
        have H4 := Lib.hid h4
        clear h4
        go_wp2
        go_ret
        exact ⟨by unfold grB; rw [any_yes HX.out (by simp only [HZ.out]; exact decide_eq_true H4.out)]; simp, HB.out⟩
      · have p4 : ¬ (100 : Int) < (z : Int) := by omega
        have H4 := Lib.hid h4
        clear h4
        go_wp2
        go_roundw
        case rel => exact ⟨k + 1, by have := HLT.out; omega, by go_num, Lib.hid (any_take HX.out HS.out (by simp only [HZ.out]; exact decide_eq_false H4.out)), HB⟩
        case measure => have := HLT.out; simp [intOf]; omega
    · obtain rfl : k = n := by omega
      go_wp2
      go_ret
      exact ⟨by
        have h := HS.out
        rw [List.take_of_length_le (by rw [HN.out.1]; exact Nat.le_refl _)] at h
        unfold grB
        rw [h, HN.out.1, HN.out.2.1, HN.out.2.2, decide_eq_false H123.out.1, decide_eq_false H123.out.2.1, decide_eq_false H123.out.2.2]
        rfl, HB.out⟩
end Go.Proofs.Ytkmdgpfaaniibaa
