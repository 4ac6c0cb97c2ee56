/- Layer 15: the document's Put, PutReply; the law's of, ofReply. -/
import Derived.Test.YtieopgmmjpmflaaLt
import Derived.Test.YtieopgmmjpmflaaLaw12
import Derived.Test.YtieopgmmjpmflaaCfTk
import Derived.Test.YtieopgmmjpmflaaRefNum
import Derived.Deep.RegionHeld3
import Derived.Deep.RegionLaw
import Derived.Deep.DeepCutAuto
namespace Go.Proofs.Ytieopgmmjpmflaa
open Go.RowKit
set_option linter.unusedVariables false
set_option linter.unusedSimpArgs false
set_option maxRecDepth 100000

/-- six cells as bytes -/
theorem str_six {w : World} {g o : Nat} {x : A6} (h0 : w.cell? ⟨g, o + 0, none⟩ = some (.int .u8 x.a.toNat)) (h1 : w.cell? ⟨g, o + 1, none⟩ = some (.int .u8 x.b.toNat)) (h2 : w.cell? ⟨g, o + 2, none⟩ = some (.int .u8 x.c.toNat)) (h3 : w.cell? ⟨g, o + 3, none⟩ = some (.int .u8 x.d.toNat)) (h4 : w.cell? ⟨g, o + 4, none⟩ = some (.int .u8 x.e.toNat)) (h5 : w.cell? ⟨g, o + 5, none⟩ = some (.int .u8 x.f.toNat)) : Str w (.slice (some ⟨g, o, none⟩) 6 6) x.l := by
  refine ⟨_, 6, rfl, by simp, fun _ => ⟨_, rfl, fun k u hu => ?_⟩⟩
  have hadd : (⟨g, o, none⟩ : Addr).add k = ⟨g, o + k, none⟩ := by unfold Addr.add; split <;> simp_all
  rw [hadd]
  match k, hu with
  | 0, hu => cases hu; exact h0
  | 1, hu => cases hu; exact h1
  | 2, hu => cases hu; exact h2
  | 3, hu => cases hu; exact h3
  | 4, hu => cases hu; exact h4
  | 5, hu => cases hu; exact h5
theorem tc_str {w : World} {g : Nat} {ty : TypeId} {t : Tc} (h : Blk w g ty #[.int .u8 t.l.toNat, .int .u32 t.q.toNat, .int .u8 t.k.toNat, .int .u8 t.o.a.toNat, .int .u8 t.o.b.toNat, .int .u8 t.o.c.toNat, .int .u8 t.o.d.toNat, .int .u8 t.o.e.toNat, .int .u8 t.o.f.toNat, .int .u8 t.t.a.toNat, .int .u8 t.t.b.toNat, .int .u8 t.t.c.toNat, .int .u8 t.t.d.toNat, .int .u8 t.t.e.toNat, .int .u8 t.t.f.toNat]) : Str w (.slice (some ⟨g, 3, none⟩) 6 6) t.o.l ∧ Str w (.slice (some ⟨g, 9, none⟩) 6 6) t.t.l :=
  ⟨str_six (h.cell 3) (h.cell 4) (h.cell 5) (h.cell 6) (h.cell 7) (h.cell 8), str_six (h.cell 9) (h.cell 10) (h.cell 11) (h.cell 12) (h.cell 13) (h.cell 14)⟩
theorem ry_str {w : World} {g : Nat} {ty : TypeId} {r : Ry} (h : Blk w g ty #[.int .u8 r.l.toNat, .int .u32 r.q.toNat, .int .u8 r.k.toNat, .bool r.s, .bool r.e, .int .u8 r.i.a.toNat, .int .u8 r.i.b.toNat, .int .u8 r.i.c.toNat, .int .u8 r.i.d.toNat, .int .u8 r.i.e.toNat, .int .u8 r.i.f.toNat, .int .u8 r.u.a.toNat, .int .u8 r.u.b.toNat, .int .u8 r.u.c.toNat, .int .u8 r.u.d.toNat, .int .u8 r.u.e.toNat, .int .u8 r.u.f.toNat]) : Str w (.slice (some ⟨g, 5, none⟩) 6 6) r.i.l ∧ Str w (.slice (some ⟨g, 11, none⟩) 6 6) r.u.l :=
  ⟨str_six (h.cell 5) (h.cell 6) (h.cell 7) (h.cell 8) (h.cell 9) (h.cell 10), str_six (h.cell 11) (h.cell 12) (h.cell 13) (h.cell 14) (h.cell 15) (h.cell 16)⟩
theorem num4_any (q : UInt32) (w : World) :
    Calls Try.prog 21 #[.int .u64 q.toNat, .int .i64 4] w fun e w' => e = .returned (.string ⟨(dig 4 q.toNat).toArray⟩) ∧ Below w.heap.size w w' := by
  have := q.toNat_lt
  exact numstr_any 4 (q.toNat : Int) w (by omega) (by omega) (by omega)
theorem num1_any (k : UInt8) (w : World) :
    Calls Try.prog 21 #[.int .u64 k.toNat, .int .i64 1] w fun e w' => e = .returned (.string ⟨#[k]⟩) ∧ Below w.heap.size w w' := by
  have := k.toNat_lt
  have h := numstr_any 1 (k.toNat : Int) w (by omega) (by omega) (by omega)
  have e : dig 1 ((k.toNat : Int)).toNat = [k] := by
    simp only [dig, Int.toNat_natCast, List.nil_append]
    rw [Nat.mod_eq_of_lt (by omega)]
    simp
  rw [e] at h
  exact h
set_option maxHeartbeats 4000000 in
theorem refput15_any (t : Tc) (w : World) :
    Calls Try.prog 7 #[TcV t] w fun e w' => e = .returned (.tuple #[PdV (tcP t) none 0, .int .i64 (tcE t : Nat)]) ∧ Below w.heap.size w w' := by
  have HB0 : Hid (Below w.heap.size w ((w.alloc (.cells #[.int .u8 t.l.toNat, .int .u32 t.q.toNat, .int .u8 t.k.toNat, .int .u8 t.o.a.toNat, .int .u8 t.o.b.toNat, .int .u8 t.o.c.toNat, .int .u8 t.o.d.toNat, .int .u8 t.o.e.toNat, .int .u8 t.o.f.toNat, .int .u8 t.t.a.toNat, .int .u8 t.t.b.toNat, .int .u8 t.t.c.toNat, .int .u8 t.t.d.toNat, .int .u8 t.t.e.toNat, .int .u8 t.t.f.toNat] 26)).alloc (.cells #[.int .u8 0, .int .u8 0, .int .u8 0, .string ⟨#[]⟩, .slice none 0 0] 39))) := Lib.hid (((Below.refl _ _).alloc (Nat.le_refl _) _).alloc (by simp) _)
  have HK0 : Hid (Blk ((w.alloc (.cells #[.int .u8 t.l.toNat, .int .u32 t.q.toNat, .int .u8 t.k.toNat, .int .u8 t.o.a.toNat, .int .u8 t.o.b.toNat, .int .u8 t.o.c.toNat, .int .u8 t.o.d.toNat, .int .u8 t.o.e.toNat, .int .u8 t.o.f.toNat, .int .u8 t.t.a.toNat, .int .u8 t.t.b.toNat, .int .u8 t.t.c.toNat, .int .u8 t.t.d.toNat, .int .u8 t.t.e.toNat, .int .u8 t.t.f.toNat] 26)).alloc (.cells #[.int .u8 0, .int .u8 0, .int .u8 0, .string ⟨#[]⟩, .slice none 0 0] 39)) w.heap.size 26 #[.int .u8 t.l.toNat, .int .u32 t.q.toNat, .int .u8 t.k.toNat, .int .u8 t.o.a.toNat, .int .u8 t.o.b.toNat, .int .u8 t.o.c.toNat, .int .u8 t.o.d.toNat, .int .u8 t.o.e.toNat, .int .u8 t.o.f.toNat, .int .u8 t.t.a.toNat, .int .u8 t.t.b.toNat, .int .u8 t.t.c.toNat, .int .u8 t.t.d.toNat, .int .u8 t.t.e.toNat, .int .u8 t.t.f.toNat]) := Lib.hid ((Blk.new _ _ _).alloc _)
  have HR0 : Hid (Blk ((w.alloc (.cells #[.int .u8 t.l.toNat, .int .u32 t.q.toNat, .int .u8 t.k.toNat, .int .u8 t.o.a.toNat, .int .u8 t.o.b.toNat, .int .u8 t.o.c.toNat, .int .u8 t.o.d.toNat, .int .u8 t.o.e.toNat, .int .u8 t.o.f.toNat, .int .u8 t.t.a.toNat, .int .u8 t.t.b.toNat, .int .u8 t.t.c.toNat, .int .u8 t.t.d.toNat, .int .u8 t.t.e.toNat, .int .u8 t.t.f.toNat] 26)).alloc (.cells #[.int .u8 0, .int .u8 0, .int .u8 0, .string ⟨#[]⟩, .slice none 0 0] 39)) (w.heap.size + 1) 39 #[.int .u8 0, .int .u8 0, .int .u8 0, .string ⟨#[]⟩, .slice none 0 0]) := Lib.hid (by
    have := Blk.new (w.alloc (.cells #[.int .u8 t.l.toNat, .int .u32 t.q.toNat, .int .u8 t.k.toNat, .int .u8 t.o.a.toNat, .int .u8 t.o.b.toNat, .int .u8 t.o.c.toNat, .int .u8 t.o.d.toNat, .int .u8 t.o.e.toNat, .int .u8 t.o.f.toNat, .int .u8 t.t.a.toNat, .int .u8 t.t.b.toNat, .int .u8 t.t.c.toNat, .int .u8 t.t.d.toNat, .int .u8 t.t.e.toNat, .int .u8 t.t.f.toNat] 26)) 39 #[.int .u8 0, .int .u8 0, .int .u8 0, .string ⟨#[]⟩, .slice none 0 0]
    simpa using this)
  show Calls _ _ #[.agg #[.int .u8 t.l.toNat, .int .u32 t.q.toNat, .int .u8 t.k.toNat, .int .u8 t.o.a.toNat, .int .u8 t.o.b.toNat, .int .u8 t.o.c.toNat, .int .u8 t.o.d.toNat, .int .u8 t.o.e.toNat, .int .u8 t.o.f.toNat, .int .u8 t.t.a.toNat, .int .u8 t.t.b.toNat, .int .u8 t.t.c.toNat, .int .u8 t.t.d.toNat, .int .u8 t.t.e.toNat, .int .u8 t.t.f.toNat]] _ _
  by_cases h7 : 7 < t.l.toNat
  · have d7 : decide ((7 : Int) < (t.l.toNat : Int)) = true := by simp; omega
    have HE : Hid (tcP t = pd0 ∧ tcE t = 2) := Lib.hid (by
      have e : tcE t = 2 := by unfold tcE; rw [if_pos h7]
      exact ⟨by unfold tcP; rw [if_neg (by omega)], e⟩)
    have p7 : (7 : Int) < (t.l.toNat : Int) := by omega
    clear h7
    have j0 := Blk.cell HK0.out 0
    simp only [List.getElem?_toArray, List.getElem?_cons_succ, List.getElem?_cons_zero] at j0
    go_enter Try.func7, Try.ntmps7
    go_wp2_with (refine wpList_store_row rfl 39 (.tmp 2) (.tmp 8) rfl (w.heap.size + 1) rfl _ rfl 39 _ HR0.out (by kernel_rfl) rfl (by kernel_rfl) ?_)
    refine bodyPost_ret (v := .tuple #[.agg #[.int .u8 0, .int .u8 0, .int .u8 0, .string ⟨#[]⟩, .slice none 0 0], .int .i64 2]) (results_cell_slot (p := 2) (q := 3) (by kernel_rfl) _ _ (w.heap.size + 1) 39 _ _ rfl (Blk.row HR0.out _) Try.underlying39 rfl (by kernel_rfl) _ rfl) rfl ?_
    exact ⟨by rw [HE.out.1, HE.out.2]; rfl, below_row HB0.out (by omega) _⟩
  · have p7 : ¬ (7 : Int) < (t.l.toNat : Int) := by omega
    have hE : tcE t = 0 := by unfold tcE; rw [if_neg h7]
    obtain ⟨D, hD⟩ : ∃ X, dig 4 t.q.toNat = X := ⟨_, rfl⟩
    obtain ⟨O, hO⟩ : ∃ X, t.o.l = X := ⟨_, rfl⟩
    obtain ⟨T, hT⟩ : ∃ X, t.t.l = X := ⟨_, rfl⟩
    obtain ⟨X1, hX1⟩ : ∃ X, D ++ [t.k] = X := ⟨_, rfl⟩
    obtain ⟨X2, hX2⟩ : ∃ X, X1 ++ O = X := ⟨_, rfl⟩
    obtain ⟨X, hX⟩ : ∃ X, X2 ++ T = X := ⟨_, rfl⟩
    have l0 : D.length = 4 := by rw [← hD, dig_len]
    have l1 : X1.length = 5 := by rw [← hX1]; simp [l0]
    have l2 : X2.length = 11 := by rw [← hX2, ← hO]; simp [l1, A6.l]
    have l3 : T.length = 6 := by rw [← hT]; rfl
    have lO : O.length = 6 := by rw [← hO]; rfl
    have hS : tcS t = X := by rw [← hX, ← hX2, ← hX1, ← hD, ← hO, ← hT]; unfold tcS; simp
    have HE : Hid (tcP t = ⟨t.l, 5, 128, X, []⟩ ∧ tcE t = 0) := Lib.hid ⟨by rw [tcP_ok hE, hS], hE⟩
    have a1 : ∀ w : World, (Op.stringOp .add ⟨D.toArray⟩ ⟨#[t.k]⟩).run Try.prog w = .ok (.string ⟨X1.toArray⟩) w := fun w => by rw [← hX1]; exact run_string_add_lists w D [t.k] (by omega) (by simp)
    have a2 : ∀ w : World, (Op.stringOp .add ⟨X1.toArray⟩ ⟨O.toArray⟩).run Try.prog w = .ok (.string ⟨X2.toArray⟩) w := fun w => by rw [← hX2]; exact run_string_add_lists w X1 O (by omega) (by omega)
    have a3 : ∀ w : World, (Op.stringOp .add ⟨X2.toArray⟩ ⟨T.toArray⟩).run Try.prog w = .ok (.string ⟨X.toArray⟩) w := fun w => by rw [← hX]; exact run_string_add_lists w X2 T (by omega) (by omega)
    have HOT := Lib.hid (And.intro hO hT)
    have K1 := Lib.hid (fun w => num4_any t.q w)
    have K2 := Lib.hid (fun w => num1_any t.k w)
    rw [hD] at K1
    have tcs : ∀ {w : World} {g : Nat}, Blk w g 26 #[.int .u8 t.l.toNat, .int .u32 t.q.toNat, .int .u8 t.k.toNat, .int .u8 t.o.a.toNat, .int .u8 t.o.b.toNat, .int .u8 t.o.c.toNat, .int .u8 t.o.d.toNat, .int .u8 t.o.e.toNat, .int .u8 t.o.f.toNat, .int .u8 t.t.a.toNat, .int .u8 t.t.b.toNat, .int .u8 t.t.c.toNat, .int .u8 t.t.d.toNat, .int .u8 t.t.e.toNat, .int .u8 t.t.f.toNat] → Str w (.slice (some ⟨g, 3, none⟩) 6 6) O ∧ Str w (.slice (some ⟨g, 9, none⟩) 6 6) T := fun h => by rw [← hO, ← hT]; exact tc_str h
    have TCS := Lib.hid (fun w g => @tcs w g)
    have hwq : IntKind.u64.wrap (t.q.toNat : Int) = (t.q.toNat : Int) := by have := t.q.toNat_lt; simp [IntKind.wrap, IntKind.signed, IntKind.bits]; omega
    have hwk : IntKind.u64.wrap (t.k.toNat : Int) = (t.k.toNat : Int) := by have := t.k.toNat_lt; simp [IntKind.wrap, IntKind.signed, IntKind.bits]; omega
    clear tcs h7 hE hD hO hT hX1 hX2 hX l0 l1 l2 l3 lO hS
    have HKd : Hid (Blk ((w.alloc (.cells #[.int .u8 t.l.toNat, .int .u32 t.q.toNat, .int .u8 t.k.toNat, .int .u8 t.o.a.toNat, .int .u8 t.o.b.toNat, .int .u8 t.o.c.toNat, .int .u8 t.o.d.toNat, .int .u8 t.o.e.toNat, .int .u8 t.o.f.toNat, .int .u8 t.t.a.toNat, .int .u8 t.t.b.toNat, .int .u8 t.t.c.toNat, .int .u8 t.t.d.toNat, .int .u8 t.t.e.toNat, .int .u8 t.t.f.toNat] 26)).alloc (.cells #[.int .u8 0, .int .u8 0, .int .u8 0, .string ⟨#[]⟩, .slice none 0 0] 39)).drew w.heap.size 26 #[.int .u8 t.l.toNat, .int .u32 t.q.toNat, .int .u8 t.k.toNat, .int .u8 t.o.a.toNat, .int .u8 t.o.b.toNat, .int .u8 t.o.c.toNat, .int .u8 t.o.d.toNat, .int .u8 t.o.e.toNat, .int .u8 t.o.f.toNat, .int .u8 t.t.a.toNat, .int .u8 t.t.b.toNat, .int .u8 t.t.c.toNat, .int .u8 t.t.d.toNat, .int .u8 t.t.e.toNat, .int .u8 t.t.f.toNat]) := Lib.hid (Blk.drew HK0.out)
    have HRd : Hid (Blk ((w.alloc (.cells #[.int .u8 t.l.toNat, .int .u32 t.q.toNat, .int .u8 t.k.toNat, .int .u8 t.o.a.toNat, .int .u8 t.o.b.toNat, .int .u8 t.o.c.toNat, .int .u8 t.o.d.toNat, .int .u8 t.o.e.toNat, .int .u8 t.o.f.toNat, .int .u8 t.t.a.toNat, .int .u8 t.t.b.toNat, .int .u8 t.t.c.toNat, .int .u8 t.t.d.toNat, .int .u8 t.t.e.toNat, .int .u8 t.t.f.toNat] 26)).alloc (.cells #[.int .u8 0, .int .u8 0, .int .u8 0, .string ⟨#[]⟩, .slice none 0 0] 39)).drew (w.heap.size + 1) 39 #[.int .u8 0, .int .u8 0, .int .u8 0, .string ⟨#[]⟩, .slice none 0 0]) := Lib.hid (Blk.drew HR0.out)
    have HBd : Hid (Below w.heap.size w ((w.alloc (.cells #[.int .u8 t.l.toNat, .int .u32 t.q.toNat, .int .u8 t.k.toNat, .int .u8 t.o.a.toNat, .int .u8 t.o.b.toNat, .int .u8 t.o.c.toNat, .int .u8 t.o.d.toNat, .int .u8 t.o.e.toNat, .int .u8 t.o.f.toNat, .int .u8 t.t.a.toNat, .int .u8 t.t.b.toNat, .int .u8 t.t.c.toNat, .int .u8 t.t.d.toNat, .int .u8 t.t.e.toNat, .int .u8 t.t.f.toNat] 26)).alloc (.cells #[.int .u8 0, .int .u8 0, .int .u8 0, .string ⟨#[]⟩, .slice none 0 0] 39)).drew) := Lib.hid HB0.out.drew
    have cvo := (TCS.out _ _ HKd.out).1.conv
    have cvt := (TCS.out _ _ HKd.out).2.conv
    have j0 := Blk.cell HK0.out 0
    have j1 := Blk.cell HK0.out 1
    have j2 := Blk.cell HK0.out 2
    simp only [List.getElem?_toArray, List.getElem?_cons_succ, List.getElem?_cons_zero] at j0 j1 j2
    have k1 := Blk.cell HKd.out 1
    have k2 := Blk.cell HKd.out 2
    simp only [List.getElem?_toArray, List.getElem?_cons_succ, List.getElem?_cons_zero] at k1 k2
    go_enter Try.func7, Try.ntmps7
    go_upto_region 3 with (fail)
    go_cut [4] (fun a wx => a = .string ⟨X.toArray⟩ ∧ Hid (Blk wx w.heap.size 26 #[.int .u8 t.l.toNat, .int .u32 t.q.toNat, .int .u8 t.k.toNat, .int .u8 t.o.a.toNat, .int .u8 t.o.b.toNat, .int .u8 t.o.c.toNat, .int .u8 t.o.d.toNat, .int .u8 t.o.e.toNat, .int .u8 t.o.f.toNat, .int .u8 t.t.a.toNat, .int .u8 t.t.b.toNat, .int .u8 t.t.c.toNat, .int .u8 t.t.d.toNat, .int .u8 t.t.e.toNat, .int .u8 t.t.f.toNat]) ∧ Hid (Blk wx (w.heap.size + 1) 39 #[.int .u8 0, .int .u8 0, .int .u8 0, .string ⟨#[]⟩, .slice none 0 0]) ∧ Hid (Below w.heap.size w wx))
    case first =>
      go_region_law (first
        | (go_simp; go_at_call_of 21 t.q; refine (K1.out _).mono ?_; rintro r w_ ⟨rfl, hb_⟩; replace HKd := Lib.hid (HKd.out.below hb_ HKd.out.lt); replace HRd := Lib.hid (HRd.out.below hb_ HRd.out.lt); replace HBd := Lib.hid (HBd.out.trans (hb_.mono HBd.out.size)); have cvo := (TCS.out _ _ HKd.out).1.conv; have cvt := (TCS.out _ _ HKd.out).2.conv; have k1 := HKd.out.cell 1; have k2 := HKd.out.cell 2; simp only [List.getElem?_toArray, List.getElem?_cons_succ, List.getElem?_cons_zero] at  k1 k2; clear hb_)
        | (go_simp; go_at_call_of 21 t.k; refine (K2.out _).mono ?_; rintro r w_ ⟨rfl, hb_⟩; replace HKd := Lib.hid (HKd.out.below hb_ HKd.out.lt); replace HRd := Lib.hid (HRd.out.below hb_ HRd.out.lt); replace HBd := Lib.hid (HBd.out.trans (hb_.mono HBd.out.size)); have cvo := (TCS.out _ _ HKd.out).1.conv; have cvt := (TCS.out _ _ HKd.out).2.conv; have k1 := HKd.out.cell 1; have k2 := HKd.out.cell 2; simp only [List.getElem?_toArray, List.getElem?_cons_succ, List.getElem?_cons_zero] at  k1 k2; clear hb_)
        | fail "no")
      all_goals (
        go_wp2_with fail
        go_meet
        exact ⟨rfl, HKd, HRd, HBd⟩)
    obtain ⟨rfl, HK2, HR2, HB2⟩ := hcut
    clear HK0 HR0 HB0 HKd HRd HBd cvo cvt k1 k2 j0 j1 j2 K1 K2 TCS HOT
    have k0 := Blk.cell HK2.out 0
    simp only [List.getElem?_toArray, List.getElem?_cons_succ, List.getElem?_cons_zero] at k0
    go_wp2_with (refine wpList_store_row rfl 39 (.tmp 2) (.tmp 29) rfl (w.heap.size + 1) rfl _ rfl 39 _ HR2.out (by kernel_rfl) rfl (by kernel_rfl) ?_)
    refine bodyPost_ret (v := .tuple #[.agg #[.int .u8 t.l.toNat, .int .u8 5, .int .u8 128, .string ⟨X.toArray⟩, .slice none 0 0], .int .i64 0]) (results_cell_slot (p := 2) (q := 3) (by kernel_rfl) _ _ (w.heap.size + 1) 39 _ _ rfl (Blk.row HR2.out _) Try.underlying39 rfl (by kernel_rfl) _ rfl) rfl ?_
    exact ⟨by rw [HE.out.1, HE.out.2]; rfl, below_row HB2.out (by omega) _⟩
end Go.Proofs.Ytieopgmmjpmflaa
