/- Layer 15: traces and replies as values, held against each other, as arguments. -/
import Derived.Test.YtieopgmmjpmflaaLtSpec
import Derived.Test.YtieopgmmjpmflaaNumW
import Derived.Test.YtieopgmmjpmflaaFrame
import Derived.Test.YtieopgmmjpmflaaCf
import Derived.Test.YtieopgmmjpmflaaRow
namespace Go.Proofs.Ytieopgmmjpmflaa
open Go.ChangeShapes Go.WideShapes Go.ChangeAt Go.RowKit
set_option linter.unusedVariables false
set_option linter.unusedSimpArgs false
set_option maxRecDepth 100000

/-- a trace, a reply as a value -/
abbrev TcV (t : Tc) : Value := .agg #[.int .u8 t.l.toNat, .int .u32 t.q.toNat, .int .u8 t.k.toNat, .int .u8 t.o.a.toNat, .int .u8 t.o.b.toNat, .int .u8 t.o.c.toNat, .int .u8 t.o.d.toNat, .int .u8 t.o.e.toNat, .int .u8 t.o.f.toNat, .int .u8 t.t.a.toNat, .int .u8 t.t.b.toNat, .int .u8 t.t.c.toNat, .int .u8 t.t.d.toNat, .int .u8 t.t.e.toNat, .int .u8 t.t.f.toNat]
abbrev RyV (r : Ry) : Value := .agg #[.int .u8 r.l.toNat, .int .u32 r.q.toNat, .int .u8 r.k.toNat, .bool r.s, .bool r.e, .int .u8 r.i.a.toNat, .int .u8 r.i.b.toNat, .int .u8 r.i.c.toNat, .int .u8 r.i.d.toNat, .int .u8 r.i.e.toNat, .int .u8 r.i.f.toNat, .int .u8 r.u.a.toNat, .int .u8 r.u.b.toNat, .int .u8 r.u.c.toNat, .int .u8 r.u.d.toNat, .int .u8 r.u.e.toNat, .int .u8 r.u.f.toNat]
theorem a6_beq (x y : A6) : (x.l == y.l) = decide (x = y) := by
  obtain ⟨a, b, c, d, e, f⟩ := x
  obtain ⟨a', b', c', d', e', f'⟩ := y
  rw [Bool.eq_iff_iff]
  simp [A6.l]
theorem tc_same (x y : Tc) : ((x.l == y.l) && ((x.q == y.q) && ((x.k == y.k) && ((x.o.l == y.o.l) && ((x.t.l == y.t.l) && true))))) = decide (x = y) := by
  rw [a6_beq, a6_beq]
  obtain ⟨a, b, c, d, e⟩ := x
  obtain ⟨a', b', c', d', e'⟩ := y
  rw [Bool.eq_iff_iff]
  simp
theorem ry_same (x y : Ry) : ((x.l == y.l) && ((x.q == y.q) && ((x.k == y.k) && ((x.s == y.s) && ((x.e == y.e) && ((x.i.l == y.i.l) && ((x.u.l == y.u.l) && true))))))) = decide (x = y) := by
  rw [a6_beq, a6_beq]
  obtain ⟨a, b, c, d, e, f, g⟩ := x
  obtain ⟨a', b', c', d', e', f', g'⟩ := y
  rw [Bool.eq_iff_iff]
  simp
theorem cell_u32 {P : Program} {w : World} {r : Reach} {base : Nat} {t : TypeId} {v : Value} (ht : P.underlying t = some (.int .u32)) (h : Cell.okWide P w r base t v) : ∃ u : UInt32, v = .int .u32 u.toNat := by
  simp only [Cell.okWide, ht] at h
  cases v with
  | int k n =>
    simp only [Cell.ok, ht] at h
    obtain ⟨rfl, hn⟩ := h
    have hb : 0 ≤ n ∧ n ≤ 4294967295 := by
      simp [IntKind.has, IntKind.min, IntKind.max, IntKind.signed, IntKind.bits] at hn
      omega
    refine ⟨UInt32.ofNat n.toNat, congrArg _ ?_⟩
    have : n.toNat % 4294967296 = n.toNat := by omega
    simp [this]
    omega
  | _ => simp_all [Cell.ok]
set_option maxHeartbeats 1000000 in
theorem run_eqTc (x y : Tc) (w : World) : (Op.equalIn 10000 35 (TcV x) (TcV y)).run Try.prog w = .ok (decide (x = y)) w := by
  have h0 := run_equalIn_int (P := Try.prog) w 9998 5 .u8 .u8 (x.l.toNat : Int) (y.l.toNat : Int) Try.underlying5
  rw [tl_eqI] at h0
  have h1 := run_equalIn_int (P := Try.prog) w 9998 22 .u32 .u32 (x.q.toNat : Int) (y.q.toNat : Int) Try.underlying22
  rw [ck_u32] at h1
  have h2 := run_equalIn_int (P := Try.prog) w 9998 5 .u8 .u8 (x.k.toNat : Int) (y.k.toNat : Int) Try.underlying5
  rw [tl_eqI] at h2
  have h3 := run_equalIn_bytes (P := Try.prog) w 9997 24 5 6 Try.underlying24 Try.underlying5 (fun w => by have := Try.sizeOf5; exact this w) x.o.l y.o.l rfl rfl
  have h4 := run_equalIn_bytes (P := Try.prog) w 9997 24 5 6 Try.underlying24 Try.underlying5 (fun w => by have := Try.sizeOf5; exact this w) x.t.l y.t.l rfl rfl
  rw [run_equalIn_struct w 9999 35 _ _ (by rw [Program.fieldsOf, Try.underlying35]) (by kernel_rfl)]
  simp only [Program.fieldsOf, Try.underlying35]
  rw [← tc_same x y]
  refine eqs_step (by decide) (by kernel_rfl) (by kernel_rfl) h0 ?_
  refine eqs_step (by decide) (by kernel_rfl) (by kernel_rfl) h1 ?_
  refine eqs_step (by decide) (by kernel_rfl) (by kernel_rfl) h2 ?_
  refine eqs_step (by decide) (by kernel_rfl) (by kernel_rfl) h3 ?_
  refine eqs_step (by decide) (by kernel_rfl) (by kernel_rfl) h4 ?_
  exact eqs_nil
set_option maxHeartbeats 1000000 in
theorem run_eqRy (x y : Ry) (w : World) : (Op.equalIn 10000 43 (RyV x) (RyV y)).run Try.prog w = .ok (decide (x = y)) w := by
  have h0 := run_equalIn_int (P := Try.prog) w 9998 5 .u8 .u8 (x.l.toNat : Int) (y.l.toNat : Int) Try.underlying5
  rw [tl_eqI] at h0
  have h1 := run_equalIn_int (P := Try.prog) w 9998 22 .u32 .u32 (x.q.toNat : Int) (y.q.toNat : Int) Try.underlying22
  rw [ck_u32] at h1
  have h2 := run_equalIn_int (P := Try.prog) w 9998 5 .u8 .u8 (x.k.toNat : Int) (y.k.toNat : Int) Try.underlying5
  rw [tl_eqI] at h2
  have h3 := run_equalIn_bool' (P := Try.prog) w 9998 4 x.s y.s Try.underlying4
  have h4 := run_equalIn_bool' (P := Try.prog) w 9998 4 x.e y.e Try.underlying4
  have h5 := run_equalIn_bytes (P := Try.prog) w 9997 24 5 6 Try.underlying24 Try.underlying5 (fun w => by have := Try.sizeOf5; exact this w) x.i.l y.i.l rfl rfl
  have h6 := run_equalIn_bytes (P := Try.prog) w 9997 24 5 6 Try.underlying24 Try.underlying5 (fun w => by have := Try.sizeOf5; exact this w) x.u.l y.u.l rfl rfl
  rw [run_equalIn_struct w 9999 43 _ _ (by rw [Program.fieldsOf, Try.underlying43]) (by kernel_rfl)]
  simp only [Program.fieldsOf, Try.underlying43]
  rw [← ry_same x y]
  refine eqs_step (by decide) (by kernel_rfl) (by kernel_rfl) h0 ?_
  refine eqs_step (by decide) (by kernel_rfl) (by kernel_rfl) h1 ?_
  refine eqs_step (by decide) (by kernel_rfl) (by kernel_rfl) h2 ?_
  refine eqs_step (by decide) (by kernel_rfl) (by kernel_rfl) h3 ?_
  refine eqs_step (by decide) (by kernel_rfl) (by kernel_rfl) h4 ?_
  refine eqs_step (by decide) (by kernel_rfl) (by kernel_rfl) h5 ?_
  refine eqs_step (by decide) (by kernel_rfl) (by kernel_rfl) h6 ?_
  exact eqs_nil
theorem open_tcR {W : World} {base : Nat} {v : Value} (o : Value.okWide Try.prog W .any base 26 v) : ∃ f : Tc, v = TcV f := by
  obtain ⟨cs, rfl, hsz, hrow⟩ : ∃ cs, v = .agg cs ∧ cs.size = Try.prog.cellsOf 26 ∧ Row.okWide Try.prog W .any base 26 cs := by
    simpa [Value.okWide, Try.underlying26] using o
  have hs : cs.size = 15 := hsz.trans (by kernel_rfl)
  obtain ⟨l⟩ := cs
  have hs' : l.length = 15 := hs
  match l, hs' with
  | [v0, v1, v2, v3, v4, v5, v6, v7, v8, v9, v10, v11, v12, v13, v14], _ =>
    have hts : Try.prog.cellTypes Try.prog.depth 26 = some [5, 22, 5, 5, 5, 5, 5, 5, 5, 5, 5, 5, 5, 5, 5] := by kernel_rfl
    obtain ⟨x0, rfl⟩ := cell_u8 Try.underlying5 (okRow_at hts hrow 0 _ _ rfl rfl)
    obtain ⟨x1, rfl⟩ := cell_u32 Try.underlying22 (okRow_at hts hrow 1 _ _ rfl rfl)
    obtain ⟨x2, rfl⟩ := cell_u8 Try.underlying5 (okRow_at hts hrow 2 _ _ rfl rfl)
    obtain ⟨x3, rfl⟩ := cell_u8 Try.underlying5 (okRow_at hts hrow 3 _ _ rfl rfl)
    obtain ⟨x4, rfl⟩ := cell_u8 Try.underlying5 (okRow_at hts hrow 4 _ _ rfl rfl)
    obtain ⟨x5, rfl⟩ := cell_u8 Try.underlying5 (okRow_at hts hrow 5 _ _ rfl rfl)
    obtain ⟨x6, rfl⟩ := cell_u8 Try.underlying5 (okRow_at hts hrow 6 _ _ rfl rfl)
    obtain ⟨x7, rfl⟩ := cell_u8 Try.underlying5 (okRow_at hts hrow 7 _ _ rfl rfl)
    obtain ⟨x8, rfl⟩ := cell_u8 Try.underlying5 (okRow_at hts hrow 8 _ _ rfl rfl)
    obtain ⟨x9, rfl⟩ := cell_u8 Try.underlying5 (okRow_at hts hrow 9 _ _ rfl rfl)
    obtain ⟨x10, rfl⟩ := cell_u8 Try.underlying5 (okRow_at hts hrow 10 _ _ rfl rfl)
    obtain ⟨x11, rfl⟩ := cell_u8 Try.underlying5 (okRow_at hts hrow 11 _ _ rfl rfl)
    obtain ⟨x12, rfl⟩ := cell_u8 Try.underlying5 (okRow_at hts hrow 12 _ _ rfl rfl)
    obtain ⟨x13, rfl⟩ := cell_u8 Try.underlying5 (okRow_at hts hrow 13 _ _ rfl rfl)
    obtain ⟨x14, rfl⟩ := cell_u8 Try.underlying5 (okRow_at hts hrow 14 _ _ rfl rfl)
    exact ⟨⟨x0, x1, x2, ⟨x3, x4, x5, x6, x7, x8⟩, ⟨x9, x10, x11, x12, x13, x14⟩⟩, rfl⟩
theorem open_tcP {W : World} {base : Nat} {v : Value} (o : Value.okWide Try.prog W .any base 35 v) : ∃ f : Tc, v = TcV f := by
  obtain ⟨cs, rfl, hsz, hrow⟩ : ∃ cs, v = .agg cs ∧ cs.size = Try.prog.cellsOf 35 ∧ Row.okWide Try.prog W .any base 35 cs := by
    simpa [Value.okWide, Try.underlying35] using o
  have hs : cs.size = 15 := hsz.trans (by kernel_rfl)
  obtain ⟨l⟩ := cs
  have hs' : l.length = 15 := hs
  match l, hs' with
  | [v0, v1, v2, v3, v4, v5, v6, v7, v8, v9, v10, v11, v12, v13, v14], _ =>
    have hts : Try.prog.cellTypes Try.prog.depth 35 = some [5, 22, 5, 5, 5, 5, 5, 5, 5, 5, 5, 5, 5, 5, 5] := by kernel_rfl
    obtain ⟨x0, rfl⟩ := cell_u8 Try.underlying5 (okRow_at hts hrow 0 _ _ rfl rfl)
    obtain ⟨x1, rfl⟩ := cell_u32 Try.underlying22 (okRow_at hts hrow 1 _ _ rfl rfl)
    obtain ⟨x2, rfl⟩ := cell_u8 Try.underlying5 (okRow_at hts hrow 2 _ _ rfl rfl)
    obtain ⟨x3, rfl⟩ := cell_u8 Try.underlying5 (okRow_at hts hrow 3 _ _ rfl rfl)
    obtain ⟨x4, rfl⟩ := cell_u8 Try.underlying5 (okRow_at hts hrow 4 _ _ rfl rfl)
    obtain ⟨x5, rfl⟩ := cell_u8 Try.underlying5 (okRow_at hts hrow 5 _ _ rfl rfl)
    obtain ⟨x6, rfl⟩ := cell_u8 Try.underlying5 (okRow_at hts hrow 6 _ _ rfl rfl)
    obtain ⟨x7, rfl⟩ := cell_u8 Try.underlying5 (okRow_at hts hrow 7 _ _ rfl rfl)
    obtain ⟨x8, rfl⟩ := cell_u8 Try.underlying5 (okRow_at hts hrow 8 _ _ rfl rfl)
    obtain ⟨x9, rfl⟩ := cell_u8 Try.underlying5 (okRow_at hts hrow 9 _ _ rfl rfl)
    obtain ⟨x10, rfl⟩ := cell_u8 Try.underlying5 (okRow_at hts hrow 10 _ _ rfl rfl)
    obtain ⟨x11, rfl⟩ := cell_u8 Try.underlying5 (okRow_at hts hrow 11 _ _ rfl rfl)
    obtain ⟨x12, rfl⟩ := cell_u8 Try.underlying5 (okRow_at hts hrow 12 _ _ rfl rfl)
    obtain ⟨x13, rfl⟩ := cell_u8 Try.underlying5 (okRow_at hts hrow 13 _ _ rfl rfl)
    obtain ⟨x14, rfl⟩ := cell_u8 Try.underlying5 (okRow_at hts hrow 14 _ _ rfl rfl)
    exact ⟨⟨x0, x1, x2, ⟨x3, x4, x5, x6, x7, x8⟩, ⟨x9, x10, x11, x12, x13, x14⟩⟩, rfl⟩
theorem open_ryR {W : World} {base : Nat} {v : Value} (o : Value.okWide Try.prog W .any base 28 v) : ∃ f : Ry, v = RyV f := by
  obtain ⟨cs, rfl, hsz, hrow⟩ : ∃ cs, v = .agg cs ∧ cs.size = Try.prog.cellsOf 28 ∧ Row.okWide Try.prog W .any base 28 cs := by
    simpa [Value.okWide, Try.underlying28] using o
  have hs : cs.size = 17 := hsz.trans (by kernel_rfl)
  obtain ⟨l⟩ := cs
  have hs' : l.length = 17 := hs
  match l, hs' with
  | [v0, v1, v2, v3, v4, v5, v6, v7, v8, v9, v10, v11, v12, v13, v14, v15, v16], _ =>
    have hts : Try.prog.cellTypes Try.prog.depth 28 = some [5, 22, 5, 4, 4, 5, 5, 5, 5, 5, 5, 5, 5, 5, 5, 5, 5] := by kernel_rfl
    obtain ⟨x0, rfl⟩ := cell_u8 Try.underlying5 (okRow_at hts hrow 0 _ _ rfl rfl)
    obtain ⟨x1, rfl⟩ := cell_u32 Try.underlying22 (okRow_at hts hrow 1 _ _ rfl rfl)
    obtain ⟨x2, rfl⟩ := cell_u8 Try.underlying5 (okRow_at hts hrow 2 _ _ rfl rfl)
    obtain ⟨x3, rfl⟩ := cell_bool Try.underlying4 (okRow_at hts hrow 3 _ _ rfl rfl)
    obtain ⟨x4, rfl⟩ := cell_bool Try.underlying4 (okRow_at hts hrow 4 _ _ rfl rfl)
    obtain ⟨x5, rfl⟩ := cell_u8 Try.underlying5 (okRow_at hts hrow 5 _ _ rfl rfl)
    obtain ⟨x6, rfl⟩ := cell_u8 Try.underlying5 (okRow_at hts hrow 6 _ _ rfl rfl)
    obtain ⟨x7, rfl⟩ := cell_u8 Try.underlying5 (okRow_at hts hrow 7 _ _ rfl rfl)
    obtain ⟨x8, rfl⟩ := cell_u8 Try.underlying5 (okRow_at hts hrow 8 _ _ rfl rfl)
    obtain ⟨x9, rfl⟩ := cell_u8 Try.underlying5 (okRow_at hts hrow 9 _ _ rfl rfl)
    obtain ⟨x10, rfl⟩ := cell_u8 Try.underlying5 (okRow_at hts hrow 10 _ _ rfl rfl)
    obtain ⟨x11, rfl⟩ := cell_u8 Try.underlying5 (okRow_at hts hrow 11 _ _ rfl rfl)
    obtain ⟨x12, rfl⟩ := cell_u8 Try.underlying5 (okRow_at hts hrow 12 _ _ rfl rfl)
    obtain ⟨x13, rfl⟩ := cell_u8 Try.underlying5 (okRow_at hts hrow 13 _ _ rfl rfl)
    obtain ⟨x14, rfl⟩ := cell_u8 Try.underlying5 (okRow_at hts hrow 14 _ _ rfl rfl)
    obtain ⟨x15, rfl⟩ := cell_u8 Try.underlying5 (okRow_at hts hrow 15 _ _ rfl rfl)
    obtain ⟨x16, rfl⟩ := cell_u8 Try.underlying5 (okRow_at hts hrow 16 _ _ rfl rfl)
    exact ⟨⟨x0, x1, x2, x3, x4, ⟨x5, x6, x7, x8, x9, x10⟩, ⟨x11, x12, x13, x14, x15, x16⟩⟩, rfl⟩
theorem open_ryP {W : World} {base : Nat} {v : Value} (o : Value.okWide Try.prog W .any base 43 v) : ∃ f : Ry, v = RyV f := by
  obtain ⟨cs, rfl, hsz, hrow⟩ : ∃ cs, v = .agg cs ∧ cs.size = Try.prog.cellsOf 43 ∧ Row.okWide Try.prog W .any base 43 cs := by
    simpa [Value.okWide, Try.underlying43] using o
  have hs : cs.size = 17 := hsz.trans (by kernel_rfl)
  obtain ⟨l⟩ := cs
  have hs' : l.length = 17 := hs
  match l, hs' with
  | [v0, v1, v2, v3, v4, v5, v6, v7, v8, v9, v10, v11, v12, v13, v14, v15, v16], _ =>
    have hts : Try.prog.cellTypes Try.prog.depth 43 = some [5, 22, 5, 4, 4, 5, 5, 5, 5, 5, 5, 5, 5, 5, 5, 5, 5] := by kernel_rfl
    obtain ⟨x0, rfl⟩ := cell_u8 Try.underlying5 (okRow_at hts hrow 0 _ _ rfl rfl)
    obtain ⟨x1, rfl⟩ := cell_u32 Try.underlying22 (okRow_at hts hrow 1 _ _ rfl rfl)
    obtain ⟨x2, rfl⟩ := cell_u8 Try.underlying5 (okRow_at hts hrow 2 _ _ rfl rfl)
    obtain ⟨x3, rfl⟩ := cell_bool Try.underlying4 (okRow_at hts hrow 3 _ _ rfl rfl)
    obtain ⟨x4, rfl⟩ := cell_bool Try.underlying4 (okRow_at hts hrow 4 _ _ rfl rfl)
    obtain ⟨x5, rfl⟩ := cell_u8 Try.underlying5 (okRow_at hts hrow 5 _ _ rfl rfl)
    obtain ⟨x6, rfl⟩ := cell_u8 Try.underlying5 (okRow_at hts hrow 6 _ _ rfl rfl)
    obtain ⟨x7, rfl⟩ := cell_u8 Try.underlying5 (okRow_at hts hrow 7 _ _ rfl rfl)
    obtain ⟨x8, rfl⟩ := cell_u8 Try.underlying5 (okRow_at hts hrow 8 _ _ rfl rfl)
    obtain ⟨x9, rfl⟩ := cell_u8 Try.underlying5 (okRow_at hts hrow 9 _ _ rfl rfl)
    obtain ⟨x10, rfl⟩ := cell_u8 Try.underlying5 (okRow_at hts hrow 10 _ _ rfl rfl)
    obtain ⟨x11, rfl⟩ := cell_u8 Try.underlying5 (okRow_at hts hrow 11 _ _ rfl rfl)
    obtain ⟨x12, rfl⟩ := cell_u8 Try.underlying5 (okRow_at hts hrow 12 _ _ rfl rfl)
    obtain ⟨x13, rfl⟩ := cell_u8 Try.underlying5 (okRow_at hts hrow 13 _ _ rfl rfl)
    obtain ⟨x14, rfl⟩ := cell_u8 Try.underlying5 (okRow_at hts hrow 14 _ _ rfl rfl)
    obtain ⟨x15, rfl⟩ := cell_u8 Try.underlying5 (okRow_at hts hrow 15 _ _ rfl rfl)
    obtain ⟨x16, rfl⟩ := cell_u8 Try.underlying5 (okRow_at hts hrow 16 _ _ rfl rfl)
    exact ⟨⟨x0, x1, x2, x3, x4, ⟨x5, x6, x7, x8, x9, x10⟩, ⟨x11, x12, x13, x14, x15, x16⟩⟩, rfl⟩
end Go.Proofs.Ytieopgmmjpmflaa
