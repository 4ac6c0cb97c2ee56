/- Layer 9: the document's choose. -/
import Derived.Test.YtlpmilaofcakbaaR2
import Derived.Test.YtlpmilaofcakbaaRunT
import Derived.Deep.CutBlock
namespace Go.Proofs.Ytlpmilaofcakbaa
open Go.RowKit Go.Shelf
open Go.Sort (grow)
set_option linter.unusedVariables false
set_option linter.unusedSimpArgs false
set_option maxRecDepth 100000

/-- a machine as it may be -/
structure Mch.sane (M : Mch) : Prop where
  fits : M.fits
  inn : 0 ≤ M.inn ∧ M.inn ≤ 8
  lv : ∀ p ∈ M.ps, p.la ≠ 0 → p.live = true
theorem Mch.sane.good {M : Mch} (h : M.sane) : M.good := ⟨fun p hp => (h.fits.cost p hp).1, by have := h.inn; omega, h.fits.n8⟩
/-- does the document go on to Far? -/
def Sd.pre (p : Sd) (id : Int) : Bool := p.live && !(decide (p.la < 1)) && (p.b.role == 2) && !(p.b.v.b == id) && !(decide (20 ≤ p.b.h))
theorem Sd.pre_ok {p : Sd} {id : Int} (hla : 0 ≤ p.la) (hlv : p.la ≠ 0 → p.live = true) : p.okFar id = (p.pre id && farB p.b.v p.cost) := by
  unfold Sd.okFar Sd.pre
  by_cases h0 : p.la = 0
  · have e1 : decide (p.la < 1) = true := by simp; omega
    have e2 : (p.la == 0) = true := by simpa using h0
    rw [e1, e2]
    simp
  · have e1 : decide (p.la < 1) = false := by simp; omega
    have e2 : (p.la == 0) = false := by simpa using h0
    rw [e1, e2, hlv h0]
    cases (p.b.role == 2) <;> cases (p.b.v.b == id) <;> cases (decide (20 ≤ p.b.h)) <;> simp
theorem infoR : (Try.prog.info? 131).map (fun i => (i.zero, i.size, i.bytes)) = some (some (.agg #[.int .u64 0, .int .u32 0, .int .u64 0, .int .u8 0, .int .u8 0]), 5, 40) := by kernel_rfl
/-- the load of a word out of a port -/
theorem load_bpR {ops : Array Oper} {rest : List Oper} {o : Oper} {a : Act} {w : World} {Q : Exit → Act → World → Prop} (x : Nat) (ho : o.op = .load 37 (.tmp x)) (hw : Region.wanted o (yielded ops a.tmps) = true) (b i : Nat) (z : Bp)
    (hx : a.eval (.tmp x) = .pointer (some ⟨b, i, none⟩)) (h : ∀ j u, (encBp z)[j]? = some u → w.cell? ⟨b, i + j, none⟩ = some u) (hK : wpList Try.prog ops Q rest (a.put o.dst (BV z)) w) : wpList Try.prog ops Q (o :: rest) a w :=
  wpList_load_atT 37 x ho hw b i (encBp z) hx h (fun w => by kernel_rfl) (fun w => by have := Try.sizeOf37; exact this w) hK
/-- what a round of choose keeps -/
structure CrS (w0 : World) (m pb fb c cf : Nat) (M : Mch) (k : Nat) (v : Value) (w : World) : Prop where
  row : w.ownsRow w0.heap.size 131 5 v (pathsFrom M.id 0 (M.ps.take k)).length ((pathsFrom M.id 0 (M.ps.take k)).flatMap encP)
  dm : DmP w m pb fb c cf M
  bel : Below w0.heap.size w0 w
section
variable {w0 w w' : World} {m pb fb c cf k n b4 : Nat} {M : Mch} {v : Value} {p : Sd}
theorem CrS.next (h : CrS w0 m pb fb c cf M k v w) (hb : Below w.heap.size w w') : CrS w0 m pb fb c cf M k v w' := ⟨own_below h.row hb, h.dm.next hb, h.bel.trans (hb.mono h.bel.size)⟩
theorem CrS.drew (h : CrS w0 m pb fb c cf M k v w) : CrS w0 m pb fb c cf M k v w.drew := h.next (Below.refl _ _).drew
theorem CrS.drewN (h : CrS w0 m pb fb c cf M k v w) (n : Nat) : CrS w0 m pb fb c cf M k v (w.drewN n) := h.next (Below.drewN' (Below.refl _ _) n)
theorem CrS.alloc (h : CrS w0 m pb fb c cf M k v w) (o : Obj) : CrS w0 m pb fb c cf M k v (w.alloc o) := h.next ((Below.refl _ _).alloc (Nat.le_refl _) _)
/-- .. and where it began -/
structure CrT (w0 w1 : World) (m pb fb c cf : Nat) (M : Mch) (k : Nat) (v : Value) (w : World) : Prop where
  s : CrS w0 m pb fb c cf M k v w
  b : Below w1.heap.size w1 w
theorem CrT.next {w1 : World} (h : CrT w0 w1 m pb fb c cf M k v w) (hb : Below w.heap.size w w') : CrT w0 w1 m pb fb c cf M k v w' := ⟨h.s.next hb, h.b.trans (hb.mono h.b.size)⟩
theorem CrT.drew {w1 : World} (h : CrT w0 w1 m pb fb c cf M k v w) : CrT w0 w1 m pb fb c cf M k v w.drew := h.next (Below.refl _ _).drew
theorem CrT.alloc {w1 : World} (h : CrT w0 w1 m pb fb c cf M k v w) (o : Obj) : CrT w0 w1 m pb fb c cf M k v (w.alloc o) := h.next ((Below.refl _ _).alloc (Nat.le_refl _) _)
/-- a cell of a block made since written -/
theorem CrT.set {w1 : World} (h : CrT w0 w1 m pb fb c cf M k v w1) (hw : Below w1.heap.size w1 w) {a : Addr} (ha : w1.heap.size ≤ a.block) (u : Value) : CrT w0 w1 m pb fb c cf M k v (w.setCell a u) := h.next (hw.setCell ha u)
abbrev CSS (w0 w1 : World) (m pb fb c cf k n b4 : Nat) (M : Mch) (v : Value) (p : Sd) (w_ : World) : Prop := w_.cell? ⟨m, 1, none⟩ = some (.slice (some ⟨pb, 0, none⟩) n c) ∧ w_.cell? ⟨pb, k * 16, none⟩ = some (.int .u32 p.cost) ∧ w_.cell? ⟨b4, 0, none⟩ = some (.int .u64 p.b.v.r) ∧ w_.cell? ⟨b4, 1, none⟩ = some (.int .u32 p.b.v.c) ∧ w_.cell? ⟨b4, 2, none⟩ = some (.int .u64 p.b.v.b) ∧ w_.cell? ⟨b4, 3, none⟩ = some (.int .u8 p.b.v.p) ∧ Hid (CrT w0 w1 m pb fb c cf M k v w_)
theorem csN {w1 w_ : World} (h : CSS w0 w1 m pb fb c cf k n b4 M v p w_) {w2 : World} (hb : Below w_.heap.size w_ w2) : CSS w0 w1 m pb fb c cf k n b4 M v p w2 :=
  ⟨keepB h.1 hb, keepB h.2.1 hb, keepB h.2.2.1 hb, keepB h.2.2.2.1 hb, keepB h.2.2.2.2.1 hb, keepB h.2.2.2.2.2.1 hb, Lib.hid (h.2.2.2.2.2.2.out.next hb)⟩
theorem csA {w1 w_ : World} (h : CSS w0 w1 m pb fb c cf k n b4 M v p w_) (o : Obj) : CSS w0 w1 m pb fb c cf k n b4 M v p (w_.alloc o) := csN h ((Below.refl w_.heap.size w_).alloc (Nat.le_refl _) o)
theorem csD {w1 w_ : World} (h : CSS w0 w1 m pb fb c cf k n b4 M v p w_) : CSS w0 w1 m pb fb c cf k n b4 M v p w_.drew := csN h (Below.refl _ _).drew
theorem csP {w1 w_ : World} (h : CSS w0 w1 m pb fb c cf k n b4 M v p w1) (hw : Below w1.heap.size w1 w_) (y : Ve) : CSS w0 w1 m pb fb c cf k n b4 M v p ((((w_.setCell ⟨w1.heap.size, 0, none⟩ (.int .u64 y.r)).setCell ⟨w1.heap.size, 1, none⟩ (.int .u32 y.c)).setCell ⟨w1.heap.size, 2, none⟩ (.int .u64 y.b)).setCell ⟨w1.heap.size, 3, none⟩ (.int .u8 y.p)) :=
  csN h (below4 hw _ (Nat.le_refl _) y)
end
/-- the loops of a text, each with the block about it -/
def loopBlocks : Code → List Code
  | .block i (.loop c) => [.block i (.loop c)]
  | .block _ c => loopBlocks c
  | .seq a b => loopBlocks a ++ loopBlocks b
  | .scope c => loopBlocks c
  | .cond _ a b => loopBlocks a ++ loopBlocks b
  | _ => []
def loopAt (b : Option Code) (k : Nat) : Code := ((b.map loopBlocks).getD [])[k]?.getD .skip
theorem wp_swap {P : Program} {c c' : Code} {Q : Exit → Act → World → Prop} {a : Act} {w : World} (h : c = c') (hw : Code.wp P c' Q a w) : Code.wp P c Q a w := h ▸ hw
noncomputable def ch1 : Code := loopAt Try.f37.body 0
set_option maxRecDepth 100000 in
set_option maxHeartbeats 4000000 in
theorem ch1_wp {w : World} {m pb fb c cf : Nat} {M : Mch} (hD : DmP w m pb fb c cf M) (hS : M.sane) (Q : Exit → Act → World → Prop) (s1 s4 s5 s6 s7 s8 s9 s10 s11 s12 s13 s14 s15 s16 s17 s18 s19 s20 s21 s22 s23 s24 s25 s26 s27 s28 s29 s30 s31 s32 s33 s34 s35 s36 s37 s38 s39 s40 s41 s42 s43 s44 s45 s46 s47 s48 s49 s50 s51 s52 s53 s54 s55 s56 s57 s58 s59 s60 s61 s62 s63 s64 s65 s66 s67 s68 s69 s70 s71 s72 s73 s74 s75 s76 s77 s78 s79 s80 s81 s82 s83 s84 s85 s86 s87 s88 s89 s90 s91 s92 s93 s94 s95 s96 s97 s98 s99 s100 s101 s102 s103 s104 s105 s106 s107 s108 s109 s110 s111 s112 s113 s114 s115 s116 s117 s118 s119 s120 s121 s122 s123 s124 s125 s126 s127 s128 s129 s130 s131 s132 s133 s134 s135 s136 s137 s138 s139 s140 s141 s142 s143 s144 s145 s146 s147 s148 s149 s150 s151 s152 s153 s154 s155 s156 s157 s158 s159 s160 s161 s162 s163 s164 s165 s166 s167 s168 s169 s170 s171 s172 s173 s174 s175 s176 s177 s178 s179 s180 s181 s182 s183 s184 s185 s186 s187 s188 s189 s190 s191 s192 s193 s194 s195 s196 s197 s198 s199 s200 s201 s202 s203 s204 s205 s206 s207 s208 s209 s210 s211 s212 s213 s214 s215 s216 s217 s218 s219 s220 s221 s222 s223 s224 : Value)
    (hQ : ∀ (t4 t5 t6 t15 t16 t17 t18 t19 t20 t21 t22 t23 t24 t25 t26 t27 t28 t29 t30 t31 t32 t33 t34 t35 t36 t37 t38 t39 t40 t41 t42 t43 t44 t45 t46 t47 t48 t49 t50 t51 t52 t53 t54 t55 t56 t57 t58 t59 t60 t61 t62 t63 t64 t65 t66 t67 t68 t69 t70 t71 t72 t73 t74 t75 t76 t77 t78 t79 t80 t81 t82 t83 t84 t85 t86 t87 t88 : Value) (v : Value) (w' : World), Hid (CrS w m pb fb c cf M M.ps.length v w') → Q .normal ⟨List.toArray ((.pointer (some ⟨m, 0, none⟩)) :: s1 :: v :: (.int .i64 (M.ps.length : Nat)) :: t4 :: t5 :: t6 :: s7 :: s8 :: s9 :: s10 :: s11 :: s12 :: s13 :: s14 :: t15 :: t16 :: t17 :: t18 :: t19 :: t20 :: t21 :: t22 :: t23 :: t24 :: t25 :: t26 :: t27 :: t28 :: t29 :: t30 :: t31 :: t32 :: t33 :: t34 :: t35 :: t36 :: t37 :: t38 :: t39 :: t40 :: t41 :: t42 :: t43 :: t44 :: t45 :: t46 :: t47 :: t48 :: t49 :: t50 :: t51 :: t52 :: t53 :: t54 :: t55 :: t56 :: t57 :: t58 :: t59 :: t60 :: t61 :: t62 :: t63 :: t64 :: t65 :: t66 :: t67 :: t68 :: t69 :: t70 :: t71 :: t72 :: t73 :: t74 :: t75 :: t76 :: t77 :: t78 :: t79 :: t80 :: t81 :: t82 :: t83 :: t84 :: t85 :: t86 :: t87 :: t88 :: s89 :: s90 :: s91 :: s92 :: s93 :: s94 :: s95 :: s96 :: s97 :: s98 :: s99 :: s100 :: s101 :: s102 :: s103 :: s104 :: s105 :: s106 :: s107 :: s108 :: s109 :: s110 :: s111 :: s112 :: s113 :: s114 :: s115 :: s116 :: s117 :: s118 :: s119 :: s120 :: s121 :: s122 :: s123 :: s124 :: s125 :: s126 :: s127 :: s128 :: s129 :: s130 :: s131 :: s132 :: s133 :: s134 :: s135 :: s136 :: s137 :: s138 :: s139 :: s140 :: s141 :: s142 :: s143 :: s144 :: s145 :: s146 :: s147 :: s148 :: s149 :: s150 :: s151 :: s152 :: s153 :: s154 :: s155 :: s156 :: s157 :: s158 :: s159 :: s160 :: s161 :: s162 :: s163 :: s164 :: s165 :: s166 :: s167 :: s168 :: s169 :: s170 :: s171 :: s172 :: s173 :: s174 :: s175 :: s176 :: s177 :: s178 :: s179 :: s180 :: s181 :: s182 :: s183 :: s184 :: s185 :: s186 :: s187 :: s188 :: s189 :: s190 :: s191 :: s192 :: s193 :: s194 :: s195 :: s196 :: s197 :: s198 :: s199 :: s200 :: s201 :: s202 :: s203 :: s204 :: s205 :: s206 :: s207 :: s208 :: s209 :: s210 :: s211 :: s212 :: s213 :: s214 :: s215 :: s216 :: s217 :: s218 :: s219 :: s220 :: s221 :: s222 :: s223 :: s224 :: []), []⟩ w') :
    Code.wp Try.prog ch1 Q ⟨List.toArray ((.pointer (some ⟨m, 0, none⟩)) :: s1 :: (.slice none 0 0) :: (.int .i64 0) :: s4 :: s5 :: s6 :: s7 :: s8 :: s9 :: s10 :: s11 :: s12 :: s13 :: s14 :: s15 :: s16 :: s17 :: s18 :: s19 :: s20 :: s21 :: s22 :: s23 :: s24 :: s25 :: s26 :: s27 :: s28 :: s29 :: s30 :: s31 :: s32 :: s33 :: s34 :: s35 :: s36 :: s37 :: s38 :: s39 :: s40 :: s41 :: s42 :: s43 :: s44 :: s45 :: s46 :: s47 :: s48 :: s49 :: s50 :: s51 :: s52 :: s53 :: s54 :: s55 :: s56 :: s57 :: s58 :: s59 :: s60 :: s61 :: s62 :: s63 :: s64 :: s65 :: s66 :: s67 :: s68 :: s69 :: s70 :: s71 :: s72 :: s73 :: s74 :: s75 :: s76 :: s77 :: s78 :: s79 :: s80 :: s81 :: s82 :: s83 :: s84 :: s85 :: s86 :: s87 :: s88 :: s89 :: s90 :: s91 :: s92 :: s93 :: s94 :: s95 :: s96 :: s97 :: s98 :: s99 :: s100 :: s101 :: s102 :: s103 :: s104 :: s105 :: s106 :: s107 :: s108 :: s109 :: s110 :: s111 :: s112 :: s113 :: s114 :: s115 :: s116 :: s117 :: s118 :: s119 :: s120 :: s121 :: s122 :: s123 :: s124 :: s125 :: s126 :: s127 :: s128 :: s129 :: s130 :: s131 :: s132 :: s133 :: s134 :: s135 :: s136 :: s137 :: s138 :: s139 :: s140 :: s141 :: s142 :: s143 :: s144 :: s145 :: s146 :: s147 :: s148 :: s149 :: s150 :: s151 :: s152 :: s153 :: s154 :: s155 :: s156 :: s157 :: s158 :: s159 :: s160 :: s161 :: s162 :: s163 :: s164 :: s165 :: s166 :: s167 :: s168 :: s169 :: s170 :: s171 :: s172 :: s173 :: s174 :: s175 :: s176 :: s177 :: s178 :: s179 :: s180 :: s181 :: s182 :: s183 :: s184 :: s185 :: s186 :: s187 :: s188 :: s189 :: s190 :: s191 :: s192 :: s193 :: s194 :: s195 :: s196 :: s197 :: s198 :: s199 :: s200 :: s201 :: s202 :: s203 :: s204 :: s205 :: s206 :: s207 :: s208 :: s209 :: s210 :: s211 :: s212 :: s213 :: s214 :: s215 :: s216 :: s217 :: s218 :: s219 :: s220 :: s221 :: s222 :: s223 :: s224 :: []), []⟩ w := by
  have HQ := Lib.hid hQ
  clear hQ
  conv => arg 2; whnf
  obtain ⟨n, hn⟩ : ∃ n, M.ps.length = n := ⟨_, rfl⟩
  have h8 : n ≤ 8 := by rw [← hn]; exact hS.fits.n8
  obtain ⟨i0, hi, hz0, hz1, hz2⟩ := info_partsT infoR
  have HI := Lib.hid (And.intro hi (And.intro hz0 (And.intro hz1 hz2)))
  have HF := Lib.hid hS
  have HD := Lib.hid hD
  have HN := Lib.hid hn
  have HL := Lib.hid hD.lt
  have HNE := Lib.hid hD.ne
  clear hi hz0 hz1 hz2 hS hD hn
  go_wp2_with fail
  go_loopw [2, 3] (fun v i wr => ∃ k : Nat, k ≤ n ∧ i = .int .i64 k ∧ Hid (CrS w m pb fb c cf M k v wr)) (fun _ i _ => n - (intOf i).toNat)
  case atStart => exact ⟨0, Nat.zero_le _, rfl, Lib.hid ⟨World.ownsRow_nil _ _ _ _, HD.out, Below.refl _ _⟩⟩
  case round =>
    obtain ⟨k, hk, rfl, hS⟩ := hrel
    have c1 : wr.cell? ⟨m, 1, none⟩ = some (.slice (some ⟨pb, 0, none⟩) n c) := by have := hS.out.dm.hd.cell 1; rw [HN.out] at this; exact this
    by_cases hlt : k < n
    · have hlt' : k < M.ps.length := by rw [HN.out]; exact hlt
      have HK := Lib.hid hlt'
      obtain ⟨p, hp⟩ : ∃ p, M.port k = p := ⟨_, rfl⟩
      have hmem : p ∈ M.ps := by rw [← hp]; exact Mch.port_mem hlt'
      have HP := Lib.hid (And.intro hp hmem)
      have Sc := hS.out.dm.sd hlt'
      rw [hp] at Sc
      have HCL : Hid (∀ j u, (encBp p.b)[j]? = some u → wr.cell? ⟨pb, (k * 16 + 2) + j, none⟩ = some u) := Lib.hid (fun j u hu => by
        have hj : j < 11 := (List.getElem?_eq_some_iff.1 hu).1
        have : j = 0 ∨ j = 1 ∨ j = 2 ∨ j = 3 ∨ j = 4 ∨ j = 5 ∨ j = 6 ∨ j = 7 ∨ j = 8 ∨ j = 9 ∨ j = 10 := by omega
        rcases this with e | e | e | e | e | e | e | e | e | e | e <;> subst e <;> (cases hu; first | exact Sc.c2 | exact Sc.c3 | exact Sc.c4 | exact Sc.c5 | exact Sc.c6 | exact Sc.c7 | exact Sc.c8 | exact Sc.c9 | exact Sc.c10 | exact Sc.c11 | exact Sc.c12))
      clear hp hlt' hmem Sc
      go_upto_region 5 with (refine load_bpR 30 rfl (by kernel_rfl) pb (k * 16 + 2) p.b rfl HCL.out ?_)
      obtain ⟨b4, hb4⟩ : ∃ b, wr.heap.size = b := ⟨_, rfl⟩
      obtain ⟨w3, hw3⟩ : ∃ w3, wr.alloc (.cells #[.int .u64 p.b.v.r, .int .u32 p.b.v.c, .int .u64 p.b.v.b, .int .u8 p.b.v.p, .int .u8 p.b.h, .int .u64 p.b.ver, .int .u8 p.b.role, .bool p.b.pr, .bool p.b.ag, .bool p.b.tp, .int .u64 p.b.ec] 37) = w3 := ⟨_, rfl⟩
      have HS3 : Hid (CrS w m pb fb c cf M k u2 w3) := Lib.hid (by rw [← hw3]; exact hS.out.alloc _)
      have HB3 : Hid (BpA 37 w3 b4 p.b) := Lib.hid (by rw [← hw3, ← hb4]; exact BpA.new 37 wr p.b)
      have HWB := Lib.hid (And.intro hw3 hb4)
      clear hw3 hb4 c1 HCL hS
      rw [HWB.out.1, HWB.out.2]
      clear HWB
      obtain ⟨q, hq⟩ : ∃ q, p.pre M.id = q := ⟨_, rfl⟩
      have HQ := Lib.hid hq
      clear hq
      have hk8 : (k : Int) < 8 := by omega
      go_cut [66] from 15 to 88 (fun s wx => s = .bool (!q) ∧ ∃ n, wx = w3.drewN n)
      case first =>
        have c0 := HS3.out.dm.hd.cell 0
        have c1 : w3.cell? ⟨m, 1, none⟩ = some (.slice (some ⟨pb, 0, none⟩) n c) := by have := HS3.out.dm.hd.cell 1; rw [HN.out] at this; exact this
        have Sc := HS3.out.dm.sd HK.out
        rw [HP.out.1] at Sc
        have s13 := Sc.c13
        have C := HB3.out.cells
        have d2 := C.c2
        have d4 := C.c4
        have d6 := C.c6
        have kL := fun n => link_ref (i := k) (HS3.out.dm.drewN n) HK.out HF.out.fits.n8
        rw [HP.out.1] at kL
        clear Sc C
        cases hl : p.live with
        | false =>
          rw [hl] at kL
          have HE : Hid (q = false) := Lib.hid (by rw [← HQ.out]; unfold Sd.pre; rw [hl]; rfl)
          clear hl
          go_wp2_with fail
          go_quiet ((go_at_call 41; exact Calls.quiet_of_same (kL _)))
          go_wp2_with fail
          go_meet
          exact ⟨by rw [HE.out]; rfl, _, rfl⟩
        | true =>
          rw [hl] at kL
          cases h1 : decide (p.la < 1) with
          | true =>
            have HE : Hid (q = false) := Lib.hid (by rw [← HQ.out]; unfold Sd.pre; rw [hl, h1]; rfl)
            clear hl
            go_wp2_with fail
            go_quiet ((go_at_call 41; exact Calls.quiet_of_same (kL _)))
            go_wp2_with fail
            go_meet
            exact ⟨by rw [HE.out]; rfl, _, rfl⟩
          | false =>
            cases h2 : p.b.role == 2 with
            | false =>
              have h2x : (p.b.role != 2) = true := by simp [bne, h2]
              have HE : Hid (q = false) := Lib.hid (by rw [← HQ.out]; unfold Sd.pre; rw [hl, h1, h2]; rfl)
              clear hl
              go_wp2_with fail
              go_quiet ((go_at_call 41; exact Calls.quiet_of_same (kL _)))
              go_wp2_with fail
              go_meet
              exact ⟨by rw [HE.out]; rfl, _, rfl⟩
            | true =>
              have h2x : (p.b.role != 2) = false := by simp [bne, h2]
              cases h3 : p.b.v.b == M.id with
              | true =>
                have HE : Hid (q = false) := Lib.hid (by rw [← HQ.out]; unfold Sd.pre; rw [hl, h1, h2, h3]; rfl)
                clear hl
                go_wp2_with fail
                go_quiet ((go_at_call 41; exact Calls.quiet_of_same (kL _)))
                go_wp2_with fail
                go_meet
                exact ⟨by rw [HE.out]; rfl, _, rfl⟩
              | false =>
                cases h4 : decide (20 ≤ p.b.h) with
                | true =>
                  have HE : Hid (q = false) := Lib.hid (by rw [← HQ.out]; unfold Sd.pre; rw [hl, h1, h2, h3, h4]; rfl)
                  clear hl
                  go_wp2_with fail
                  go_quiet ((go_at_call 41; exact Calls.quiet_of_same (kL _)))
                  go_wp2_with fail
                  go_meet
                  exact ⟨by rw [HE.out]; rfl, _, rfl⟩
                | false =>
                  have HE : Hid (q = true) := Lib.hid (by rw [← HQ.out]; unfold Sd.pre; rw [hl, h1, h2, h3, h4]; rfl)
                  clear hl
                  go_wp2_with fail
                  go_quiet ((go_at_call 41; exact Calls.quiet_of_same (kL _)))
                  go_wp2_with fail
                  go_meet
                  exact ⟨by rw [HE.out]; rfl, _, rfl⟩
      obtain ⟨rfl, nd, rfl⟩ := hcut
      have HS4 : Hid (CrS w m pb fb c cf M k u2 (w3.drewN nd)) := Lib.hid (HS3.out.drewN nd)
      have HB4 : Hid (BpA 37 (w3.drewN nd) b4 p.b) := HB3
      clear HS3 HB3
      generalize w3.drewN nd = w4 at *
      have hpm := HP.out.2
      obtain ⟨y, hy⟩ : ∃ y, farV p.b.v p.cost = y := ⟨_, rfl⟩
      obtain ⟨z, hz⟩ : ∃ z, farB p.b.v p.cost = z := ⟨_, rfl⟩
      have HYZ := Lib.hid (And.intro hy hz)
      have HT : Hid (pathsFrom M.id 0 (M.ps.take (k + 1)) = pathsFrom M.id 0 (M.ps.take k) ++ (if (q && z) = true then [⟨y, (k : Nat)⟩] else [])) := Lib.hid (by
        rw [List.take_succ_eq_append_getElem HK.out, Mch.port_at HK.out, HP.out.1, pathsFrom_snoc, Sd.pre_ok (HF.out.fits.la p hpm).1 (HF.out.lv p hpm), HQ.out, hz, hy]
        have e : (M.ps.take k).length = k := by rw [List.length_take]; have := HK.out; omega
        rw [e]
        have e2 : 0 + k = k := Nat.zero_add k
        rw [e2])
      have HLE : Hid ((pathsFrom M.id 0 (M.ps.take k)).length ≤ 8) := Lib.hid (Nat.le_trans (paths_len _ _ _) (by rw [List.length_take]; have := HK.out; omega))
      have kF := fun W => reffar_any W p.b.v p.cost (HF.out.fits.vc p hpm).1 (HF.out.fits.vc p hpm).2 (HF.out.fits.cost p hpm).1 (by have := (HF.out.fits.cost p hpm).2; omega)
      rw [hy, hz] at kF
      clear hy hz hpm
      cases q with
      | false =>
        have HS5 : Hid (CrS w m pb fb c cf M (k + 1) u2 w4) := Lib.hid (by
          have e := HT.out
          simp only [Bool.false_and, Bool.false_eq_true, if_false, List.append_nil] at e
          exact ⟨by rw [e]; exact HS4.out.row, HS4.out.dm, HS4.out.bel⟩)
        clear HS4 HB4 kF
        go_wp2
        go_roundw
        case rel => exact ⟨k + 1, by omega, by go_num, HS5⟩
        case measure => simp [intOf]; omega
      | true =>
        have HT0 : Hid (CrT w w4 m pb fb c cf M k u2 w4) := Lib.hid ⟨HS4.out, Below.refl _ _⟩
        go_upto_region 6 with fail
        go_cut [5, 6] from 15 to 88 (fun s5 s6 wx => ∃ b, s5 = .pointer (some ⟨b, 0, none⟩) ∧ s6 = .bool z ∧ Hid (CrS w m pb fb c cf M k u2 wx) ∧ Hid (Blk wx b 35 #[.int .u64 y.r, .int .u32 y.c, .int .u64 y.b, .int .u8 y.p]))
        case first =>
          have c1 : w4.cell? ⟨m, 1, none⟩ = some (.slice (some ⟨pb, 0, none⟩) n c) := by have := HS4.out.dm.hd.cell 1; rw [HN.out] at this; exact this
          have s0 := (HS4.out.dm.sd HK.out).c0
          rw [HP.out.1] at s0
          have C := HB4.out.cells
          have x0 := C.c0
          have x1 := C.c1
          have x2 := C.c2
          have x3 := C.c3
          have ba := (Below.refl w4.heap.size w4).alloc (Nat.le_refl _) (.cells #[.int .u64 0, .int .u32 0, .int .u64 0, .int .u8 0] 35)
          have a1 := keepB c1 ba
          have a2 := keepB s0 ba
          have a3 := keepB x0 ba
          have a4 := keepB x1 ba
          have a5 := keepB x2 ba
          have a6 := keepB x3 ba
          clear C ba
          go_wp2_with fail
          go_region_held3 (fun w_ => w_.cell? ⟨m, 1, none⟩ = some (.slice (some ⟨pb, 0, none⟩) n c) ∧ w_.cell? ⟨pb, k * 16, none⟩ = some (.int .u32 p.cost) ∧ w_.cell? ⟨b4, 0, none⟩ = some (.int .u64 p.b.v.r) ∧ w_.cell? ⟨b4, 1, none⟩ = some (.int .u32 p.b.v.c) ∧ w_.cell? ⟨b4, 2, none⟩ = some (.int .u64 p.b.v.b) ∧ w_.cell? ⟨b4, 3, none⟩ = some (.int .u8 p.b.v.p) ∧ Hid (CrT w w4 m pb fb c cf M k u2 w_)) (first | (with_reducible exact csA ⟨k1, k2, k3, k4, k5, k6, HS2⟩ _) | (with_reducible exact csD (csA ⟨k1, k2, k3, k4, k5, k6, HS2⟩ _)) | (with_reducible exact csP ⟨c1, s0, x0, x1, x2, x3, HT0⟩ HT2.out y) | (with_reducible exact csD (csP ⟨c1, s0, x0, x1, x2, x3, HT0⟩ HT2.out y)) | (with_reducible exact csA ⟨c1, s0, x0, x1, x2, x3, HT0⟩ _) | (with_reducible exact csD (csA ⟨c1, s0, x0, x1, x2, x3, HT0⟩ _)) | (with_reducible exact csD ⟨c1, s0, x0, x1, x2, x3, HT0⟩) | (with_reducible exact ⟨k1, k2, k3, k4, k5, k6, HS2⟩) | fail "keep")
            (first
              | (go_at_call 58; (with_reducible refine (kF _).mono ?_); rintro e w9 ⟨rfl, hbl⟩; have k1 : w9.cell? ⟨m, 1, none⟩ = some (.slice (some ⟨pb, 0, none⟩) n c) := keepB (by assumption) hbl; have k2 : w9.cell? ⟨pb, k * 16, none⟩ = some (.int .u32 p.cost) := keepB (by assumption) hbl; have k3 : w9.cell? ⟨b4, 0, none⟩ = some (.int .u64 p.b.v.r) := keepB (by assumption) hbl; have k4 : w9.cell? ⟨b4, 1, none⟩ = some (.int .u32 p.b.v.c) := keepB (by assumption) hbl; have k5 : w9.cell? ⟨b4, 2, none⟩ = some (.int .u64 p.b.v.b) := keepB (by assumption) hbl; have k6 : w9.cell? ⟨b4, 3, none⟩ = some (.int .u8 p.b.v.p) := keepB (by assumption) hbl; have HS2 : Hid (CrT w w4 m pb fb c cf M k u2 w9) := Lib.hid (CrT.next (by repeat (first | exact Hid.out (by assumption) | (refine CrT.drew ?_) | (refine CrT.alloc ?_ _))) hbl); have HT2 : Hid (Below w4.heap.size w4 w9) := Lib.hid HS2.out.b; (first | (have HBn := Lib.hid (Blk.below (show Blk (w4.alloc (.cells #[.int .u64 0, .int .u32 0, .int .u64 0, .int .u8 0] 35)).drew w4.heap.size 35 #[.int .u64 0, .int .u32 0, .int .u64 0, .int .u8 0] from Blk.new _ _ _) hbl (by simp)); have b0 := Blk.cell HBn.out 0; have b1 := Blk.cell HBn.out 1; have b2 := Blk.cell HBn.out 2; have b3 := Blk.cell HBn.out 3; have bf := Blk.frozen HBn.out) | skip); clear hbl)
              | fail "no")
          all_goals (
            go_wp2_with fail
            go_meet
            first
              | (with_reducible exact ⟨_, rfl, rfl, Lib.hid (HS2.out.s.alloc _), Lib.hid (Blk.new _ _ _)⟩)
              | (with_reducible exact ⟨_, rfl, rfl, Lib.hid (HT0.out.s.next (below4 HT2.out _ (Nat.le_refl _) y)), Lib.hid (put4 HBn.out y)⟩))
        obtain ⟨b, rfl, rfl, hS5, hB5⟩ := hcut
        clear HS4 HB4 kF HT0
        cases z with
        | false =>
          have HS6 : Hid (CrS w m pb fb c cf M (k + 1) u2 wc) := Lib.hid (by
            have e := HT.out
            simp only [Bool.and_false, Bool.false_eq_true, if_false, List.append_nil] at e
            exact ⟨by rw [e]; exact hS5.out.row, hS5.out.dm, hS5.out.bel⟩)
          clear hS5 hB5
          go_wp2
          go_roundw
          case rel => exact ⟨k + 1, by omega, by go_num, HS6⟩
          case measure => simp [intOf]; omega
        | true =>
          have b0 := hB5.out.cell 0
          have b1 := hB5.out.cell 1
          have b2 := hB5.out.cell 2
          have b3 := hB5.out.cell 3
          have hu8 : IntKind.u8.wrap (k : Int) = (k : Int) := by
            have : k = 0 ∨ k = 1 ∨ k = 2 ∨ k = 3 ∨ k = 4 ∨ k = 5 ∨ k = 6 ∨ k = 7 := by omega
            rcases this with h | h | h | h | h | h | h | h <;> subst h <;> rfl
          obtain ⟨r, hr⟩ : ∃ r, (pathsFrom M.id 0 (M.ps.take k)).length = r := ⟨_, rfl⟩
          have HMM := Lib.hid hr
          have h8m : r ≤ 8 := by rw [← hr]; exact HLE.out
          have HO1 : Hid (wc.ownsRow w.heap.size 131 5 u2 r ((pathsFrom M.id 0 (M.ps.take k)).flatMap encP)) := Lib.hid (by rw [← hr]; exact hS5.out.row)
          have HCN := Lib.hid (newcells wc (encP ⟨y, (k : Nat)⟩) 131)
          clear hr
          go_wp2_with (at_builtin; refine wpl_append_own rfl (.tmp 82) (.tmp 87) 127 rfl w.heap.size 131 i0 (.agg #[.int .u64 0, .int .u32 0, .int .u64 0, .int .u8 0, .int .u8 0]) 5 40 Try.underlying127 HI.out.1 HI.out.2.1 HI.out.2.2.1 HI.out.2.2.2 rfl (by decide) u2 r ((pathsFrom M.id 0 (M.ps.take k)).flatMap encP) (by simp [Act.eval, Act.put]) (HO1.out.alloc _) ⟨wc.heap.size, 0, none⟩ 1 1 (encP ⟨y, (k : Nat)⟩) (by simp [Act.eval, Act.put]) rfl HCN.out (encPt_one _) (by simp only [maxLen]; omega) (by omega) (by have := hS5.out.bel.size; simp; omega) ?_; intro v6 w6 ho6 hg6; have HO6 := Lib.hid ho6; have HG6 := Lib.hid hg6; clear ho6 hg6)
          have HS6 : Hid (CrS w m pb fb c cf M (k + 1) v6 w6) := Lib.hid (by
            have e := HT.out
            simp only [Bool.and_self, if_true] at e
            have hba := (Below.refl wc.heap.size wc).alloc (Nat.le_refl _) (.cells (encP ⟨y, (k : Nat)⟩).toArray 131)
            have hS3 := hS5.out.next hba
            have hne : ∀ j, u2.ownBlock = some j → w.heap.size ≤ j ∧ j < wc.heap.size := fun j ej => HO1.out.lt j ej
            have hl := HL.out
            refine ⟨?_, ?_, ?_⟩
            · rw [e, List.length_append, List.flatMap_append, HMM.out]
              simpa using HO6.out
            · refine hS3.dm.chg (S := fun k => u2.ownBlock = some k) (Chg.of_grown HG6.out (fun k ek => .inr ek)) ?_ ?_ ?_
              · intro ej; have := (hne _ ej).1; omega
              · intro ej; have := (hne _ ej).1; omega
              · intro ej; have := (hne _ ej).1; omega
            · exact grown_below (base := w.heap.size) hS3.bel (Nat.le_refl _) (HO1.out.alloc _) HG6.out)
          go_roundw
          case rel => exact ⟨k + 1, by omega, by go_num, HS6⟩
          case measure => simp [intOf]; omega
    · obtain rfl : k = n := by omega
      clear hlt
      go_wp2_with fail
      rw [HN.out] at HQ
      exact HQ.out _ _ _ _ _ _ _ _ _ _ _ _ _ _ _ _ _ _ _ _ _ _ _ _ _ _ _ _ _ _ _ _ _ _ _ _ _ _ _ _ _ _ _ _ _ _ _ _ _ _ _ _ _ _ _ _ _ _ _ _ _ _ _ _ _ _ _ _ _ _ _ _ _ _ _ _ _ _ _ hS
end Go.Proofs.Ytlpmilaofcakbaa
