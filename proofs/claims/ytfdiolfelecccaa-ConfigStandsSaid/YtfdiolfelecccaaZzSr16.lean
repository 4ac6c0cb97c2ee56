/- Layer 16: a region of the law's stands: whether two end points clash. -/
import Derived.Test.YtfdiolfelecccaaZzSame16
import Derived.BigQuiet
import Derived.Deep.QuietTactic
import Derived.Deep.DeepCutAuto
namespace Go.Proofs.Ytfdiolfelecccaa
open Go.RowKit
set_option linter.unusedVariables false
set_option linter.unusedSimpArgs false
set_option maxRecDepth 100000

/-- a region of a text, by its number -/
def regionOf16 (i : Nat) : Code → Option Code
  | .region id ops d => if id = i then some (.region id ops d) else none
  | .loop c => regionOf16 i c
  | .seq a b => match regionOf16 i a with
    | some c => some c
    | none => regionOf16 i b
  | .block _ c => regionOf16 i c
  | .scope c => regionOf16 i c
  | .cond _ a b => match regionOf16 i a with
    | some c => some c
    | none => regionOf16 i b
  | _ => none
theorem wp_swap16 {P : Program} {c c' : Code} {Q : Exit → Act → World → Prop} {a : Act} {w : World} (h : c = c') (hw : Code.wp P c' Q a w) : Code.wp P c Q a w := h ▸ hw
theorem st_not : ∀ a b c d e f : Bool, ((a && b) || (c && (d && (e && f)))) = false → (c = false ∨ (c = true ∧ (f = false ∨ (f = true ∧ (d = false ∨ (d = true ∧ e = false)))))) ∧ (a = false ∨ (a = true ∧ b = false)) := by decide
noncomputable def stands15 : Code := ((Try.f16.body).bind (regionOf16 15)).getD .skip
set_option maxRecDepth 100000 in
set_option maxHeartbeats 8000000 in
theorem stands15_wp {w : World} {b b1 off1 n c1 k j h h7 : Nat} {x x2 : Mp} {z y : As} {B1 B2 B3 B4 B5 B6 : Bool} (f0 : w.cell? ⟨b1, off1 + j * 4, none⟩ = some (.int .i64 x2.a)) (f1 : w.cell? ⟨b1, off1 + j * 4 + 1, none⟩ = some (.int .u16 x2.m.toNat)) (f2 : w.cell? ⟨b1, off1 + j * 4 + 2, none⟩ = some (.int .u8 x2.p.toNat)) (f3 : w.cell? ⟨b1, off1 + j * 4 + 3, none⟩ = some (.bool x2.u)) (e0 : w.cell? ⟨b1, off1 + k * 4, none⟩ = some (.int .i64 x.a)) (e1 : w.cell? ⟨b1, off1 + k * 4 + 1, none⟩ = some (.int .u16 x.m.toNat)) (e2 : w.cell? ⟨b1, off1 + k * 4 + 2, none⟩ = some (.int .u8 x.p.toNat)) (e3 : w.cell? ⟨b1, off1 + k * 4 + 3, none⟩ = some (.bool x.u))
    (z0 : w.cell? ⟨h, 0, none⟩ = some (.int .u8 z.l.toNat)) (z3 : w.cell? ⟨h, 3, none⟩ = some (.int .u16 z.v.toNat)) (y0 : w.cell? ⟨h7, 0, none⟩ = some (.int .u8 y.l.toNat)) (y3 : w.cell? ⟨h7, 3, none⟩ = some (.int .u16 y.v.toNat))
    (hji : (j : Int) < n) (hki : (k : Int) < n)
    (Q1 : (x2.a == x.a) = B1) (Q2 : ((x2.m.toNat : Int) == (x.m.toNat : Int)) = B2) (Q3 : ((x2.p.toNat : Int) == (x.p.toNat : Int)) = B3) (Q4 : ((z.v.toNat : Int) == (y.v.toNat : Int)) = B4) (Q5 : ((z.l.toNat : Int) == (y.l.toNat : Int)) = B5) (Q6 : (x2.u == x.u) = B6)
    (HCL : Hid ((B3 = false ∨ (B3 = true ∧ (B6 = false ∨ (B6 = true ∧ (B4 = false ∨ (B4 = true ∧ B5 = false)))))) ∧ (B1 = false ∨ (B1 = true ∧ B2 = false))))
    (Q : Exit → Act → World → Prop) (s2 s3 s4 s7 s8 s9 s12 s13 s14 s15 s16 s17 s18 s19 s20 s21 s22 s23 s24 s25 s26 s27 s28 s29 s30 s31 s32 s33 s34 s35 s36 s37 s38 s39 s40 s41 s42 s43 s44 s45 s46 s47 s48 s49 s50 s51 s52 s53 s54 s55 s56 s57 s58 s59 s60 s61 s62 s63 s64 s65 s66 s67 s68 s69 s70 s71 s72 s73 s74 s75 s76 s77 s78 s79 s80 s81 s82 s83 s84 s85 s86 s87 s88 s89 s90 s91 s92 s93 s94 s95 s96 s97 s98 s99 s100 s101 s102 s103 s104 s105 s106 s107 s108 s109 s110 s111 s112 s113 s114 s115 s116 s117 s118 s119 s120 s121 s122 s123 s124 s125 s126 s127 s128 s129 s130 s131 s132 s133 s134 s135 s136 s137 s138 s139 s140 s141 s142 s143 s144 s145 s146 s147 s148 : Value)
    (hQ : ∀ (v85 v86 v87 v88 v89 v90 v91 v92 v93 v94 v95 v96 v97 v98 v99 v100 v101 v102 v103 v104 v105 v106 v107 v108 v109 v110 v111 v112 v113 v114 v115 v116 v117 v118 v119 v120 v121 v122 v123 v124 v125 v126 v127 v128 v129 v130 v131 v132 v133 v134 v135 v136 v137 v138 v139 v140 v141 v142 v143 v144 v145 v146 v147 : Value) (q : Nat), Q .normal ⟨List.toArray (Value.pointer (some ⟨b, 0, none⟩) :: Value.slice (some ⟨b1, off1, none⟩) n c1 :: s2 :: s3 :: s4 :: Value.int .i64 k :: Value.pointer (some ⟨h, 0, none⟩) :: s7 :: s8 :: s9 :: Value.int .i64 j :: Value.pointer (some ⟨h7, 0, none⟩) :: s12 :: s13 :: s14 :: s15 :: s16 :: s17 :: s18 :: s19 :: s20 :: s21 :: s22 :: s23 :: s24 :: s25 :: s26 :: s27 :: s28 :: s29 :: s30 :: s31 :: s32 :: s33 :: s34 :: s35 :: s36 :: s37 :: s38 :: s39 :: s40 :: s41 :: s42 :: s43 :: s44 :: s45 :: s46 :: s47 :: s48 :: s49 :: s50 :: s51 :: s52 :: s53 :: s54 :: s55 :: s56 :: s57 :: s58 :: s59 :: s60 :: s61 :: s62 :: s63 :: s64 :: s65 :: s66 :: s67 :: s68 :: s69 :: s70 :: s71 :: s72 :: s73 :: s74 :: s75 :: s76 :: s77 :: s78 :: s79 :: s80 :: s81 :: s82 :: s83 :: s84 :: v85 :: v86 :: v87 :: v88 :: v89 :: v90 :: v91 :: v92 :: v93 :: v94 :: v95 :: v96 :: v97 :: v98 :: v99 :: v100 :: v101 :: v102 :: v103 :: v104 :: v105 :: v106 :: v107 :: v108 :: v109 :: v110 :: v111 :: v112 :: v113 :: v114 :: v115 :: v116 :: v117 :: v118 :: v119 :: v120 :: v121 :: v122 :: v123 :: v124 :: v125 :: v126 :: v127 :: v128 :: v129 :: v130 :: v131 :: v132 :: v133 :: v134 :: v135 :: v136 :: v137 :: v138 :: v139 :: v140 :: v141 :: v142 :: v143 :: v144 :: v145 :: v146 :: v147 :: Value.bool false :: []), []⟩ (w.drewN q)) :
    Code.wp Try.prog stands15 Q ⟨List.toArray (Value.pointer (some ⟨b, 0, none⟩) :: Value.slice (some ⟨b1, off1, none⟩) n c1 :: s2 :: s3 :: s4 :: Value.int .i64 k :: Value.pointer (some ⟨h, 0, none⟩) :: s7 :: s8 :: s9 :: Value.int .i64 j :: Value.pointer (some ⟨h7, 0, none⟩) :: s12 :: s13 :: s14 :: s15 :: s16 :: s17 :: s18 :: s19 :: s20 :: s21 :: s22 :: s23 :: s24 :: s25 :: s26 :: s27 :: s28 :: s29 :: s30 :: s31 :: s32 :: s33 :: s34 :: s35 :: s36 :: s37 :: s38 :: s39 :: s40 :: s41 :: s42 :: s43 :: s44 :: s45 :: s46 :: s47 :: s48 :: s49 :: s50 :: s51 :: s52 :: s53 :: s54 :: s55 :: s56 :: s57 :: s58 :: s59 :: s60 :: s61 :: s62 :: s63 :: s64 :: s65 :: s66 :: s67 :: s68 :: s69 :: s70 :: s71 :: s72 :: s73 :: s74 :: s75 :: s76 :: s77 :: s78 :: s79 :: s80 :: s81 :: s82 :: s83 :: s84 :: s85 :: s86 :: s87 :: s88 :: s89 :: s90 :: s91 :: s92 :: s93 :: s94 :: s95 :: s96 :: s97 :: s98 :: s99 :: s100 :: s101 :: s102 :: s103 :: s104 :: s105 :: s106 :: s107 :: s108 :: s109 :: s110 :: s111 :: s112 :: s113 :: s114 :: s115 :: s116 :: s117 :: s118 :: s119 :: s120 :: s121 :: s122 :: s123 :: s124 :: s125 :: s126 :: s127 :: s128 :: s129 :: s130 :: s131 :: s132 :: s133 :: s134 :: s135 :: s136 :: s137 :: s138 :: s139 :: s140 :: s141 :: s142 :: s143 :: s144 :: s145 :: s146 :: s147 :: s148 :: []), []⟩ w := by
  have HQ := Lib.hid hQ
  clear hQ
  conv => arg 2; whnf
  rcases HCL.out with ⟨rfl | ⟨rfl, rfl | ⟨rfl, rfl | ⟨rfl, rfl⟩⟩⟩, rfl | ⟨rfl, rfl⟩⟩
  all_goals (
    go_quiet (fail)
    exact HQ.out _ _ _ _ _ _ _ _ _ _ _ _ _ _ _ _ _ _ _ _ _ _ _ _ _ _ _ _ _ _ _ _ _ _ _ _ _ _ _ _ _ _ _ _ _ _ _ _ _ _ _ _ _ _ _ _ _ _ _ _ _ _ _ _)
end Go.Proofs.Ytfdiolfelecccaa
