/- Layer 9: the second and third loops of the document's choose. -/
import Derived.Test.YtlpmilaofcakbaaR3
namespace Go.Proofs.Ytlpmilaofcakbaa
open Go.RowKit Go.Shelf
open Go.Sort (grow)
set_option linter.unusedVariables false
set_option linter.unusedSimpArgs false
set_option maxRecDepth 100000

/-- the blocks of the document's machine -/
def XD (m pb fb : Nat) (k : Nat) : Prop := k = m ∨ k = pb ∨ k = fb
theorem XD.m {m pb fb : Nat} : XD m pb fb m := .inl rfl
theorem XD.p {m pb fb : Nat} : XD m pb fb pb := .inr (.inl rfl)
theorem XD.f {m pb fb : Nat} : XD m pb fb fb := .inr (.inr rfl)
noncomputable def ch3 : Code := loopAt Try.f37.body 2
set_option maxRecDepth 100000 in
set_option maxHeartbeats 4000000 in
theorem ch3_wp {w : World} {m pb fb c cf : Nat} {N : Mch} (hD : DmP w m pb fb c cf N) (hN8 : N.ps.length ≤ 8) (hcN : ∀ p ∈ N.ps, 0 ≤ p.cost) (hiN : N.inn ≠ -1) (Q : Exit → Act → World → Prop) (s1 s2 s3 s4 s5 s6 s7 s8 s9 s10 s11 s12 s13 s15 s16 s17 s18 s19 s20 s21 s22 s23 s24 s25 s26 s27 s28 s29 s30 s31 s32 s33 s34 s35 s36 s37 s38 s39 s40 s41 s42 s43 s44 s45 s46 s47 s48 s49 s50 s51 s52 s53 s54 s55 s56 s57 s58 s59 s60 s61 s62 s63 s64 s65 s66 s67 s68 s69 s70 s71 s72 s73 s74 s75 s76 s77 s78 s79 s80 s81 s82 s83 s84 s85 s86 s87 s88 s89 s90 s91 s92 s93 s94 s95 s96 s97 s98 s99 s100 s101 s102 s103 s104 s105 s106 s107 s108 s109 s110 s111 s112 s113 s114 s115 s116 s117 s118 s119 s120 s121 s122 s123 s124 s125 s126 s127 s128 s129 s130 s131 s132 s133 s134 s135 s136 s137 s138 s139 s140 s141 s142 s143 s144 s145 s146 s147 s148 s149 s150 s151 s152 s153 s154 s155 s156 s157 s158 s159 s160 s161 s162 s163 s164 s165 s166 s167 s168 s169 s170 s171 s172 s173 s174 s175 s176 s177 s178 s179 s180 s181 s182 s183 s184 s185 s186 s187 s188 s189 s190 s191 s192 s193 s194 s195 s196 s197 s198 s199 s200 s201 s202 s203 s204 s205 s206 s207 s208 s209 s210 s211 s212 s213 s214 s215 s216 s217 s218 s219 s220 s221 s222 s223 s224 : Value)
    (hQ : ∀ (t205 t206 t207 t208 t209 t210 t211 t212 t213 t214 t215 t216 t217 t218 t219 t220 t221 t222 t223 t224 : Value) (w' : World), Hid (DmP w' m pb fb c cf N.settle) → Hid (Chg (XD m pb fb) w w') → Q .normal ⟨List.toArray ((.pointer (some ⟨m, 0, none⟩)) :: s1 :: s2 :: s3 :: s4 :: s5 :: s6 :: s7 :: s8 :: s9 :: s10 :: s11 :: s12 :: s13 :: (.int .i64 (N.ps.length : Nat)) :: s15 :: s16 :: s17 :: s18 :: s19 :: s20 :: s21 :: s22 :: s23 :: s24 :: s25 :: s26 :: s27 :: s28 :: s29 :: s30 :: s31 :: s32 :: s33 :: s34 :: s35 :: s36 :: s37 :: s38 :: s39 :: s40 :: s41 :: s42 :: s43 :: s44 :: s45 :: s46 :: s47 :: s48 :: s49 :: s50 :: s51 :: s52 :: s53 :: s54 :: s55 :: s56 :: s57 :: s58 :: s59 :: s60 :: s61 :: s62 :: s63 :: s64 :: s65 :: s66 :: s67 :: s68 :: s69 :: s70 :: s71 :: s72 :: s73 :: s74 :: s75 :: s76 :: s77 :: s78 :: s79 :: s80 :: s81 :: s82 :: s83 :: s84 :: s85 :: s86 :: s87 :: s88 :: s89 :: s90 :: s91 :: s92 :: s93 :: s94 :: s95 :: s96 :: s97 :: s98 :: s99 :: s100 :: s101 :: s102 :: s103 :: s104 :: s105 :: s106 :: s107 :: s108 :: s109 :: s110 :: s111 :: s112 :: s113 :: s114 :: s115 :: s116 :: s117 :: s118 :: s119 :: s120 :: s121 :: s122 :: s123 :: s124 :: s125 :: s126 :: s127 :: s128 :: s129 :: s130 :: s131 :: s132 :: s133 :: s134 :: s135 :: s136 :: s137 :: s138 :: s139 :: s140 :: s141 :: s142 :: s143 :: s144 :: s145 :: s146 :: s147 :: s148 :: s149 :: s150 :: s151 :: s152 :: s153 :: s154 :: s155 :: s156 :: s157 :: s158 :: s159 :: s160 :: s161 :: s162 :: s163 :: s164 :: s165 :: s166 :: s167 :: s168 :: s169 :: s170 :: s171 :: s172 :: s173 :: s174 :: s175 :: s176 :: s177 :: s178 :: s179 :: s180 :: s181 :: s182 :: s183 :: s184 :: s185 :: s186 :: s187 :: s188 :: s189 :: s190 :: s191 :: s192 :: s193 :: s194 :: s195 :: s196 :: s197 :: s198 :: s199 :: s200 :: s201 :: s202 :: s203 :: s204 :: t205 :: t206 :: t207 :: t208 :: t209 :: t210 :: t211 :: t212 :: t213 :: t214 :: t215 :: t216 :: t217 :: t218 :: t219 :: t220 :: t221 :: t222 :: t223 :: t224 :: []), []⟩ w') :
    Code.wp Try.prog ch3 Q ⟨List.toArray ((.pointer (some ⟨m, 0, none⟩)) :: s1 :: s2 :: s3 :: s4 :: s5 :: s6 :: s7 :: s8 :: s9 :: s10 :: s11 :: s12 :: s13 :: (.int .i64 0) :: s15 :: s16 :: s17 :: s18 :: s19 :: s20 :: s21 :: s22 :: s23 :: s24 :: s25 :: s26 :: s27 :: s28 :: s29 :: s30 :: s31 :: s32 :: s33 :: s34 :: s35 :: s36 :: s37 :: s38 :: s39 :: s40 :: s41 :: s42 :: s43 :: s44 :: s45 :: s46 :: s47 :: s48 :: s49 :: s50 :: s51 :: s52 :: s53 :: s54 :: s55 :: s56 :: s57 :: s58 :: s59 :: s60 :: s61 :: s62 :: s63 :: s64 :: s65 :: s66 :: s67 :: s68 :: s69 :: s70 :: s71 :: s72 :: s73 :: s74 :: s75 :: s76 :: s77 :: s78 :: s79 :: s80 :: s81 :: s82 :: s83 :: s84 :: s85 :: s86 :: s87 :: s88 :: s89 :: s90 :: s91 :: s92 :: s93 :: s94 :: s95 :: s96 :: s97 :: s98 :: s99 :: s100 :: s101 :: s102 :: s103 :: s104 :: s105 :: s106 :: s107 :: s108 :: s109 :: s110 :: s111 :: s112 :: s113 :: s114 :: s115 :: s116 :: s117 :: s118 :: s119 :: s120 :: s121 :: s122 :: s123 :: s124 :: s125 :: s126 :: s127 :: s128 :: s129 :: s130 :: s131 :: s132 :: s133 :: s134 :: s135 :: s136 :: s137 :: s138 :: s139 :: s140 :: s141 :: s142 :: s143 :: s144 :: s145 :: s146 :: s147 :: s148 :: s149 :: s150 :: s151 :: s152 :: s153 :: s154 :: s155 :: s156 :: s157 :: s158 :: s159 :: s160 :: s161 :: s162 :: s163 :: s164 :: s165 :: s166 :: s167 :: s168 :: s169 :: s170 :: s171 :: s172 :: s173 :: s174 :: s175 :: s176 :: s177 :: s178 :: s179 :: s180 :: s181 :: s182 :: s183 :: s184 :: s185 :: s186 :: s187 :: s188 :: s189 :: s190 :: s191 :: s192 :: s193 :: s194 :: s195 :: s196 :: s197 :: s198 :: s199 :: s200 :: s201 :: s202 :: s203 :: s204 :: s205 :: s206 :: s207 :: s208 :: s209 :: s210 :: s211 :: s212 :: s213 :: s214 :: s215 :: s216 :: s217 :: s218 :: s219 :: s220 :: s221 :: s222 :: s223 :: s224 :: []), []⟩ w := by
  have HQ := Lib.hid hQ
  clear hQ
  conv => arg 2; whnf
  obtain ⟨k, hn⟩ : ∃ n, N.ps.length = n := ⟨_, rfl⟩
  have h8 : k ≤ 8 := by rw [← hn]; exact hN8
  have HNN : Hid (N.ps.length = k ∧ (∀ p ∈ N.ps, 0 ≤ p.cost) ∧ N.inn ≠ -1) := Lib.hid ⟨hn, hcN, hiN⟩
  have HN3 := Lib.hid hD
  have HC3 : Hid (Chg (XD m pb fb) w w) := Lib.hid (Chg.refl _ w)
  clear hn hN8 hcN hiN hD
  go_wp2_with fail
  go_loopw [14] (fun i_ wr => ∃ j : Nat, j ≤ k ∧ i_ = .int .i64 j ∧ Hid (DmP wr m pb fb c cf (N.settleTo j)) ∧ Hid (Chg (XD m pb fb) w wr)) (fun i_ _ => k - (intOf i_).toNat)
  case atStart => exact ⟨0, Nat.zero_le _, rfl, Lib.hid (by rw [Mch.settleTo_zero]; exact HN3.out), HC3⟩
  case round =>
    obtain ⟨j, hj, rfl, hS, hC⟩ := hrel
    have hjl : (N.settleTo j).ps.length = k := by rw [Mch.settleTo_len, HNN.out.1]
    have c1 : wr.cell? ⟨m, 1, none⟩ = some (.slice (some ⟨pb, 0, none⟩) k c) := by have := hS.out.hd.cell 1; rw [hjl] at this; exact this
    by_cases hlt : j < k
    · have hlt' : j < N.ps.length := by rw [HNN.out.1]; exact hlt
      have hk8 : j < 8 := by omega
      have hk8' : (j : Int) < 8 := by omega
      have hcost : ∀ p ∈ (N.settleTo j).ps, 0 ≤ p.cost := by
        intro p hp
        obtain ⟨i, hi, rfl⟩ := List.mem_mapIdx.1 hp
        have := HNN.out.2.1 _ (List.getElem_mem hi)
        split <;> exact this
      have kR := role_ref (i := j) hS.out hcost (by show N.inn ≠ -1; exact HNN.out.2.2) (by rw [hjl]; exact h8)
      rw [Mch.settleTo_role N j hlt'] at kR
      obtain ⟨r, hr⟩ : ∃ r, N.role j = r := ⟨_, rfl⟩
      rw [hr] at kR
      have HSS0 := N.settleTo_succ j hlt'
      rw [hr] at HSS0
      have HSS := Lib.hid HSS0
      have hpp := Mch.settleTo_port N j hlt'
      have HPP := Lib.hid (And.intro hpp (And.intro hlt' hjl))
      clear hr HSS0 hpp hjl hcost
      go_wp2_with fail
      refine kR.mono ?_
      rintro e w9 ⟨rfl, hg⟩
      have HM4 := Lib.hid (hS.out.gro hg)
      have HC4 : Hid (Chg (XD m pb fb) w w9) := Lib.hid (hC.out.trans (Chg.of_below hg.below))
      have c1 : w9.cell? ⟨m, 1, none⟩ = some (.slice (some ⟨pb, 0, none⟩) k c) := by have := HM4.out.hd.cell 1; rw [HPP.out.2.2] at this; exact this
      clear hg hS hC kR
      by_cases h2 : r = 2
      · subst h2
        have HM5 : Hid (DmP w9 m pb fb c cf (N.settleTo (j + 1))) := Lib.hid (by
          have e : (N.settleTo j).setP j { N.port j with ag := (N.port j).ag && ((2 : Nat) == 2) } = N.settleTo j := by
            have e2 : ({ N.port j with ag := (N.port j).ag && ((2 : Nat) == 2) } : Sd) = (N.settleTo j).port j := by rw [HPP.out.1]; simp
            rw [e2]
            exact Mch.setP_self _ (by rw [Mch.settleTo_len]; exact HPP.out.2.1)
          rw [HSS.out, e]
          exact HM4.out)
        clear hlt'
        go_wp2_with fail
        go_roundw
        case rel => exact ⟨j + 1, by omega, by go_num, HM5, HC4⟩
        case measure => simp [intOf]; omega
      · have d2 : ((r : Int) == 2) = false := by simp; omega
        have d2' : ((r : Int) != 2) = true := by simp; omega
        have hlt2 : j < (N.settleTo j).ps.length := by rw [Mch.settleTo_len]; exact hlt'
        have s14 := (HM4.out.sd (i := j) hlt2).c14
        have f14 := HM4.out.fzP (j * 16 + 14)
        have HM5 : Hid (DmP (w9.setCell ⟨pb, j * 16 + 14, none⟩ (.bool false)) m pb fb c cf (N.settleTo (j + 1))) := Lib.hid (by
          rw [HSS.out]
          refine HM4.out.put hlt2 14 (by omega) (.bool false) _ ?_
          rw [HPP.out.1]
          have e : ((r : Nat) == 2) = false := by simpa using h2
          rw [e, Bool.and_false]
          rfl)
        have HC5 : Hid (Chg (XD m pb fb) w (w9.setCell ⟨pb, j * 16 + 14, none⟩ (.bool false))) := Lib.hid (HC4.out.setCell (p := ⟨pb, j * 16 + 14, none⟩) (.inr XD.p) _)
        clear h2 hlt' hlt2
        go_wp2_with fail
        go_roundw
        case rel => exact ⟨j + 1, by omega, by go_num, HM5, HC5⟩
        case measure => simp [intOf]; omega
    · obtain rfl : j = k := by omega
      have HE : Hid (DmP wr m pb fb c cf N.settle) := Lib.hid (by
        have := hS.out
        rw [← HNN.out.1, Mch.settleTo_all] at this
        exact this)
      clear hS hlt hjl
      go_wp2_with fail
      rw [HNN.out.1] at HQ
      exact HQ.out _ _ _ _ _ _ _ _ _ _ _ _ _ _ _ _ _ _ _ _ _ HE hC
noncomputable def ch2 : Code := loopAt Try.f37.body 1
set_option maxRecDepth 100000 in
set_option maxHeartbeats 4000000 in
theorem ch2_wp {w : World} {m pb fb c cf : Nat} {N : Mch} (hD : DmP w m pb fb c cf (N.changeTo 0)) (hN8 : N.ps.length ≤ 8) (hfN : N.fl.length = N.ps.length) (Q : Exit → Act → World → Prop) (s1 s2 s3 s4 s5 s6 s7 s8 s9 s10 s11 s12 s14 s15 s16 s17 s18 s19 s20 s21 s22 s23 s24 s25 s26 s27 s28 s29 s30 s31 s32 s33 s34 s35 s36 s37 s38 s39 s40 s41 s42 s43 s44 s45 s46 s47 s48 s49 s50 s51 s52 s53 s54 s55 s56 s57 s58 s59 s60 s61 s62 s63 s64 s65 s66 s67 s68 s69 s70 s71 s72 s73 s74 s75 s76 s77 s78 s79 s80 s81 s82 s83 s84 s85 s86 s87 s88 s89 s90 s91 s92 s93 s94 s95 s96 s97 s98 s99 s100 s101 s102 s103 s104 s105 s106 s107 s108 s109 s110 s111 s112 s113 s114 s115 s116 s117 s118 s119 s120 s121 s122 s123 s124 s125 s126 s127 s128 s129 s130 s131 s132 s133 s134 s135 s136 s137 s138 s139 s140 s141 s142 s143 s144 s145 s146 s147 s148 s149 s150 s151 s152 s153 s154 s155 s156 s157 s158 s159 s160 s161 s162 s163 s164 s165 s166 s167 s168 s169 s170 s171 s172 s173 s174 s175 s176 s177 s178 s179 s180 s181 s182 s183 s184 s185 s186 s187 s188 s189 s190 s191 s192 s193 s194 s195 s196 s197 s198 s199 s200 s201 s202 s203 s204 s205 s206 s207 s208 s209 s210 s211 s212 s213 s214 s215 s216 s217 s218 s219 s220 s221 s222 s223 s224 : Value)
    (hQ : ∀ (t173 t174 t175 t176 t177 t178 t179 t180 t181 t182 t183 t184 t185 t186 t187 t188 t189 t190 t191 t192 t193 t194 t195 t196 t197 t198 t199 t200 t201 t202 t203 t204 : Value) (w' : World), Hid (DmP w' m pb fb c cf N.change) → Hid (Chg (XD m pb fb) w w') → Q .normal ⟨List.toArray ((.pointer (some ⟨m, 0, none⟩)) :: s1 :: s2 :: s3 :: s4 :: s5 :: s6 :: s7 :: s8 :: s9 :: s10 :: s11 :: s12 :: (.int .i64 (N.ps.length : Nat)) :: s14 :: s15 :: s16 :: s17 :: s18 :: s19 :: s20 :: s21 :: s22 :: s23 :: s24 :: s25 :: s26 :: s27 :: s28 :: s29 :: s30 :: s31 :: s32 :: s33 :: s34 :: s35 :: s36 :: s37 :: s38 :: s39 :: s40 :: s41 :: s42 :: s43 :: s44 :: s45 :: s46 :: s47 :: s48 :: s49 :: s50 :: s51 :: s52 :: s53 :: s54 :: s55 :: s56 :: s57 :: s58 :: s59 :: s60 :: s61 :: s62 :: s63 :: s64 :: s65 :: s66 :: s67 :: s68 :: s69 :: s70 :: s71 :: s72 :: s73 :: s74 :: s75 :: s76 :: s77 :: s78 :: s79 :: s80 :: s81 :: s82 :: s83 :: s84 :: s85 :: s86 :: s87 :: s88 :: s89 :: s90 :: s91 :: s92 :: s93 :: s94 :: s95 :: s96 :: s97 :: s98 :: s99 :: s100 :: s101 :: s102 :: s103 :: s104 :: s105 :: s106 :: s107 :: s108 :: s109 :: s110 :: s111 :: s112 :: s113 :: s114 :: s115 :: s116 :: s117 :: s118 :: s119 :: s120 :: s121 :: s122 :: s123 :: s124 :: s125 :: s126 :: s127 :: s128 :: s129 :: s130 :: s131 :: s132 :: s133 :: s134 :: s135 :: s136 :: s137 :: s138 :: s139 :: s140 :: s141 :: s142 :: s143 :: s144 :: s145 :: s146 :: s147 :: s148 :: s149 :: s150 :: s151 :: s152 :: s153 :: s154 :: s155 :: s156 :: s157 :: s158 :: s159 :: s160 :: s161 :: s162 :: s163 :: s164 :: s165 :: s166 :: s167 :: s168 :: s169 :: s170 :: s171 :: s172 :: t173 :: t174 :: t175 :: t176 :: t177 :: t178 :: t179 :: t180 :: t181 :: t182 :: t183 :: t184 :: t185 :: t186 :: t187 :: t188 :: t189 :: t190 :: t191 :: t192 :: t193 :: t194 :: t195 :: t196 :: t197 :: t198 :: t199 :: t200 :: t201 :: t202 :: t203 :: t204 :: s205 :: s206 :: s207 :: s208 :: s209 :: s210 :: s211 :: s212 :: s213 :: s214 :: s215 :: s216 :: s217 :: s218 :: s219 :: s220 :: s221 :: s222 :: s223 :: s224 :: []), []⟩ w') :
    Code.wp Try.prog ch2 Q ⟨List.toArray ((.pointer (some ⟨m, 0, none⟩)) :: s1 :: s2 :: s3 :: s4 :: s5 :: s6 :: s7 :: s8 :: s9 :: s10 :: s11 :: s12 :: (.int .i64 0) :: s14 :: s15 :: s16 :: s17 :: s18 :: s19 :: s20 :: s21 :: s22 :: s23 :: s24 :: s25 :: s26 :: s27 :: s28 :: s29 :: s30 :: s31 :: s32 :: s33 :: s34 :: s35 :: s36 :: s37 :: s38 :: s39 :: s40 :: s41 :: s42 :: s43 :: s44 :: s45 :: s46 :: s47 :: s48 :: s49 :: s50 :: s51 :: s52 :: s53 :: s54 :: s55 :: s56 :: s57 :: s58 :: s59 :: s60 :: s61 :: s62 :: s63 :: s64 :: s65 :: s66 :: s67 :: s68 :: s69 :: s70 :: s71 :: s72 :: s73 :: s74 :: s75 :: s76 :: s77 :: s78 :: s79 :: s80 :: s81 :: s82 :: s83 :: s84 :: s85 :: s86 :: s87 :: s88 :: s89 :: s90 :: s91 :: s92 :: s93 :: s94 :: s95 :: s96 :: s97 :: s98 :: s99 :: s100 :: s101 :: s102 :: s103 :: s104 :: s105 :: s106 :: s107 :: s108 :: s109 :: s110 :: s111 :: s112 :: s113 :: s114 :: s115 :: s116 :: s117 :: s118 :: s119 :: s120 :: s121 :: s122 :: s123 :: s124 :: s125 :: s126 :: s127 :: s128 :: s129 :: s130 :: s131 :: s132 :: s133 :: s134 :: s135 :: s136 :: s137 :: s138 :: s139 :: s140 :: s141 :: s142 :: s143 :: s144 :: s145 :: s146 :: s147 :: s148 :: s149 :: s150 :: s151 :: s152 :: s153 :: s154 :: s155 :: s156 :: s157 :: s158 :: s159 :: s160 :: s161 :: s162 :: s163 :: s164 :: s165 :: s166 :: s167 :: s168 :: s169 :: s170 :: s171 :: s172 :: s173 :: s174 :: s175 :: s176 :: s177 :: s178 :: s179 :: s180 :: s181 :: s182 :: s183 :: s184 :: s185 :: s186 :: s187 :: s188 :: s189 :: s190 :: s191 :: s192 :: s193 :: s194 :: s195 :: s196 :: s197 :: s198 :: s199 :: s200 :: s201 :: s202 :: s203 :: s204 :: s205 :: s206 :: s207 :: s208 :: s209 :: s210 :: s211 :: s212 :: s213 :: s214 :: s215 :: s216 :: s217 :: s218 :: s219 :: s220 :: s221 :: s222 :: s223 :: s224 :: []), []⟩ w := by
  have HQ := Lib.hid hQ
  clear hQ
  conv => arg 2; whnf
  obtain ⟨k, hn⟩ : ∃ n, N.ps.length = n := ⟨_, rfl⟩
  have h8 : k ≤ 8 := by rw [← hn]; exact hN8
  have HNN : Hid (N.ps.length = k ∧ N.fl.length = N.ps.length) := Lib.hid ⟨hn, hfN⟩
  have HN3 := Lib.hid hD
  have HC3 : Hid (Chg (XD m pb fb) w w) := Lib.hid (Chg.refl _ w)
  clear hn hN8 hfN hD
  go_wp2_with fail
  go_loopw [13] (fun i_ wr => ∃ j : Nat, j ≤ k ∧ i_ = .int .i64 j ∧ Hid (DmP wr m pb fb c cf (N.changeTo j)) ∧ Hid (Chg (XD m pb fb) w wr)) (fun i_ _ => k - (intOf i_).toNat)
  case atStart => exact ⟨0, Nat.zero_le _, rfl, HN3, HC3⟩
  case round =>
    obtain ⟨j, hj, rfl, hS, hC⟩ := hrel
    have hjl : (N.changeTo j).ps.length = k := by rw [Mch.changeTo_len, HNN.out.1]
    have c1 : wr.cell? ⟨m, 1, none⟩ = some (.slice (some ⟨pb, 0, none⟩) k c) := by have := hS.out.hd.cell 1; rw [hjl] at this; exact this
    by_cases hlt : j < k
    · have hlt' : j < N.ps.length := by rw [HNN.out.1]; exact hlt
      have hltc : j < (N.changeTo j).ps.length := by rw [hjl]; exact hlt
      have hk8 : j < 8 := by omega
      have hk8' : (j : Int) < 8 := by omega
      obtain ⟨p, hp⟩ : ∃ p, N.port j = p := ⟨_, rfl⟩
      have hpk : (N.changeTo j).port j = p := by rw [Mch.changeTo_port _ _ hlt', hp]
      have c7 : wr.cell? ⟨m, 7, none⟩ = some (.slice (some ⟨fb, 0, none⟩) k cf) := by have := hS.out.hd.cell 7; rw [hjl] at this; exact this
      have s14 := (hS.out.sd hltc).c14
      have f14 := hS.out.fzP (j * 16 + 14)
      have HP0 : Hid (DmP (wr.setCell ⟨pb, j * 16 + 14, none⟩ (.bool false)) m pb fb c cf ((N.changeTo j).setP j { p with ag := false })) := Lib.hid (hS.out.put hltc 14 (by omega) (.bool false) _ (by rw [hpk]; rfl))
      have sF := HP0.out.fc (i := j) (by rw [Mch.setP_len]; exact hltc)
      have fF := HP0.out.fzF j
      have c7' : (wr.setCell ⟨pb, j * 16 + 14, none⟩ (.bool false)).cell? ⟨m, 7, none⟩ = some (.slice (some ⟨fb, 0, none⟩) k cf) := by have := HP0.out.hd.cell 7; rw [Mch.setP_len, hjl] at this; exact this
      have HP1 : Hid (DmP ((wr.setCell ⟨pb, j * 16 + 14, none⟩ (.bool false)).setCell ⟨fb, j, none⟩ (.bool true)) m pb fb c cf { (N.changeTo j).setP j { p with ag := false } with fl := (N.changeTo j).fl.set j true }) := Lib.hid (HP0.out.putF j true)
      have HC1 : Hid (Chg (XD m pb fb) w ((wr.setCell ⟨pb, j * 16 + 14, none⟩ (.bool false)).setCell ⟨fb, j, none⟩ (.bool true))) := Lib.hid ((hC.out.setCell (p := ⟨pb, j * 16 + 14, none⟩) (.inr XD.p) _).setCell (p := ⟨fb, j, none⟩) (.inr XD.f) _)
      obtain ⟨w1, hw1⟩ : ∃ w1, (wr.setCell ⟨pb, j * 16 + 14, none⟩ (.bool false)).setCell ⟨fb, j, none⟩ (.bool true) = w1 := ⟨_, rfl⟩
      have HW1 := Lib.hid hw1
      rw [hw1] at HP1 HC1
      have hl1 : ({ (N.changeTo j).setP j { p with ag := false } with fl := (N.changeTo j).fl.set j true } : Mch).ps.length = k := by show ((N.changeTo j).setP j { p with ag := false }).ps.length = k; rw [Mch.setP_len, hjl]
      have kL := link_ref (i := j) HP1.out (by rw [hl1]; exact hlt) (by rw [hl1]; exact h8)
      have hp1 : ({ (N.changeTo j).setP j { p with ag := false } with fl := (N.changeTo j).fl.set j true } : Mch).port j = { p with ag := false } := Mch.setP_port _ hltc _
      rw [hp1] at kL
      have hlv : ({ p with ag := false } : Sd).live = p.live := rfl
      rw [hlv] at kL
      have HSU := Lib.hid (N.changeTo_succ j hlt' HNN.out.2)
      have HPP := Lib.hid (And.intro hp (And.intro hl1 hp1))
      clear hw1 hp hpk hlv hltc hl1 hp1 HP0 hS hC hlt'
      go_upto_region 30 with fail
      rw [HW1.out]
      clear HW1 s14 f14 sF fF c7 c7' c1
      cases hl : p.live with
      | false =>
        rw [hl] at kL
        have HS3 : Hid (DmP w1 m pb fb c cf (N.changeTo (j + 1))) := Lib.hid (by
          have e : p.chg = { p with ag := false } := by unfold Sd.chg; rw [hl]; rfl
          rw [HSU.out, HPP.out.1, e]
          exact HP1.out)
        clear hl hjl
        go_wp2_with fail
        refine kL.mono ?_
        rintro e w' ⟨rfl, rfl⟩
        clear kL
        go_wp2_with fail
        go_roundw
        case rel => exact ⟨j + 1, by omega, by go_num, HS3, HC1⟩
        case measure => simp [intOf]; omega
      | true =>
        rw [hl] at kL
        have c1 : w1.cell? ⟨m, 1, none⟩ = some (.slice (some ⟨pb, 0, none⟩) k c) := by have := HP1.out.hd.cell 1; rw [HPP.out.2.1] at this; exact this
        have s15 := (HP1.out.sd (i := j) (by rw [HPP.out.2.1]; exact hlt)).c15
        have f15 := HP1.out.fzP (j * 16 + 15)
        have HS3 : Hid (DmP (w1.setCell ⟨pb, j * 16 + 15, none⟩ (.int .i64 4)) m pb fb c cf (N.changeTo (j + 1))) := Lib.hid (by
          have h := HP1.out.put (i := j) (by rw [HPP.out.2.1]; exact hlt) 15 (by omega) (.int .i64 4) p.chg (by rw [HPP.out.2.2]; unfold Sd.chg; rw [hl, if_pos rfl]; rfl)
          rw [HSU.out, HPP.out.1]
          have e : (({ (N.changeTo j).setP j { p with ag := false } with fl := (N.changeTo j).fl.set j true } : Mch).setP j p.chg) = { (N.changeTo j).setP j p.chg with fl := (N.changeTo j).fl.set j true } := by simp [Mch.setP]
          rw [e] at h
          exact h)
        have HC3' : Hid (Chg (XD m pb fb) w (w1.setCell ⟨pb, j * 16 + 15, none⟩ (.int .i64 4))) := Lib.hid (HC1.out.setCell (p := ⟨pb, j * 16 + 15, none⟩) (.inr XD.p) _)
        clear hl hjl
        go_wp2_with fail
        refine kL.mono ?_
        rintro e w' ⟨rfl, rfl⟩
        clear kL
        go_wp2_with fail
        go_roundw
        case rel => exact ⟨j + 1, by omega, by go_num, HS3, HC3'⟩
        case measure => simp [intOf]; omega
    · obtain rfl : j = k := by omega
      have HE : Hid (DmP wr m pb fb c cf N.change) := Lib.hid (by
        have := hS.out
        rw [← HNN.out.1, Mch.changeTo_all N HNN.out.2] at this
        exact this)
      clear hS hlt hjl
      go_wp2_with fail
      rw [HNN.out.1] at HQ
      exact HQ.out _ _ _ _ _ _ _ _ _ _ _ _ _ _ _ _ _ _ _ _ _ _ _ _ _ _ _ _ _ _ _ _ _ HE hC
end Go.Proofs.Ytlpmilaofcakbaa
