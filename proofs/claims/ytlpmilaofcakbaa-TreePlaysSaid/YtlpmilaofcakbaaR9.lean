/- Layer 9: the law's same and sent. -/
import Derived.Test.YtlpmilaofcakbaaR8
import Derived.Test.YtlpmilaofcakbaaR6
import Derived.Test.YtlpmilaofcakbaaOfL
import Derived.Shelf.SlSortCmp.QuietGrown
import Derived.BigQuiet
import Derived.BigGuard
import Derived.Deep.QuietTactic
namespace Go.Proofs.Ytlpmilaofcakbaa
open Go.RowKit Go.Shelf
open Go.Sort (grow)
set_option linter.unusedVariables false
set_option linter.unusedSimpArgs false
set_option maxRecDepth 100000

/-- a load of a run of cells, as a quiet step -/
theorem quiet_atT {P : Program} {C : World → Prop} {K : Act → Prop} {a : Act} {o : Oper} (ty : TypeId) (x : Nat) (ho : o.op = .load ty (.tmp x)) (b i : Nat) (cs : List Value)
    (hx : a.eval (.tmp x) = .pointer (some ⟨b, i, none⟩)) (h : ∀ w, C w → ∀ j u, cs[j]? = some u → w.cell? ⟨b, i + j, none⟩ = some u)
    (ha : ∀ w, (isAgg ty).run P w = .ok true w) (hs : ∀ w, (Go.sizeOf ty).run P w = .ok cs.length w) (hk : K (a.put o.dst (.agg cs.toArray))) : o.quiet P a C K :=
  ⟨_, fun w hw => by
    have hl := run_loadCells_list (P := P) (w := w) ⟨b, i, none⟩ cs (fun j u hu => by
      have hadd : (⟨b, i, none⟩ : Addr).add j = ⟨b, i + j, none⟩ := by unfold Addr.add; split <;> simp_all
      rw [hadd]; exact h w hw j u hu)
    unfold Oper.quietAt execOp
    simp only [ho, hx, Instr.loadAt, Instr.sureAddr, loadVar, Sem.run_bind, Sem.run_pure, Result.andThen_ok, ha, hs, hl, if_true]
    exact ⟨rfl, rfl⟩, hk⟩
set_option maxRecDepth 100000 in
set_option maxHeartbeats 4000000 in
theorem same_any {w : World} {g m pb fb c cf : Nat} {M : Mch} (hM : MaP w g M) (hD : DmP w m pb fb c cf M) (hG : M.good) :
    Calls Try.prog 22 #[.pointer (some ⟨g, 0, none⟩), .pointer (some ⟨m, 0, none⟩)] w fun e w' => e = .returned (.bool true) ∧ Gro w w' := by
  have HM := Lib.hid hM
  have HD := Lib.hid hD
  have HG := Lib.hid hG
  clear hM hD hG
  go_enter Try.func22, Try.ntmps22
  go_wp2_with fail
  refine (root_any HM.out HG.out.n8).mono ?_
  rintro e w1 ⟨rfl, hg⟩
  have HG1 := Lib.hid hg
  have HD1 := Lib.hid (HD.out.gro hg)
  clear hg
  have c2 := HD1.out.hd.cell 2
  have c3 := HD1.out.hd.cell 3
  have c6 := HD1.out.hd.cell 6
  go_wp2_with fail
  clear c2 c3 c6 HD1
  go_loopw [8] (fun i wr => ∃ k : Nat, k ≤ 10 ∧ i = .int .i64 k ∧ Hid (Gro w wr)) (fun i _ => 10 - (intOf i).toNat)
  case atStart => exact ⟨0, by omega, rfl, HG1⟩
  case round =>
    clear HG1
    obtain ⟨k, hk, rfl, hS⟩ := hrel
    by_cases hlt : k < 10
    · have hu8 : IntKind.u8.wrap (k : Int) = (k : Int) := by
        simp [IntKind.wrap, IntKind.signed, IntKind.bits]; omega
      have hlt' : (k : Int) < 10 := by omega
      obtain ⟨r, hr⟩ : ∃ r, M.role k = r := ⟨_, rfl⟩
      obtain ⟨f, hf⟩ : ∃ f, M.fwd k = f := ⟨_, rfl⟩
      have HRF := Lib.hid (And.intro hr hf)
      clear hr hf
      go_wp2_with fail
      refine (role_any (i := k) (HM.out.next hS.out.below) HG.out.n8).mono ?_
      rintro e w2 ⟨rfl, hg⟩
      rw [HRF.out.1]
      have HS2 := Lib.hid (hS.out.trans hg)
      clear hg hS
      go_wp2_with fail
      refine (role_ref (i := k) (HD.out.gro HS2.out) HG.out.cost HG.out.inn HG.out.n8).mono ?_
      rintro e w3 ⟨rfl, hg⟩
      rw [HRF.out.1]
      have HS3 := Lib.hid (HS2.out.trans hg)
      clear hg HS2
      go_wp2_with fail
      refine (forwards_any (i := k) (HM.out.next HS3.out.below) HG.out.n8).mono ?_
      rintro e w4 ⟨rfl, hg⟩
      rw [HRF.out.2]
      have HS4 := Lib.hid (HS3.out.trans hg)
      clear hg HS3
      go_wp2_with fail
      refine (forwards_ref (i := k) (HD.out.gro HS4.out) HG.out).mono ?_
      rintro e w5 ⟨rfl, hg⟩
      rw [HRF.out.2]
      have HS5 := Lib.hid (HS4.out.trans hg)
      clear hg HS4
      cases f <;> (
        go_wp2_with fail
        go_roundw
        case rel => exact ⟨k + 1, by omega, by go_num, HS5⟩
        case measure => simp [intOf]; omega)
    · obtain rfl : k = 10 := by omega
      go_wp2
      go_ret
      exact ⟨rfl, hS.out⟩
set_option maxRecDepth 100000 in
set_option maxHeartbeats 4000000 in
theorem sent_any {w : World} {A B : Option Addr} {ca cb : Nat} {l : List (Nat × Bp)} (hA : Els 12 encS w A l) (hB : Els 12 encS w B l) (h63 : l.length ≤ 1000) :
    Calls Try.prog 21 #[.slice A l.length ca, .slice B l.length cb] w fun e w' => e = .returned (.bool true) ∧ Gro w w' := by
  obtain ⟨n, hn⟩ : ∃ n, l.length = n := ⟨_, rfl⟩
  have HA := Lib.hid hA
  have HB := Lib.hid hB
  have HN := Lib.hid hn
  rw [hn] at h63
  rw [hn]
  clear hA hB hn
  have mixed : Hid (Try.prog.follows .mixedOrders = true) := Lib.hid (by kernel_rfl)
  go_enter Try.func21, Try.ntmps21
  go_wp2_with fail
  go_loopw [5] (fun i wr => ∃ k : Nat, k ≤ n ∧ i = .int .i64 k ∧ Hid (Gro w wr)) (fun i _ => n - (intOf i).toNat)
  case atStart => exact ⟨0, Nat.zero_le _, rfl, Lib.hid (Gro.refl w)⟩
  case round =>
    obtain ⟨k, hk, rfl, hS⟩ := hrel
    by_cases hlt : k < n
    · have hlt' : k < l.length := by rw [HN.out]; exact hlt
      obtain ⟨a, off, rfl, hal, ha⟩ := HA.out (by omega)
      obtain ⟨b, off2, rfl, hbl, hb⟩ := HB.out (by omega)
      obtain ⟨⟨p, x⟩, hx⟩ : ∃ x, l[k] = x := ⟨_, rfl⟩
      have FA : Hid (∀ w', Gro wr w' → ∀ j u, (encS (p, x))[j]? = some u → w'.cell? ⟨a, off + k * 12 + j, none⟩ = some u) := Lib.hid (fun w' hw j u hu => ((hS.out.trans hw).below.cell (p := ⟨a, off + k * 12 + j, none⟩) hal).trans (ha k hlt' j u (by rw [hx]; exact hu)))
      have FB : Hid (∀ w', Gro wr w' → ∀ j u, (encS (p, x))[j]? = some u → w'.cell? ⟨b, off2 + k * 12 + j, none⟩ = some u) := Lib.hid (fun w' hw j u hu => ((hS.out.trans hw).below.cell (p := ⟨b, off2 + k * 12 + j, none⟩) hbl).trans (hb k hlt' j u (by rw [hx]; exact hu)))
      have a0 : ∀ n os, (grow (wr.drewN n) os).cell? ⟨a, off + k * 12, none⟩ = some (.int .u8 (p : Nat)) := fun n os => FA.out _ (Gro.of_grow n os) 0 _ rfl
      have b0 : ∀ n os, (grow (wr.drewN n) os).cell? ⟨b, off2 + k * 12, none⟩ = some (.int .u8 (p : Nat)) := fun n os => FB.out _ (Gro.of_grow n os) 0 _ rfl
      have kL : ∀ n os, Calls Try.prog 19 #[BV x] (grow (wr.drewN n) os) fun e w' => e = .returned (BV x) ∧ ∃ q os', w' = grow ((grow (wr.drewN n) os).drewN q) os' := fun n os => (lof_any (grow (wr.drewN n) os) x).mono fun _ _ h => ⟨h.1, h.2.out⟩
      have q : ∀ w, (Op.equalIn 10000 54 (BV x) (BV x)).run Try.prog w = .ok true w := fun w => by rw [run_eqB]; simp
      clear ha hb hal hbl hx hlt'
      go_upto_region 6 with fail
      refine wp_region_quiet_grown mixed.out (by kernel_rfl) ?_
      repeat (first | go_big_quiet_step ((fail)) | quiet_step ((fail)))
      refine wpQuiet_step (fun K hK => ?_)
      rw [if_pos (by kernel_rfl)]
      refine quiet_atT 54 32 rfl a (off + k * 12 + 1) (encBp x) rfl (by rintro w ⟨r, rfl⟩ j u hu; have := FA.out _ (Gro.of_grow r.n r.os) (j + 1) u (by simpa [encS] using hu); rw [show off + k * 12 + 1 + j = off + k * 12 + (j + 1) from by omega]; exact this) (fun w => by kernel_rfl) (fun w => by have := Try.sizeOf54; exact this w) ?_
      go_simp
      refine hK _ ?_
      clear hK K
      repeat (first | go_big_quiet_step ((fail)) | quiet_step ((fail)))
      refine wpQuiet_step (fun K hK => ?_)
      rw [if_pos (by kernel_rfl)]
      refine quiet_atT 37 37 rfl b (off2 + k * 12 + 1) (encBp x) rfl (by rintro w ⟨r, rfl⟩ j u hu; have := FB.out _ (Gro.of_grow r.n r.os) (j + 1) u (by simpa [encS] using hu); rw [show off2 + k * 12 + 1 + j = off2 + k * 12 + (j + 1) from by omega]; exact this) (fun w => by kernel_rfl) (fun w => by have := Try.sizeOf37; exact this w) ?_
      go_simp
      refine hK _ ?_
      clear hK K
      rw [show Value.agg (encBp x).toArray = BV x from rfl]
      repeat (first | go_big_quiet_step ((go_at_call 19; exact Calls.grown_of (kL _ _))) | quiet_step ((go_at_call 19; exact Calls.grown_of (kL _ _))))
      refine wpQuiet_nil ?_
      intro _ hw'
      obtain ⟨⟨nq, osq⟩, hw''⟩ := hw'
      subst hw''
      have HS2 : Hid (Gro w (grow (wr.drewN nq) osq)) := Lib.hid (hS.out.trans (Gro.of_grow nq osq))
      clear a0 b0 kL q FA FB hS
      generalize grow (wr.drewN nq) osq = wz at *
      go_wp2_with fail
      go_roundw
      case rel => exact ⟨k + 1, by omega, by go_num, HS2⟩
      case measure => simp [intOf]; omega
    · obtain rfl : k = n := by omega
      go_wp2
      go_ret
      exact ⟨rfl, hS.out⟩
end Go.Proofs.Ytlpmilaofcakbaa
