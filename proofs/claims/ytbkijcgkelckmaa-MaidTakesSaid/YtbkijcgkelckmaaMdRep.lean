/- strings.Repeat at noughts, off the shelf. -/
import Derived.Test.YtbkijcgkelckmaaMdPut
import Derived.Shelf.Strings.Repeat
namespace Go.Proofs.Ytbkijcgkelckmaa
open Go.RowKit
set_option linter.unusedVariables false

def repeat_ren : Go.Shelf.Ren := ⟨fun | 99 => 20 | 105 => 14 | 165 => 21 | 166 => 22 | 169 => 24 | 170 => 23 | 206 => 31 | 212 => 19 | 240 => 32 | 241 => 33 | 263 => 29 | 264 => 30 | 276 => 37 | 277 => 38 | n => n, fun | 0 => 0 | 3 => 3 | 4 => 4 | 5 => 5 | 9 => 9 | 20 => 20 | 37 => 31 | 46 => 41 | 51 => 58 | 53 => 61 | 70 => 44 | 72 => 46 | 75 => 49 | 76 => 50 | 80 => 53 | 109 => 42 | 127 => 64 | 146 => 59 | 148 => 62 | 164 => 67 | n => n, fun | n => n⟩
theorem repeat_lays : Go.Proofs.Lays.n105 Try.prog repeat_ren := {
  mixed := by kernel_rfl
  f99 := Try.func20.trans (congrArg some (by kernel_rfl))
  f105 := Try.func14.trans (congrArg some (by kernel_rfl))
  f165 := Try.func21.trans (congrArg some (by kernel_rfl))
  f166 := Try.func22.trans (congrArg some (by kernel_rfl))
  f169 := Try.func24.trans (congrArg some (by kernel_rfl))
  f170 := Try.func23.trans (congrArg some (by kernel_rfl))
  f206 := Try.func31.trans (congrArg some (by kernel_rfl))
  f212 := Try.func19.trans (congrArg some (by kernel_rfl))
  f240 := Try.func32.trans (congrArg some (by kernel_rfl))
  f241 := Try.func33.trans (congrArg some (by kernel_rfl))
  f263 := Try.func29.trans (congrArg some (by kernel_rfl))
  f264 := Try.func30.trans (congrArg some (by kernel_rfl))
  f276 := Try.func37.trans (congrArg some (by kernel_rfl))
  f277 := Try.func38.trans (congrArg some (by kernel_rfl))
  t0 := by first | exact Try.underlying0 | kernel_rfl
  a0 := by first | exact Try.isAgg0 | (intro w; kernel_rfl)
  z0 := by first | exact Try.sizeOf0 | (intro w; kernel_rfl)
  v0 := by first | exact Try.zeroValue0 | (intro w; kernel_rfl)
  t3 := by first | exact Try.underlying3 | kernel_rfl
  a3 := by first | exact Try.isAgg3 | (intro w; kernel_rfl)
  z3 := by first | exact Try.sizeOf3 | (intro w; kernel_rfl)
  v3 := by first | exact Try.zeroValue3 | (intro w; kernel_rfl)
  t4 := by first | exact Try.underlying4 | kernel_rfl
  a4 := by first | exact Try.isAgg4 | (intro w; kernel_rfl)
  z4 := by first | exact Try.sizeOf4 | (intro w; kernel_rfl)
  v4 := by first | exact Try.zeroValue4 | (intro w; kernel_rfl)
  t5 := by first | exact Try.underlying5 | kernel_rfl
  a5 := by first | exact Try.isAgg5 | (intro w; kernel_rfl)
  z5 := by first | exact Try.sizeOf5 | (intro w; kernel_rfl)
  v5 := by first | exact Try.zeroValue5 | (intro w; kernel_rfl)
  t9 := by first | exact Try.underlying9 | kernel_rfl
  a9 := by first | exact Try.isAgg9 | (intro w; kernel_rfl)
  z9 := by first | exact Try.sizeOf9 | (intro w; kernel_rfl)
  v9 := by first | exact Try.zeroValue9 | (intro w; kernel_rfl)
  t20 := by first | exact Try.underlying20 | kernel_rfl
  a20 := by first | exact Try.isAgg20 | (intro w; kernel_rfl)
  z20 := by first | exact Try.sizeOf20 | (intro w; kernel_rfl)
  v20 := by first | exact Try.zeroValue20 | (intro w; kernel_rfl)
  t37 := by first | exact Try.underlying31 | kernel_rfl
  a37 := by first | exact Try.isAgg31 | (intro w; kernel_rfl)
  z37 := by first | exact Try.sizeOf31 | (intro w; kernel_rfl)
  v37 := by first | exact Try.zeroValue31 | (intro w; kernel_rfl)
  t46 := by first | exact Try.underlying41 | kernel_rfl
  a46 := by first | exact Try.isAgg41 | (intro w; kernel_rfl)
  z46 := by first | exact Try.sizeOf41 | (intro w; kernel_rfl)
  v46 := by first | exact Try.zeroValue41 | (intro w; kernel_rfl)
  t51 := by first | exact Try.underlying58 | kernel_rfl
  a51 := by first | exact Try.isAgg58 | (intro w; kernel_rfl)
  z51 := by first | exact Try.sizeOf58 | (intro w; kernel_rfl)
  v51 := by first | exact Try.zeroValue58 | (intro w; kernel_rfl)
  t53 := by first | exact Try.underlying61 | kernel_rfl
  a53 := by first | exact Try.isAgg61 | (intro w; kernel_rfl)
  z53 := by first | exact Try.sizeOf61 | (intro w; kernel_rfl)
  v53 := by first | exact Try.zeroValue61 | (intro w; kernel_rfl)
  t70 := by first | exact Try.underlying44 | kernel_rfl
  a70 := by first | exact Try.isAgg44 | (intro w; kernel_rfl)
  z70 := by first | exact Try.sizeOf44 | (intro w; kernel_rfl)
  v70 := by first | exact Try.zeroValue44 | (intro w; kernel_rfl)
  t72 := by first | exact Try.underlying46 | kernel_rfl
  a72 := by first | exact Try.isAgg46 | (intro w; kernel_rfl)
  z72 := by first | exact Try.sizeOf46 | (intro w; kernel_rfl)
  v72 := by first | exact Try.zeroValue46 | (intro w; kernel_rfl)
  t75 := by first | exact Try.underlying49 | kernel_rfl
  a75 := by first | exact Try.isAgg49 | (intro w; kernel_rfl)
  z75 := by first | exact Try.sizeOf49 | (intro w; kernel_rfl)
  v75 := by first | exact Try.zeroValue49 | (intro w; kernel_rfl)
  t76 := by first | exact Try.underlying50 | kernel_rfl
  a76 := by first | exact Try.isAgg50 | (intro w; kernel_rfl)
  z76 := by first | exact Try.sizeOf50 | (intro w; kernel_rfl)
  v76 := by first | exact Try.zeroValue50 | (intro w; kernel_rfl)
  t109 := by first | exact Try.underlying42 | kernel_rfl
  a109 := by first | exact Try.isAgg42 | (intro w; kernel_rfl)
  z109 := by first | exact Try.sizeOf42 | (intro w; kernel_rfl)
  v109 := by first | exact Try.zeroValue42 | (intro w; kernel_rfl)
  t127 := by first | exact Try.underlying64 | kernel_rfl
  a127 := by first | exact Try.isAgg64 | (intro w; kernel_rfl)
  z127 := by first | exact Try.sizeOf64 | (intro w; kernel_rfl)
  v127 := by first | exact Try.zeroValue64 | (intro w; kernel_rfl)
  t146 := by first | exact Try.underlying59 | kernel_rfl
  a146 := by first | exact Try.isAgg59 | (intro w; kernel_rfl)
  z146 := by first | exact Try.sizeOf59 | (intro w; kernel_rfl)
  v146 := by first | exact Try.zeroValue59 | (intro w; kernel_rfl)
  t148 := by first | exact Try.underlying62 | kernel_rfl
  a148 := by first | exact Try.isAgg62 | (intro w; kernel_rfl)
  z148 := by first | exact Try.sizeOf62 | (intro w; kernel_rfl)
  v148 := by first | exact Try.zeroValue62 | (intro w; kernel_rfl)
  t164 := by first | exact Try.underlying67 | kernel_rfl
  a164 := by first | exact Try.isAgg67 | (intro w; kernel_rfl)
  z164 := by first | exact Try.sizeOf67 | (intro w; kernel_rfl)
  v164 := by first | exact Try.zeroValue67 | (intro w; kernel_rfl) }
theorem repeat_extra : Go.Proofs.Builder.Extra Try.prog repeat_ren where
  sizeBuilder := by kernel_rfl
  liesBuilder := by kernel_rfl
  t5 := repeat_lays.t5
  a5 := repeat_lays.a5
  z5 := repeat_lays.z5
  v5 := repeat_lays.v5
  infoByte := by kernel_rfl
  cellsByte := by kernel_rfl
  sizeByte := by kernel_rfl
  neB5 := by decide
theorem rep_noughts (c : Nat) : Lib.repeatL [(0 : UInt8)] c = List.replicate c 0 := by
  have := Lib.repeatL_replicate 0 1 c
  simpa using this
theorem repeat_any : RepC := by
  intro c w hc
  refine (Any.strings_Repeat repeat_lays repeat_extra ⟨#[0]⟩ c w (by omega) (by show 1 * c ≤ _; omega)).mono ?_
  rintro e w' ⟨rfl, hb⟩
  refine ⟨?_, hb⟩
  show Ending.returned (.string ⟨(Lib.repeatL [(0 : UInt8)] c).toArray⟩) = _
  rw [rep_noughts]
theorem mdput (a b : List UInt8) (w : World) (hal : a.length ≤ 1000000) (hbl : b.length ≤ 1000000) :
    Calls Try.prog 7 #[.string ⟨a.toArray⟩, .string ⟨b.toArray⟩] w fun e w' => e = .returned (.tuple #[.string ⟨(mdV a b).toArray⟩, .int .i64 (mdE a b)]) ∧ Below w.heap.size w w' := mdput_any repeat_any a b w hal hbl
end Go.Proofs.Ytbkijcgkelckmaa
