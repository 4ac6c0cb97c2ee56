/- strings.Repeat at noughts, off the shelf. -/
import Derived.Test.YtkmdgpfaaniibaaZzMdPut
import Derived.Shelf.Strings.Repeat
namespace Go.Proofs.Ytkmdgpfaaniibaa
open Go.RowKit
set_option linter.unusedVariables false

def repeat_ren : Go.Shelf.Ren := ⟨fun | 99 => 62 | 105 => 52 | 165 => 63 | 166 => 64 | 169 => 66 | 170 => 65 | 206 => 86 | 212 => 61 | 240 => 87 | 241 => 88 | 263 => 84 | 264 => 85 | 276 => 98 | 277 => 99 | n => n, fun | 0 => 0 | 3 => 3 | 4 => 4 | 5 => 5 | 9 => 9 | 20 => 20 | 37 => 53 | 46 => 99 | 51 => 38 | 53 => 127 | 70 => 108 | 72 => 110 | 75 => 113 | 76 => 114 | 80 => 54 | 109 => 105 | 127 => 138 | 146 => 134 | 148 => 136 | 164 => 146 | n => n, fun | n => n⟩
theorem repeat_lays : Go.Proofs.Lays.n105 Try.prog repeat_ren := {
  mixed := by kernel_rfl
  f99 := Try.func62.trans (congrArg some (by kernel_rfl))
  f105 := Try.func52.trans (congrArg some (by kernel_rfl))
  f165 := Try.func63.trans (congrArg some (by kernel_rfl))
  f166 := Try.func64.trans (congrArg some (by kernel_rfl))
  f169 := Try.func66.trans (congrArg some (by kernel_rfl))
  f170 := Try.func65.trans (congrArg some (by kernel_rfl))
  f206 := Try.func86.trans (congrArg some (by kernel_rfl))
  f212 := Try.func61.trans (congrArg some (by kernel_rfl))
  f240 := Try.func87.trans (congrArg some (by kernel_rfl))
  f241 := Try.func88.trans (congrArg some (by kernel_rfl))
  f263 := Try.func84.trans (congrArg some (by kernel_rfl))
  f264 := Try.func85.trans (congrArg some (by kernel_rfl))
  f276 := Try.func98.trans (congrArg some (by kernel_rfl))
  f277 := Try.func99.trans (congrArg some (by kernel_rfl))
  t0 := by first | exact Try.underlying0 | kernel_rfl
  a0 := by first | exact Try.isAgg0 | (intro w; kernel_rfl)
  z0 := by first | exact Try.sizeOf0 | (intro w; kernel_rfl)
  v0 := by first | exact Try.zeroValue0 | (intro w; kernel_rfl)
  t3 := by first | exact Try.underlying3 | kernel_rfl
  a3 := by first | exact Try.isAgg3 | (intro w; kernel_rfl)
  z3 := by first | exact Try.sizeOf3 | (intro w; kernel_rfl)
  v3 := by first | exact Try.zeroValue3 | (intro w; kernel_rfl)
  t4 := by first | exact Try.underlying4 | kernel_rfl
  a4 := by first | exact Try.isAgg4 | (intro w; kernel_rfl)
  z4 := by first | exact Try.sizeOf4 | (intro w; kernel_rfl)
  v4 := by first | exact Try.zeroValue4 | (intro w; kernel_rfl)
  t5 := by first | exact Try.underlying5 | kernel_rfl
  a5 := by first | exact Try.isAgg5 | (intro w; kernel_rfl)
  z5 := by first | exact Try.sizeOf5 | (intro w; kernel_rfl)
  v5 := by first | exact Try.zeroValue5 | (intro w; kernel_rfl)
  t9 := by first | exact Try.underlying9 | kernel_rfl
  a9 := by first | exact Try.isAgg9 | (intro w; kernel_rfl)
  z9 := by first | exact Try.sizeOf9 | (intro w; kernel_rfl)
  v9 := by first | exact Try.zeroValue9 | (intro w; kernel_rfl)
  t20 := by first | exact Try.underlying20 | kernel_rfl
  a20 := by first | exact Try.isAgg20 | (intro w; kernel_rfl)
  z20 := by first | exact Try.sizeOf20 | (intro w; kernel_rfl)
  v20 := by first | exact Try.zeroValue20 | (intro w; kernel_rfl)
  t37 := by first | exact Try.underlying53 | kernel_rfl
  a37 := by first | exact Try.isAgg53 | (intro w; kernel_rfl)
  z37 := by first | exact Try.sizeOf53 | (intro w; kernel_rfl)
  v37 := by first | exact Try.zeroValue53 | (intro w; kernel_rfl)
  t46 := by first | exact Try.underlying99 | kernel_rfl
  a46 := by first | exact Try.isAgg99 | (intro w; kernel_rfl)
  z46 := by first | exact Try.sizeOf99 | (intro w; kernel_rfl)
  v46 := by first | exact Try.zeroValue99 | (intro w; kernel_rfl)
  t51 := by first | exact Try.underlying38 | kernel_rfl
  a51 := by first | exact Try.isAgg38 | (intro w; kernel_rfl)
  z51 := by first | exact Try.sizeOf38 | (intro w; kernel_rfl)
  v51 := by first | exact Try.zeroValue38 | (intro w; kernel_rfl)
  t53 := by first | exact Try.underlying127 | kernel_rfl
  a53 := by first | exact Try.isAgg127 | (intro w; kernel_rfl)
  z53 := by first | exact Try.sizeOf127 | (intro w; kernel_rfl)
  v53 := by first | exact Try.zeroValue127 | (intro w; kernel_rfl)
  t70 := by first | exact Try.underlying108 | kernel_rfl
  a70 := by first | exact Try.isAgg108 | (intro w; kernel_rfl)
  z70 := by first | exact Try.sizeOf108 | (intro w; kernel_rfl)
  v70 := by first | exact Try.zeroValue108 | (intro w; kernel_rfl)
  t72 := by first | exact Try.underlying110 | kernel_rfl
  a72 := by first | exact Try.isAgg110 | (intro w; kernel_rfl)
  z72 := by first | exact Try.sizeOf110 | (intro w; kernel_rfl)
  v72 := by first | exact Try.zeroValue110 | (intro w; kernel_rfl)
  t75 := by first | exact Try.underlying113 | kernel_rfl
  a75 := by first | exact Try.isAgg113 | (intro w; kernel_rfl)
  z75 := by first | exact Try.sizeOf113 | (intro w; kernel_rfl)
  v75 := by first | exact Try.zeroValue113 | (intro w; kernel_rfl)
  t76 := by first | exact Try.underlying114 | kernel_rfl
  a76 := by first | exact Try.isAgg114 | (intro w; kernel_rfl)
  z76 := by first | exact Try.sizeOf114 | (intro w; kernel_rfl)
  v76 := by first | exact Try.zeroValue114 | (intro w; kernel_rfl)
  t109 := by first | exact Try.underlying105 | kernel_rfl
  a109 := by first | exact Try.isAgg105 | (intro w; kernel_rfl)
  z109 := by first | exact Try.sizeOf105 | (intro w; kernel_rfl)
  v109 := by first | exact Try.zeroValue105 | (intro w; kernel_rfl)
  t127 := by first | exact Try.underlying138 | kernel_rfl
  a127 := by first | exact Try.isAgg138 | (intro w; kernel_rfl)
  z127 := by first | exact Try.sizeOf138 | (intro w; kernel_rfl)
  v127 := by first | exact Try.zeroValue138 | (intro w; kernel_rfl)
  t146 := by first | exact Try.underlying134 | kernel_rfl
  a146 := by first | exact Try.isAgg134 | (intro w; kernel_rfl)
  z146 := by first | exact Try.sizeOf134 | (intro w; kernel_rfl)
  v146 := by first | exact Try.zeroValue134 | (intro w; kernel_rfl)
  t148 := by first | exact Try.underlying136 | kernel_rfl
  a148 := by first | exact Try.isAgg136 | (intro w; kernel_rfl)
  z148 := by first | exact Try.sizeOf136 | (intro w; kernel_rfl)
  v148 := by first | exact Try.zeroValue136 | (intro w; kernel_rfl)
  t164 := by first | exact Try.underlying146 | kernel_rfl
  a164 := by first | exact Try.isAgg146 | (intro w; kernel_rfl)
  z164 := by first | exact Try.sizeOf146 | (intro w; kernel_rfl)
  v164 := by first | exact Try.zeroValue146 | (intro w; kernel_rfl) }
theorem repeat_extra : Go.Proofs.Builder.Extra Try.prog repeat_ren where
  sizeBuilder := by kernel_rfl
  liesBuilder := by kernel_rfl
  t5 := repeat_lays.t5
  a5 := repeat_lays.a5
  z5 := repeat_lays.z5
  v5 := repeat_lays.v5
  infoByte := by kernel_rfl
  cellsByte := by kernel_rfl
  sizeByte := by kernel_rfl
  neB5 := by decide
theorem rep_noughts (c : Nat) : Lib.repeatL [(0 : UInt8)] c = List.replicate c 0 := by
  have := Lib.repeatL_replicate 0 1 c
  simpa using this
theorem repeat_any : RepC := by
  intro c w hc
  refine (Any.strings_Repeat repeat_lays repeat_extra ⟨#[0]⟩ c w (by omega) (by show 1 * c ≤ _; omega)).mono ?_
  rintro e w' ⟨rfl, hb⟩
  refine ⟨?_, hb⟩
  show Ending.returned (.string ⟨(Lib.repeatL [(0 : UInt8)] c).toArray⟩) = _
  rw [rep_noughts]
theorem mdput (a b : List UInt8) (w : World) (hal : a.length ≤ 1000000) (hbl : b.length ≤ 1000000) :
    Calls Try.prog 58 #[.string ⟨a.toArray⟩, .string ⟨b.toArray⟩] w fun e w' => e = .returned (.tuple #[.string ⟨(mdV a b).toArray⟩, .int .i64 (mdE a b)]) ∧ Below w.heap.size w w' := mdput_any repeat_any a b w hal hbl
end Go.Proofs.Ytkmdgpfaaniibaa
