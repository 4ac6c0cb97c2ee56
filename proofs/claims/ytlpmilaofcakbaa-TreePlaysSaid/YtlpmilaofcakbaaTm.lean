/- Layer 9: a machine of the tree: its ports and words, as plain data; what choosing, ticking and hearing make of it. -/
import Derived.Test.YtlpmilaofcakbaaBp
import Derived.Test.YtlpmilaofcakbaaMin
namespace Go.Proofs.Ytlpmilaofcakbaa
open Go.RowKit
set_option linter.unusedVariables false
set_option linter.unusedSimpArgs false
set_option maxRecDepth 100000

/-- a port -/
structure Sd where
  cost : Int
  up : Bool
  b : Bp
  la : Int
  ag : Bool
  sp : Int
  deriving DecidableEq, Inhabited
/-- a machine; `inn` is its root port, or 8 -/
structure Mch where
  id : Int
  ps : List Sd
  root : Int
  cost : Int
  inn : Int
  hops : Int
  ver : Int
  fl : List Bool
  deriving DecidableEq, Inhabited
def Sd.zero : Sd := ⟨0, false, Bp.zero, 0, false, 0⟩
/-- is it a link port that is up? -/
def Sd.live (p : Sd) : Bool := p.up && decide (0 < p.cost)
/-- the way by a port: is there one? -/
def Sd.okFar (p : Sd) (id : Int) : Bool := !(p.la == 0 || !(p.b.role == 2) || p.b.v.b == id || decide (20 ≤ p.b.h)) && farB p.b.v p.cost
/-- the paths by the ports from number k on -/
def pathsFrom (id : Int) : Nat → List Sd → List Pa
  | _, [] => []
  | k, p :: l => if p.okFar id then ⟨farV p.b.v p.cost, k⟩ :: pathsFrom id (k + 1) l else pathsFrom id (k + 1) l
def Mch.paths (M : Mch) : List Pa := pathsFrom M.id 0 M.ps
def Mch.port (M : Mch) (i : Nat) : Sd := M.ps.getD i Sd.zero
/-- is there a way to a root that is less than itself? -/
def Mch.fit (M : Mch) : Bool := !M.paths.isEmpty && decide ((minP M.paths).v.r < M.id)
def Mch.bRoot (M : Mch) : Int := if M.fit then (minP M.paths).v.r else M.id
def Mch.bCost (M : Mch) : Int := if M.fit then (minP M.paths).v.c else 0
def Mch.bIn (M : Mch) : Int := if M.fit then (minP M.paths).i else 8
def Mch.bHops (M : Mch) : Int := if M.fit then (M.port (minP M.paths).i.toNat).b.h + 1 else 0
/-- its own vector by a port -/
def Mch.own (M : Mch) (i : Nat) : Ve := ⟨M.root, M.cost, M.id, i⟩
/-- the role of a port that there is -/
def Mch.roleOf (M : Mch) (i : Nat) (p : Sd) : Nat :=
  if !p.up then 0 else if !p.live then 5 else if (i : Int) = M.inn then 1
  else if p.la = 0 ∨ lessV (M.own i) p.b.v = true then 2 else if p.b.v.b = M.id then 4 else 3
/-- the role of a port -/
def Mch.role (M : Mch) (i : Nat) : Nat := if i < M.ps.length then M.roleOf i (M.port i) else 0
def Mch.fwd (M : Mch) (i : Nat) : Bool := M.role i == 5 || M.role i == 1 || (M.role i == 2 && (M.port i).ag)
def wrap64 (x : Int) : Int := IntKind.u64.wrap x
/-- the way as it is best -/
def Mch.put (M : Mch) : Mch := { M with root := M.bRoot, cost := M.bCost, inn := M.bIn, hops := M.bHops }
def Sd.chg (p : Sd) : Sd := { p with ag := false, sp := if p.live then 4 else p.sp }
/-- another way -/
def Mch.change (M : Mch) : Mch := { M with ver := wrap64 (M.ver + 1), ps := M.ps.map Sd.chg, fl := M.fl.map fun _ => true }
def Mch.settle (M : Mch) : Mch := { M with ps := M.ps.mapIdx fun i p => { p with ag := p.ag && (M.roleOf i p == 2) } }
def Mch.sameWay (M : Mch) : Bool := decide (M.bRoot = M.root ∧ M.bCost = M.cost ∧ M.bIn = M.inn)
def Mch.choose (M : Mch) : Mch := (if M.sameWay then M.put else M.put.change).settle
def Mch.setP (M : Mch) (i : Nat) (p : Sd) : Mch := { M with ps := M.ps.set i p }
def Sd.reset (p : Sd) (u : Bool) : Sd := { Sd.zero with cost := p.cost, up := u }
def Mch.upP (M : Mch) (i : Nat) : Mch := if i < M.ps.length ∧ (M.port i).up = false then (M.setP i ((M.port i).reset true)).choose else M
def Mch.downP (M : Mch) (i : Nat) : Mch := if i < M.ps.length ∧ (M.port i).up = true then ({ M.setP i ((M.port i).reset false) with fl := M.fl.set i true }).choose else M
/-- the word of a port -/
def Mch.word (M : Mch) (i : Nat) : Bp :=
  { v := M.own i, h := M.hops, ver := M.ver, role := if M.role i = 1 then 1 else if M.role i = 2 then 2 else 3, pr := M.role i == 2 && !(M.port i).ag, ag := M.role i == 1,
    tp := decide (0 < (M.port i).sp), ec := if M.role i = 1 then (M.port i).b.ver else 0 }
/-- the words of the link ports that are up, of those that f tells -/
def Mch.send (M : Mch) (f : Nat → Bool) : List (Nat × Bp) := ((List.range M.ps.length).filter fun i => (M.port i).live && f i).map fun i => (i, M.word i)
def Sd.less (p : Sd) : Sd := { p with la := max 0 (p.la - 1) }
def Sd.lessS (p : Sd) : Sd := { p with sp := max 0 (p.sp - 1) }
def Mch.tick1 (M : Mch) : Mch := ({ M with ps := M.ps.map Sd.less }).choose
def Mch.tick (M : Mch) : Mch := { M.tick1 with ps := M.tick1.ps.map Sd.lessS }
def Mch.tickS (M : Mch) : List (Nat × Bp) := M.tick1.send fun _ => true
def Mch.hear1 (M : Mch) (i : Nat) (b : Bp) : Mch := (M.setP i { M.port i with b := b, la := 3 }).choose
def Mch.hear2 (M : Mch) (i : Nat) (b : Bp) : Mch := if M.role i = 2 ∧ b.ag = true ∧ b.ec = M.ver then M.setP i { M.port i with ag := true } else M
def Sd.spr (p : Sd) : Sd := if p.live = true ∧ p.sp = 0 then { p with sp := 4 } else p
def Mch.spread (M : Mch) (i : Nat) : Mch := { M with ps := M.ps.mapIdx fun k p => if k = i then p else p.spr, fl := M.fl.mapIdx fun k x => if k = i then x else true }
def along (role word : Int) : Bool := (role == 1 && word == 2) || (role == 2 && word == 1)
def Mch.hear3 (M : Mch) (i : Nat) (b : Bp) (r : Nat) : Mch := if b.tp = true ∧ along r b.role = true then M.spread i else M
def Mch.hear (M : Mch) (i : Nat) (b : Bp) : Mch :=
  if i < M.ps.length ∧ (M.port i).live = true then ((M.hear1 i b).hear2 i b).hear3 i b ((M.hear1 i b).role i) else M
def Mch.hearS (M : Mch) (i : Nat) (b : Bp) : List (Nat × Bp) :=
  if i < M.ps.length ∧ (M.port i).live = true then (M.hear i b).send (fun k => k == i && (M.hear1 i b).role i == 1 && b.pr) else []
/-- a set of ports as a number -/
def flN : List Bool → Nat
  | [] => 0
  | b :: r => 2 * flN r + b.toNat
theorem flN_test : ∀ (l : List Bool) (i : Nat), (flN l).testBit i = l.getD i false
  | [], i => by simp [flN]
  | b :: r, 0 => by cases b <;> simp [flN, Nat.testBit_zero] <;> omega
  | b :: r, i + 1 => by
    rw [Nat.testBit_succ]
    have : flN (b :: r) / 2 = flN r := by cases b <;> simp [flN] <;> omega
    rw [this, flN_test r i]
    simp
theorem flN_lt : ∀ (l : List Bool), flN l < 2 ^ l.length
  | [] => by simp [flN]
  | b :: r => by
    have := flN_lt r
    cases b <;> simp [flN, Nat.pow_succ] <;> omega
theorem flN_set (l : List Bool) (i : Nat) (hi : i < l.length) : flN l ||| (1 <<< i) = flN (l.set i true) := by
  apply Nat.eq_of_testBit_eq
  intro j
  rw [Nat.testBit_or, flN_test, flN_test, Nat.one_shiftLeft, Nat.testBit_two_pow]
  by_cases e : i = j
  · subst e
    simp [List.getD_eq_getElem?_getD, hi]
  · simp [List.getD_eq_getElem?_getD, List.getElem?_set_ne e, e]

/-- a port as cells -/
def sdV (p : Sd) : List Value := [.int .u32 p.cost, .bool p.up] ++ encBp p.b ++ [.int .i64 p.la, .bool p.ag, .int .i64 p.sp]
theorem sdV_len (p : Sd) : (sdV p).length = 16 := rfl
def Mch.pad (M : Mch) : List Sd := M.ps ++ List.replicate (8 - M.ps.length) Sd.zero
def mchV (M : Mch) : List Value := [.int .u64 M.id, .int .u8 (M.ps.length : Nat)] ++ M.pad.flatMap sdV ++ [.int .u64 M.root, .int .u32 M.cost, .int .u8 M.inn, .int .u8 M.hops, .int .u64 M.ver, .int .u8 (flN M.fl : Nat)]
/-- the program's machine at g -/
def MaP (w : World) (g : Nat) (M : Mch) : Prop := Blk w g 90 (mchV M).toArray
end Go.Proofs.Ytlpmilaofcakbaa
