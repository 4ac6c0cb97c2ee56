/- Layer 13: the document's May, Put, Take. -/
import Derived.Test.YtkmdgpfaaniibaaZz
import Derived.Test.YtkmdgpfaaniibaaZzRt
import Derived.Deep.RegionHeld3
import Derived.StillTailTactics
namespace Go.Proofs.Ytkmdgpfaaniibaa
open Go.RowKit
set_option linter.unusedVariables false
set_option linter.unusedSimpArgs false
set_option maxRecDepth 100000

set_option maxHeartbeats 2000000 in
theorem refmay13_any (c : Ck) (w : World) (hl : c.a.length ≤ 1000000) :
    Calls Try.prog 27 #[CkV c] w fun e w' => e = .returned (.bool (ckM c)) ∧ Below w.heap.size w w' := by
  have KT := Lib.hid (fun w => reftake_any c.a w hl)
  have HB0 : Hid (Below w.heap.size w (w.alloc (.cells #[.int .u8 c.l.toNat, .bool c.r, .int .u8 c.i.toNat, .int .u32 c.q.toNat, .int .u16 c.m.toNat, .string ⟨c.a.toArray⟩] 40))) := Lib.hid ((Below.refl _ _).alloc (Nat.le_refl _) _)
  have HK0 : Hid (Blk (w.alloc (.cells #[.int .u8 c.l.toNat, .bool c.r, .int .u8 c.i.toNat, .int .u32 c.q.toNat, .int .u16 c.m.toNat, .string ⟨c.a.toArray⟩] 40)) w.heap.size 40 #[.int .u8 c.l.toNat, .bool c.r, .int .u8 c.i.toNat, .int .u32 c.q.toNat, .int .u16 c.m.toNat, .string ⟨c.a.toArray⟩]) := Lib.hid (Blk.new _ _ _)
  obtain ⟨E, hE⟩ : ∃ E, ptE c.a = E := ⟨_, rfl⟩
  clear hl
  by_cases h0 : E = 0
  · have e0 : (E == 0) = true := by simpa using h0
    by_cases h1 : c.l.toNat < 8
    · have p1 : decide ((c.l.toNat : Int) < 8) = true := decide_eq_true (by omega)
      by_cases h2 : c.i = 4
      · have e2 : ((c.i.toNat : Int) == 4) = true := by rw [h2]; rfl
        by_cases h4 : 0 < c.m.toNat
        · have p4 : decide (0 < c.m.toNat) = true := decide_eq_true (by omega)
          by_cases h5 : c.m.toNat < 8192
          · have p5 : decide ((c.m.toNat : Int) < 8192) = true := decide_eq_true (by omega)
            have HM : Hid (ckM c = true) := Lib.hid (by unfold ckM ckA; simp [*])
            have HEE := Lib.hid hE
            clear hE
            try clear h5
            try clear h4
            try clear h3
            try clear h2
            try clear h1
            try clear h0
            go_enter Try.func27, Try.ntmps27
            go_wp2_with fail
            refine (KT.out _).mono ?_
            rintro e w1 ⟨⟨a, b, q, hq, rfl⟩, hb1⟩
            obtain rfl := ((Tk.uniq hq (pt_is _)).2.2).trans HEE.out
            have HB1 : Hid (Below w.heap.size w w1) := Lib.hid (HB0.out.trans (hb1.mono HB0.out.size))
            have HK1 := Lib.hid (HK0.out.below hb1 HK0.out.lt)
            clear hb1 hq
            have k0 := HK1.out.cell 0
            have k1 := HK1.out.cell 1
            have k2 := HK1.out.cell 2
            have k3 := HK1.out.cell 3
            have k4 := HK1.out.cell 4
            have k5 := HK1.out.cell 5
            simp only [List.getElem?_toArray, List.getElem?_cons_succ, List.getElem?_cons_zero] at k0 k1 k2 k3 k4 k5
            go_wp2
            go_ret
            exact ⟨by rw [HM.out]; rfl, HB1.out⟩
          · have p5 : decide ((c.m.toNat : Int) < 8192) = false := decide_eq_false (by omega)
            have HM : Hid (ckM c = false) := Lib.hid (by unfold ckM ckA; simp [*])
            have HEE := Lib.hid hE
            clear hE
            try clear h5
            try clear h4
            try clear h3
            try clear h2
            try clear h1
            try clear h0
            go_enter Try.func27, Try.ntmps27
            go_wp2_with fail
            refine (KT.out _).mono ?_
            rintro e w1 ⟨⟨a, b, q, hq, rfl⟩, hb1⟩
            obtain rfl := ((Tk.uniq hq (pt_is _)).2.2).trans HEE.out
            have HB1 : Hid (Below w.heap.size w w1) := Lib.hid (HB0.out.trans (hb1.mono HB0.out.size))
            have HK1 := Lib.hid (HK0.out.below hb1 HK0.out.lt)
            clear hb1 hq
            have k0 := HK1.out.cell 0
            have k1 := HK1.out.cell 1
            have k2 := HK1.out.cell 2
            have k3 := HK1.out.cell 3
            have k4 := HK1.out.cell 4
            have k5 := HK1.out.cell 5
            simp only [List.getElem?_toArray, List.getElem?_cons_succ, List.getElem?_cons_zero] at k0 k1 k2 k3 k4 k5
            go_wp2
            go_ret
            exact ⟨by rw [HM.out]; rfl, HB1.out⟩
        · have p4 : decide (0 < c.m.toNat) = false := decide_eq_false (by omega)
          have HM : Hid (ckM c = false) := Lib.hid (by unfold ckM ckA; simp [*])
          have HEE := Lib.hid hE
          clear hE
          try clear h5
          try clear h4
          try clear h3
          try clear h2
          try clear h1
          try clear h0
          go_enter Try.func27, Try.ntmps27
          go_wp2_with fail
          refine (KT.out _).mono ?_
          rintro e w1 ⟨⟨a, b, q, hq, rfl⟩, hb1⟩
          obtain rfl := ((Tk.uniq hq (pt_is _)).2.2).trans HEE.out
          have HB1 : Hid (Below w.heap.size w w1) := Lib.hid (HB0.out.trans (hb1.mono HB0.out.size))
          have HK1 := Lib.hid (HK0.out.below hb1 HK0.out.lt)
          clear hb1 hq
          have k0 := HK1.out.cell 0
          have k1 := HK1.out.cell 1
          have k2 := HK1.out.cell 2
          have k3 := HK1.out.cell 3
          have k4 := HK1.out.cell 4
          have k5 := HK1.out.cell 5
          simp only [List.getElem?_toArray, List.getElem?_cons_succ, List.getElem?_cons_zero] at k0 k1 k2 k3 k4 k5
          go_wp2
          go_ret
          exact ⟨by rw [HM.out]; rfl, HB1.out⟩
      · have e2 : ((c.i.toNat : Int) == 4) = false := by rw [show ((c.i.toNat : Int) == 4) = (c.i == 4) from tl_eqI c.i 4]; simpa using h2
        by_cases h3 : c.i = 5
        · have e3 : ((c.i.toNat : Int) == 5) = true := by rw [h3]; rfl
          by_cases h4 : 0 < c.m.toNat
          · have p4 : decide (0 < c.m.toNat) = true := decide_eq_true (by omega)
            by_cases h5 : c.m.toNat < 8192
            · have p5 : decide ((c.m.toNat : Int) < 8192) = true := decide_eq_true (by omega)
              have HM : Hid (ckM c = true) := Lib.hid (by unfold ckM ckA; simp [*])
              have HEE := Lib.hid hE
              clear hE
              try clear h5
              try clear h4
              try clear h3
              try clear h2
              try clear h1
              try clear h0
              go_enter Try.func27, Try.ntmps27
              go_wp2_with fail
              refine (KT.out _).mono ?_
              rintro e w1 ⟨⟨a, b, q, hq, rfl⟩, hb1⟩
              obtain rfl := ((Tk.uniq hq (pt_is _)).2.2).trans HEE.out
              have HB1 : Hid (Below w.heap.size w w1) := Lib.hid (HB0.out.trans (hb1.mono HB0.out.size))
              have HK1 := Lib.hid (HK0.out.below hb1 HK0.out.lt)
              clear hb1 hq
              have k0 := HK1.out.cell 0
              have k1 := HK1.out.cell 1
              have k2 := HK1.out.cell 2
              have k3 := HK1.out.cell 3
              have k4 := HK1.out.cell 4
              have k5 := HK1.out.cell 5
              simp only [List.getElem?_toArray, List.getElem?_cons_succ, List.getElem?_cons_zero] at k0 k1 k2 k3 k4 k5
              go_wp2
              go_ret
              exact ⟨by rw [HM.out]; rfl, HB1.out⟩
            · have p5 : decide ((c.m.toNat : Int) < 8192) = false := decide_eq_false (by omega)
              have HM : Hid (ckM c = false) := Lib.hid (by unfold ckM ckA; simp [*])
              have HEE := Lib.hid hE
              clear hE
              try clear h5
              try clear h4
              try clear h3
              try clear h2
              try clear h1
              try clear h0
              go_enter Try.func27, Try.ntmps27
              go_wp2_with fail
              refine (KT.out _).mono ?_
              rintro e w1 ⟨⟨a, b, q, hq, rfl⟩, hb1⟩
              obtain rfl := ((Tk.uniq hq (pt_is _)).2.2).trans HEE.out
              have HB1 : Hid (Below w.heap.size w w1) := Lib.hid (HB0.out.trans (hb1.mono HB0.out.size))
              have HK1 := Lib.hid (HK0.out.below hb1 HK0.out.lt)
              clear hb1 hq
              have k0 := HK1.out.cell 0
              have k1 := HK1.out.cell 1
              have k2 := HK1.out.cell 2
              have k3 := HK1.out.cell 3
              have k4 := HK1.out.cell 4
              have k5 := HK1.out.cell 5
              simp only [List.getElem?_toArray, List.getElem?_cons_succ, List.getElem?_cons_zero] at k0 k1 k2 k3 k4 k5
              go_wp2
              go_ret
              exact ⟨by rw [HM.out]; rfl, HB1.out⟩
          · have p4 : decide (0 < c.m.toNat) = false := decide_eq_false (by omega)
            have HM : Hid (ckM c = false) := Lib.hid (by unfold ckM ckA; simp [*])
            have HEE := Lib.hid hE
            clear hE
            try clear h5
            try clear h4
            try clear h3
            try clear h2
            try clear h1
            try clear h0
            go_enter Try.func27, Try.ntmps27
            go_wp2_with fail
            refine (KT.out _).mono ?_
            rintro e w1 ⟨⟨a, b, q, hq, rfl⟩, hb1⟩
            obtain rfl := ((Tk.uniq hq (pt_is _)).2.2).trans HEE.out
            have HB1 : Hid (Below w.heap.size w w1) := Lib.hid (HB0.out.trans (hb1.mono HB0.out.size))
            have HK1 := Lib.hid (HK0.out.below hb1 HK0.out.lt)
            clear hb1 hq
            have k0 := HK1.out.cell 0
            have k1 := HK1.out.cell 1
            have k2 := HK1.out.cell 2
            have k3 := HK1.out.cell 3
            have k4 := HK1.out.cell 4
            have k5 := HK1.out.cell 5
            simp only [List.getElem?_toArray, List.getElem?_cons_succ, List.getElem?_cons_zero] at k0 k1 k2 k3 k4 k5
            go_wp2
            go_ret
            exact ⟨by rw [HM.out]; rfl, HB1.out⟩
        · have e3 : ((c.i.toNat : Int) == 5) = false := by rw [show ((c.i.toNat : Int) == 5) = (c.i == 5) from tl_eqI c.i 5]; simpa using h3
          have HM : Hid (ckM c = false) := Lib.hid (by unfold ckM ckA; simp [*])
          have HEE := Lib.hid hE
          clear hE
          try clear h5
          try clear h4
          try clear h3
          try clear h2
          try clear h1
          try clear h0
          go_enter Try.func27, Try.ntmps27
          go_wp2_with fail
          refine (KT.out _).mono ?_
          rintro e w1 ⟨⟨a, b, q, hq, rfl⟩, hb1⟩
          obtain rfl := ((Tk.uniq hq (pt_is _)).2.2).trans HEE.out
          have HB1 : Hid (Below w.heap.size w w1) := Lib.hid (HB0.out.trans (hb1.mono HB0.out.size))
          have HK1 := Lib.hid (HK0.out.below hb1 HK0.out.lt)
          clear hb1 hq
          have k0 := HK1.out.cell 0
          have k1 := HK1.out.cell 1
          have k2 := HK1.out.cell 2
          have k3 := HK1.out.cell 3
          have k4 := HK1.out.cell 4
          have k5 := HK1.out.cell 5
          simp only [List.getElem?_toArray, List.getElem?_cons_succ, List.getElem?_cons_zero] at k0 k1 k2 k3 k4 k5
          go_wp2
          go_ret
          exact ⟨by rw [HM.out]; rfl, HB1.out⟩
    · have p1 : decide ((c.l.toNat : Int) < 8) = false := decide_eq_false (by omega)
      have HM : Hid (ckM c = false) := Lib.hid (by unfold ckM ckA; simp [*])
      have HEE := Lib.hid hE
      clear hE
      try clear h5
      try clear h4
      try clear h3
      try clear h2
      try clear h1
      try clear h0
      go_enter Try.func27, Try.ntmps27
      go_wp2_with fail
      refine (KT.out _).mono ?_
      rintro e w1 ⟨⟨a, b, q, hq, rfl⟩, hb1⟩
      obtain rfl := ((Tk.uniq hq (pt_is _)).2.2).trans HEE.out
      have HB1 : Hid (Below w.heap.size w w1) := Lib.hid (HB0.out.trans (hb1.mono HB0.out.size))
      have HK1 := Lib.hid (HK0.out.below hb1 HK0.out.lt)
      clear hb1 hq
      have k0 := HK1.out.cell 0
      have k1 := HK1.out.cell 1
      have k2 := HK1.out.cell 2
      have k3 := HK1.out.cell 3
      have k4 := HK1.out.cell 4
      have k5 := HK1.out.cell 5
      simp only [List.getElem?_toArray, List.getElem?_cons_succ, List.getElem?_cons_zero] at k0 k1 k2 k3 k4 k5
      go_wp2
      go_ret
      exact ⟨by rw [HM.out]; rfl, HB1.out⟩
  · have e0 : (E == 0) = false := by simpa using h0
    have HM : Hid (ckM c = false) := Lib.hid (by unfold ckM ckA; simp [*])
    have HEE := Lib.hid hE
    clear hE
    try clear h5
    try clear h4
    try clear h3
    try clear h2
    try clear h1
    try clear h0
    go_enter Try.func27, Try.ntmps27
    go_wp2_with fail
    refine (KT.out _).mono ?_
    rintro e w1 ⟨⟨a, b, q, hq, rfl⟩, hb1⟩
    obtain rfl := ((Tk.uniq hq (pt_is _)).2.2).trans HEE.out
    have HB1 : Hid (Below w.heap.size w w1) := Lib.hid (HB0.out.trans (hb1.mono HB0.out.size))
    have HK1 := Lib.hid (HK0.out.below hb1 HK0.out.lt)
    clear hb1 hq
    have k0 := HK1.out.cell 0
    have k1 := HK1.out.cell 1
    have k2 := HK1.out.cell 2
    have k3 := HK1.out.cell 3
    have k4 := HK1.out.cell 4
    have k5 := HK1.out.cell 5
    simp only [List.getElem?_toArray, List.getElem?_cons_succ, List.getElem?_cons_zero] at k0 k1 k2 k3 k4 k5
    go_wp2
    go_ret
    exact ⟨by rw [HM.out]; rfl, HB1.out⟩
end Go.Proofs.Ytkmdgpfaaniibaa
