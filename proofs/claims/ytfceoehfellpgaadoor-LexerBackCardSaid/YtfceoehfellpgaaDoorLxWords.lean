/- corrodylaw14: known, LexerWords. (Written by wip/gen/genlxw.py.) -/
import Derived.Test.YtfceoehfellpgaaDoorLxK
import Derived.Test.YtfceoehfellpgaaDoorRowRel
namespace Go.Proofs.YtfceoehfellpgaaDoor
set_option maxRecDepth 8000
open Go.RowKit Go.PlainAid Corr
set_option linter.unusedVariables false
set_option linter.unusedSimpArgs false
theorem lxk0 : lexL { data := #[97, 49, 60, 61, 50, 46, 53] } = ([tk 1 { data := #[97, 49] } 0 0 0, tk 3 { data := #[60, 61] } 0 0 2, tk 2 { data := #[50, 46, 53] } 25 1 4], 0, 0) := by decide +kernel
theorem lxk1 : lexL { data := #[97, 49, 60, 61, 50, 46, 53, 48] } = ([], 4, 4) := by decide +kernel
theorem lxk2 : lexL { data := #[97, 32, 35, 32, 98] } = ([], 2, 4) := by decide +kernel
theorem lxk3 : nameB { data := #[97, 49] } = true := by decide +kernel
theorem lxk4 : nameB { data := #[108, 97, 103] } = false := by decide +kernel
theorem lxkn0 {G : World → Prop} (K : LxK G) (w : World) (g : G w) : Calls Tryd.prog 5 #[.string { data := #[97, 49, 60, 61, 50, 46, 53] }] w (RetLex 31 w ([tk 1 { data := #[97, 49] } 0 0 0, tk 3 { data := #[60, 61] } 0 0 2, tk 2 { data := #[50, 46, 53] } 25 1 4], 0, 0)) := by
  have h := K.lex { data := #[97, 49, 60, 61, 50, 46, 53] } w (by decide) g; rw [lxk0] at h; exact h
theorem lxkn1 {G : World → Prop} (K : LxK G) (w : World) (g : G w) : Calls Tryd.prog 5 #[.string { data := #[97, 49, 60, 61, 50, 46, 53, 48] }] w (RetLex 31 w ([], 4, 4)) := by
  have h := K.lex { data := #[97, 49, 60, 61, 50, 46, 53, 48] } w (by decide) g; rw [lxk1] at h; exact h
theorem lxkn2 {G : World → Prop} (K : LxK G) (w : World) (g : G w) : Calls Tryd.prog 5 #[.string { data := #[97, 32, 35, 32, 98] }] w (RetLex 31 w ([], 2, 4)) := by
  have h := K.lex { data := #[97, 32, 35, 32, 98] } w (by decide) g; rw [lxk2] at h; exact h
theorem lxkn3 {G : World → Prop} (K : LxK G) (w : World) (g : G w) : Calls Tryd.prog 8 #[.string { data := #[97, 49] }] w fun e w' => e = .returned (.bool true) ∧ Below w.heap.size w w' := by
  have h := K.name { data := #[97, 49] } w (by decide) g; rw [lxk3] at h; exact h
theorem lxkn4 {G : World → Prop} (K : LxK G) (w : World) (g : G w) : Calls Tryd.prog 8 #[.string { data := #[108, 97, 103] }] w fun e w' => e = .returned (.bool false) ∧ Below w.heap.size w w' := by
  have h := K.name { data := #[108, 97, 103] } w (by decide) g; rw [lxk4] at h; exact h
set_option maxHeartbeats 4000000 in
theorem lxknown_any {G : World → Prop} (K : LxK G) (w : World) (g : G w) : Calls Tryd.prog 4 #[] w fun e w' => e = .returned (.bool true) ∧ Below w.heap.size w w' := by
  have HK := Lib.hid K
  have HG := Lib.hid g
  clear K g
  go_enter Tryd.func4, Tryd.ntmps4
  go_wp2_with fail
  refine (lxkn0 HK.out _ HG.out).mono ?_
  rintro e w1 ⟨A, n, c, rfl, ho, b1⟩
  have HT := Lib.hid (own_lies ho)
  obtain rfl : 3 = n := Tks.count HT.out
  have HB1 := Lib.hid b1
  have HG1 := Lib.hid (HK.out.keep HG.out b1)
  clear ho b1
  go_wp2_with fail
  refine (lxkn1 HK.out _ HG1.out).mono ?_
  rintro e w2 ⟨A2, n2, c2, rfl, _, b2⟩
  have HB2 := Lib.hid (HB1.out.trans (b2.mono HB1.out.size))
  have HT2 := Lib.hid (HT.out.keep b2)
  have HG2 := Lib.hid (HK.out.keep HG1.out b2)
  clear b2
  go_wp2_with fail
  refine (lxkn2 HK.out _ HG2.out).mono ?_
  rintro e w3 ⟨A3, n3, c3, rfl, _, b3⟩
  have HB3 := Lib.hid (HB2.out.trans (b3.mono HB2.out.size))
  have HG3 := Lib.hid (HK.out.keep HG2.out b3)
  have HT3 := Lib.hid (HT2.out.keep b3)
  clear b3
  obtain ⟨g, o, s, rfl, hs, hg, d0, d1, d2, d3, d4⟩ := Tks.get HT3.out (k := 1) (by decide)
  obtain rfl : tk 3 { data := #[60, 61] } 0 0 2 = s := by simpa using hs
  obtain ⟨g', o', s', hA, hs', hg', f0, f1, f2, f3, f4⟩ := Tks.get HT3.out (k := 2) (by decide)
  obtain rfl : tk 2 { data := #[50, 46, 53] } 25 1 4 = s' := by simpa using hs'
  injection hA with hA
  injection hA with hA1 hA2
  subst hA1 hA2
  simp only [Nat.reduceMul] at d0 d1 d2 d3 d4 f0 f1 f2 f3 f4
  clear hs hs'
  go_wp2_with fail
  refine (lxkn3 HK.out _ HG3.out).mono ?_
  rintro e w4 ⟨rfl, b4⟩
  have HB4 := Lib.hid (HB3.out.trans (b4.mono HB3.out.size))
  have HG4 := Lib.hid (HK.out.keep HG3.out b4)
  clear b4
  go_wp2_with fail
  refine (lxkn4 HK.out _ HG4.out).mono ?_
  rintro e w5 ⟨rfl, b5⟩
  have HB5 := Lib.hid (HB4.out.trans (b5.mono HB4.out.size))
  clear b5
  go_wp2_with fail
  go_ret
  exact ⟨rfl, HB5.out⟩
end Go.Proofs.YtfceoehfellpgaaDoor
