/- corrodylaw14: known, LexerWords. (Written by wip/gen/genlxw.py.) -/
import Derived.Test.YtfceoehfellpgaaGreatDoorLxK
import Derived.Test.YtfceoehfellpgaaGreatDoorRowRel
namespace Go.Proofs.YtfceoehfellpgaaGreatDoor
set_option maxRecDepth 8000
open Go.RowKit Go.PlainAid Corr
set_option linter.unusedVariables false
set_option linter.unusedSimpArgs false
theorem lxk0 : lexL { data := #[97, 49, 60, 61, 50, 46, 53] } = ([tk 1 { data := #[97, 49] } 0 0 0, tk 3 { data := #[60, 61] } 0 0 2, tk 2 { data := #[50, 46, 53] } 25 1 4], 0, 0) := by decide +kernel
theorem lxk1 : lexL { data := #[97, 49, 60, 61, 50, 46, 53, 48] } = ([], 4, 4) := by decide +kernel
theorem lxk2 : lexL { data := #[97, 32, 35, 32, 98] } = ([], 2, 4) := by decide +kernel
theorem lxk3 : nameB { data := #[97, 49] } = true := by decide +kernel
theorem lxk4 : nameB { data := #[108, 97, 103] } = false := by decide +kernel
theorem lxkn0 {G : World → Prop} (K : LxK G) (w : World) (g : G w) : Calls Tryz.prog 5 #[.string { data := #[97, 49, 60, 61, 50, 46, 53] }] w (RetLex 33 w ([tk 1 { data := #[97, 49] } 0 0 0, tk 3 { data := #[60, 61] } 0 0 2, tk 2 { data := #[50, 46, 53] } 25 1 4], 0, 0)) := by
  have h := K.lex { data := #[97, 49, 60, 61, 50, 46, 53] } w (by decide) g; rw [lxk0] at h; exact h
theorem lxkn1 {G : World → Prop} (K : LxK G) (w : World) (g : G w) : Calls Tryz.prog 5 #[.string { data := #[97, 49, 60, 61, 50, 46, 53, 48] }] w (RetLex 33 w ([], 4, 4)) := by
  have h := K.lex { data := #[97, 49, 60, 61, 50, 46, 53, 48] } w (by decide) g; rw [lxk1] at h; exact h
theorem lxkn2 {G : World → Prop} (K : LxK G) (w : World) (g : G w) : Calls Tryz.prog 5 #[.string { data := #[97, 32, 35, 32, 98] }] w (RetLex 33 w ([], 2, 4)) := by
  have h := K.lex { data := #[97, 32, 35, 32, 98] } w (by decide) g; rw [lxk2] at h; exact h
theorem lxkn3 {G : World → Prop} (K : LxK G) (w : World) (g : G w) : Calls Tryz.prog 8 #[.string { data := #[97, 49] }] w fun e w' => e = .returned (.bool true) ∧ Below w.heap.size w w' := by
  have h := K.name { data := #[97, 49] } w (by decide) g; rw [lxk3] at h; exact h
theorem lxkn4 {G : World → Prop} (K : LxK G) (w : World) (g : G w) : Calls Tryz.prog 8 #[.string { data := #[108, 97, 103] }] w fun e w' => e = .returned (.bool false) ∧ Below w.heap.size w w' := by
  have h := K.name { data := #[108, 97, 103] } w (by decide) g; rw [lxk4] at h; exact h
set_option maxHeartbeats 4000000 in
theorem lxknown_any {G : World → Prop} (K : LxK G) (w : World) (g : G w) : Calls Tryz.prog 4 #[] w fun e w' => e = .returned (.bool true) ∧ Below w.heap.size w w' := by
  have HK := Lib.hid K
  have HG := Lib.hid g
  clear K g
  go_enter Tryz.func4, Tryz.ntmps4
  go_wp2_with fail
  refine (lxkn0 HK.out _ HG.out).mono ?_
  rintro e w1 ⟨A, n, c, rfl, ho, b1⟩
  have HT := Lib.hid (own_lies ho)
  obtain rfl : 3 = n := Tks.count HT.out
  have HB1 := Lib.hid b1
  have HG1 := Lib.hid (HK.out.keep HG.out b1)
  clear ho b1
  go_wp2_with fail
  refine (lxkn1 HK.out _ HG1.out).mono ?_
  rintro e w2 ⟨A2, n2, c2, rfl, _, b2⟩
  have HB2 := Lib.hid (HB1.out.trans (b2.mono HB1.out.size))
  have HT2 := Lib.hid (HT.out.keep b2)
  have HG2 := Lib.hid (HK.out.keep HG1.out b2)
  clear b2
  go_wp2_with fail
  refine (lxkn2 HK.out _ HG2.out).mono ?_
  rintro e w3 ⟨A3, n3, c3, rfl, _, b3⟩
  have HB3 := Lib.hid (HB2.out.trans (b3.mono HB2.out.size))
  have HG3 := Lib.hid (HK.out.keep HG2.out b3)
  have HT3 := Lib.hid (HT2.out.keep b3)
  clear b3
  obtain ⟨g, o, s, rfl, hs, hg, d0, d1, d2, d3, d4⟩ := Tks.get HT3.out (k := 1) (by decide)
  obtain rfl : tk 3 { data := #[60, 61] } 0 0 2 = s := by simpa using hs
  obtain ⟨g', o', s', hA, hs', hg', f0, f1, f2, f3, f4⟩ := Tks.get HT3.out (k := 2) (by decide)
  obtain rfl : tk 2 { data := #[50, 46, 53] } 25 1 4 = s' := by simpa using hs'
  injection hA with hA
  injection hA with hA1 hA2
  subst hA1 hA2
  simp only [Nat.reduceMul] at d0 d1 d2 d3 d4 f0 f1 f2 f3 f4
  clear hs hs'
  go_wp2_with fail
  refine (lxkn3 HK.out _ HG3.out).mono ?_
  rintro e w4 ⟨rfl, b4⟩
  have HB4 := Lib.hid (HB3.out.trans (b4.mono HB3.out.size))
  have HG4 := Lib.hid (HK.out.keep HG3.out b4)
  clear b4
  go_wp2_with fail
  refine (lxkn4 HK.out _ HG4.out).mono ?_
  rintro e w5 ⟨rfl, b5⟩
  have HB5 := Lib.hid (HB4.out.trans (b5.mono HB4.out.size))
  clear b5
  go_wp2_with fail
  go_ret
  exact ⟨rfl, HB5.out⟩
set_option maxHeartbeats 4000000 in
theorem lxwords_any {G : World → Prop} (K : LxK G) (s nm : ByteArray) (w : World) (g : G w) : Calls Tryz.prog 3 #[.string s, .string nm] w fun e w' => e = .returned (.bool true) ∧ Below w.heap.size w w' := by
  have HK := Lib.hid K
  have HG := Lib.hid g
  clear K g
  by_cases h1 : 500 < s.size
  · have d1 : decide ((s.size : Int) > 500) = true := decide_eq_true (by omega)
    clear h1
    go_enter Tryz.func3, Tryz.ntmps3
    go_wp2_with fail
    refine (lxknown_any HK.out _ HG.out).mono ?_
    rintro e w1 ⟨rfl, b1⟩
    have HB1 := Lib.hid b1
    go_wp2_with fail
    go_ret
    exact ⟨rfl, HB1.out⟩
  have d1 : decide ((s.size : Int) > 500) = false := decide_eq_false (by omega)
  by_cases h2 : 100 < nm.size
  · have d2 : decide ((nm.size : Int) > 100) = true := decide_eq_true (by omega)
    clear h1 h2
    go_enter Tryz.func3, Tryz.ntmps3
    go_wp2_with fail
    refine (lxknown_any HK.out _ HG.out).mono ?_
    rintro e w1 ⟨rfl, b1⟩
    have HB1 := Lib.hid b1
    go_wp2_with fail
    go_ret
    exact ⟨rfl, HB1.out⟩
  have d2 : decide ((nm.size : Int) > 100) = false := decide_eq_false (by omega)
  have HLN := Lib.hid (show (lexL s).1.length ≤ 500 from Nat.le_trans (lexL_len s) (by omega))
  have HL1 := Lib.hid (fun w g => HK.out.lex s w (by omega) g)
  have HL2 := Lib.hid (fun w => lex_any s w (by omega))
  have HN1 := Lib.hid (fun w g => HK.out.name nm w (by omega) g)
  have HN2 := Lib.hid (fun w => name_any nm w (by omega))
  obtain ⟨R, hR⟩ : ∃ R, lexL s = R := ⟨_, rfl⟩
  rw [hR] at HLN HL1 HL2
  obtain ⟨b, hbn⟩ : ∃ b, nameB nm = b := ⟨_, rfl⟩
  rw [hbn] at HN1 HN2
  clear hR hbn h1 h2
  obtain ⟨R, p, x⟩ := R
  simp only [RetLex] at HL1 HL2 HLN
  go_enter Tryz.func3, Tryz.ntmps3
  go_wp2_with fail
  refine (HL1.out _ HG.out).mono ?_
  rintro e w1 ⟨A, n, c, rfl, ho, b1⟩
  have HT := Lib.hid (show Tks w1 A n c R from own_lies ho)
  have HB1 := Lib.hid b1
  have HG1 := Lib.hid (HK.out.keep HG.out b1)
  clear ho b1
  go_wp2_with fail
  refine (HL2.out _).mono ?_
  rintro e w2 ⟨A2, n2, c2, rfl, ho2, b2⟩
  have HB2 := Lib.hid (HB1.out.trans (b2.mono HB1.out.size))
  have HT2 := Lib.hid (HT.out.keep b2)
  have HU2 := Lib.hid (show Tks w2 A2 n2 c2 R from own_lies ho2)
  have HG2 := Lib.hid (HK.out.keep HG1.out b2)
  clear ho2 b2
  have HSM := Lib.hid (same14_any _ _ _ _ _ _ _ _ w2 HT2.out HU2.out (by have := Tks.count HT2.out; have := HLN.out; omega) (by have := Tks.count HU2.out; have := HLN.out; omega))
  rw [decide_eq_true rfl] at HSM
  go_wp2_with fail
  refine HSM.out.mono ?_
  rintro e w3 ⟨rfl, b3⟩
  have HB3 := Lib.hid (HB2.out.trans (b3.mono HB2.out.size))
  have HG3 := Lib.hid (HK.out.keep HG2.out b3)
  clear b3
  go_wp2_with fail
  refine (HN1.out _ HG3.out).mono ?_
  rintro e w4 ⟨rfl, b4⟩
  have HB4 := Lib.hid (HB3.out.trans (b4.mono HB3.out.size))
  have HG4 := Lib.hid (HK.out.keep HG3.out b4)
  clear b4
  go_wp2_with fail
  refine (HN2.out _).mono ?_
  rintro e w5 ⟨rfl, hw5⟩
  obtain rfl := hw5.symm
  go_wp2_with fail
  refine (lxknown_any HK.out _ HG4.out).mono ?_
  rintro e w6 ⟨rfl, b6⟩
  have HB6 := Lib.hid (HB4.out.trans (b6.mono HB4.out.size))
  clear b6
  go_wp2_with fail
  go_ret
  exact ⟨rfl, HB6.out⟩
end Go.Proofs.YtfceoehfellpgaaGreatDoor
