/- The contract of corrodylaw03.known. (Written by wip/gen/gentx6.py.) -/
import Derived.Test.YtmccmgplgdmjbaaDoorTx3
import Derived.Test.YtmccmgplgdmjbaaDoorTx4
namespace Go.Proofs.YtmccmgplgdmjbaaDoor
set_option maxRecDepth 8000
open Go.RowKit Go.PlainAid Corr
set_option linter.unusedVariables false
set_option linter.unusedSimpArgs false
theorem no_form (l : List UInt8) (h : pE l = 4) : pC l = 0 ∧ pS l = 0 ∧ pE l = 4 := by
  unfold pC pS; rw [h]; exact ⟨rfl, rfl, rfl⟩
theorem known_parse0 (w : World) (g : GV w) : Calls Tryd.prog 6 #[.string { data := #[49, 46, 53, 48] }] w fun e w' => e = .returned (.tuple #[.agg #[.int .i64 0, .int .i64 0], .int .i64 4]) ∧ Below w.heap.size w w' := by
  have h := parse_any { data := #[49, 46, 53, 48] } w (by decide) g
  obtain ⟨h1, h2, h3⟩ := no_form [49, 46, 53, 48] (by decide +kernel)
  rw [show ({ data := #[49, 46, 53, 48] } : ByteArray).data.toList = [49, 46, 53, 48] from rfl, h1, h2, h3] at h
  exact h
theorem known_parse1 (w : World) (g : GV w) : Calls Tryd.prog 6 #[.string { data := #[46, 53] }] w fun e w' => e = .returned (.tuple #[.agg #[.int .i64 0, .int .i64 0], .int .i64 4]) ∧ Below w.heap.size w w' := by
  have h := parse_any { data := #[46, 53] } w (by decide) g
  obtain ⟨h1, h2, h3⟩ := no_form [46, 53] (by decide +kernel)
  rw [show ({ data := #[46, 53] } : ByteArray).data.toList = [46, 53] from rfl, h1, h2, h3] at h
  exact h
theorem known_parse2 (w : World) (g : GV w) : Calls Tryd.prog 6 #[.string { data := #[48, 49] }] w fun e w' => e = .returned (.tuple #[.agg #[.int .i64 0, .int .i64 0], .int .i64 4]) ∧ Below w.heap.size w w' := by
  have h := parse_any { data := #[48, 49] } w (by decide) g
  obtain ⟨h1, h2, h3⟩ := no_form [48, 49] (by decide +kernel)
  rw [show ({ data := #[48, 49] } : ByteArray).data.toList = [48, 49] from rfl, h1, h2, h3] at h
  exact h
theorem known_parse3 (w : World) (g : GV w) : Calls Tryd.prog 6 #[.string { data := #[45, 48] }] w fun e w' => e = .returned (.tuple #[.agg #[.int .i64 0, .int .i64 0], .int .i64 4]) ∧ Below w.heap.size w w' := by
  have h := parse_any { data := #[45, 48] } w (by decide) g
  obtain ⟨h1, h2, h3⟩ := no_form [45, 48] (by decide +kernel)
  rw [show ({ data := #[45, 48] } : ByteArray).data.toList = [45, 48] from rfl, h1, h2, h3] at h
  exact h
theorem known_parse4 (w : World) (g : GV w) : Calls Tryd.prog 6 #[.string { data := #[49, 46] }] w fun e w' => e = .returned (.tuple #[.agg #[.int .i64 0, .int .i64 0], .int .i64 4]) ∧ Below w.heap.size w w' := by
  have h := parse_any { data := #[49, 46] } w (by decide) g
  obtain ⟨h1, h2, h3⟩ := no_form [49, 46] (by decide +kernel)
  rw [show ({ data := #[49, 46] } : ByteArray).data.toList = [49, 46] from rfl, h1, h2, h3] at h
  exact h
theorem known_text0 (w : World) : Calls Tryd.prog 8 #[.agg #[.int .i64 125, .int .i64 3]] w fun e w' => e = .returned (.string { data := #[48, 46, 49, 50, 53] }) ∧ Below w.heap.size w w' := by
  have h := text_any 125 3 w (by omega) (by omega) (by omega)
  have hf : Corr.Form [48, 46, 49, 50, 53] false [48] [49, 50, 53] := ⟨by decide +kernel, by decide +kernel, by decide +kernel, by decide +kernel⟩
  have ht := txt_form hf
  rw [show fval false [48] [49, 50, 53] = 125 by decide +kernel, show List.length ([49, 50, 53] : List UInt8) = 3 from rfl] at ht
  rw [show mC (nine 125 3) 9 = 125 by decide +kernel, show mS (nine 125 3) 9 = 3 by decide +kernel, ht] at h
  exact h
theorem known_text1 (w : World) : Calls Tryd.prog 8 #[.agg #[.int .i64 (-7), .int .i64 0]] w fun e w' => e = .returned (.string { data := #[45, 55] }) ∧ Below w.heap.size w w' := by
  have h := text_any (-7) 0 w (by omega) (by omega) (by omega)
  have hf : Corr.Form [45, 55] true [55] [] := ⟨by decide +kernel, by decide +kernel, by decide +kernel, by decide +kernel⟩
  have ht := txt_form hf
  rw [show fval true [55] [] = (-7) by decide +kernel, show List.length ([] : List UInt8) = 0 from rfl] at ht
  rw [show mC (nine (-7) 0) 9 = (-7) by decide +kernel, show mS (nine (-7) 0) 9 = 0 by decide +kernel, ht] at h
  exact h
theorem known_text2 (w : World) : Calls Tryd.prog 8 #[.agg #[.int .i64 50, .int .i64 1]] w fun e w' => e = .returned (.string { data := #[53] }) ∧ Below w.heap.size w w' := by
  have h := text_any 50 1 w (by omega) (by omega) (by omega)
  have hf : Corr.Form [53] false [53] [] := ⟨by decide +kernel, by decide +kernel, by decide +kernel, by decide +kernel⟩
  have ht := txt_form hf
  rw [show fval false [53] [] = 5 by decide +kernel, show List.length ([] : List UInt8) = 0 from rfl] at ht
  rw [show mC (nine 50 1) 9 = 5 by decide +kernel, show mS (nine 50 1) 9 = 0 by decide +kernel, ht] at h
  exact h
theorem known_any (w : World) (g : GV w) : Calls Tryd.prog 5 #[] w fun e w' => e = .returned (.bool true) ∧ Below w.heap.size w w' := by
  have i0 : ∀ w, (Instr.index 30 (.agg #[.string { data := #[49, 46, 53, 48] }, .string { data := #[46, 53] }, .string { data := #[48, 49] }, .string { data := #[45, 48] }, .string { data := #[49, 46] }]) (.int .i64 0)).run Tryd.prog w = .ok (.string { data := #[49, 46, 53, 48] }) w := fun _ => by kernel_rfl
  have i1 : ∀ w, (Instr.index 30 (.agg #[.string { data := #[49, 46, 53, 48] }, .string { data := #[46, 53] }, .string { data := #[48, 49] }, .string { data := #[45, 48] }, .string { data := #[49, 46] }]) (.int .i64 1)).run Tryd.prog w = .ok (.string { data := #[46, 53] }) w := fun _ => by kernel_rfl
  have i2 : ∀ w, (Instr.index 30 (.agg #[.string { data := #[49, 46, 53, 48] }, .string { data := #[46, 53] }, .string { data := #[48, 49] }, .string { data := #[45, 48] }, .string { data := #[49, 46] }]) (.int .i64 2)).run Tryd.prog w = .ok (.string { data := #[48, 49] }) w := fun _ => by kernel_rfl
  have i3 : ∀ w, (Instr.index 30 (.agg #[.string { data := #[49, 46, 53, 48] }, .string { data := #[46, 53] }, .string { data := #[48, 49] }, .string { data := #[45, 48] }, .string { data := #[49, 46] }]) (.int .i64 3)).run Tryd.prog w = .ok (.string { data := #[45, 48] }) w := fun _ => by kernel_rfl
  have i4 : ∀ w, (Instr.index 30 (.agg #[.string { data := #[49, 46, 53, 48] }, .string { data := #[46, 53] }, .string { data := #[48, 49] }, .string { data := #[45, 48] }, .string { data := #[49, 46] }]) (.int .i64 4)).run Tryd.prog w = .ok (.string { data := #[49, 46] }) w := fun _ => by kernel_rfl
  go_enter Tryd.func5, Tryd.ntmps5
  go_wp2_with fail
  go_loopw [6] (fun t wr => ∃ (k : Nat), t = .int .i64 (k : Int) ∧ k ≤ 5 ∧ GV wr ∧ Below w.heap.size w wr) (fun t _ => 5 - (intOf t).toNat)
  case atStart => exact ⟨0, rfl, by omega, g, Below.refl _ _⟩
  case round =>
    obtain ⟨k, rfl, hk, gr, hbel⟩ := hrel
    by_cases hlt : k < 5
    · have hc : k = 0 ∨ k = 1 ∨ k = 2 ∨ k = 3 ∨ k = 4 := by omega
      rcases hc with rfl | rfl | rfl | rfl | rfl
      · go_wp2_with fail
        refine (known_parse0 _ gr).mono ?_
        rintro e w1 ⟨rfl, hb⟩
        have g1 := Lib.hid (gr.keep (hb.trans ((Below.refl _ _).alloc hb.size (.cells #[.int .i64 0, .int .i64 0] 24))))
        have b1 := Lib.hid (hbel.trans ((hb.mono hbel.size).trans ((Below.refl _ _).alloc (Nat.le_trans hbel.size hb.size) (.cells #[.int .i64 0, .int .i64 0] 24))))
        clear hb
        go_wp2_with fail
        exact ⟨⟨1, rfl, by omega, g1.out, b1.out⟩, by simp [intOf]⟩
      · go_wp2_with fail
        refine (known_parse1 _ gr).mono ?_
        rintro e w1 ⟨rfl, hb⟩
        have g1 := Lib.hid (gr.keep (hb.trans ((Below.refl _ _).alloc hb.size (.cells #[.int .i64 0, .int .i64 0] 24))))
        have b1 := Lib.hid (hbel.trans ((hb.mono hbel.size).trans ((Below.refl _ _).alloc (Nat.le_trans hbel.size hb.size) (.cells #[.int .i64 0, .int .i64 0] 24))))
        clear hb
        go_wp2_with fail
        exact ⟨⟨2, rfl, by omega, g1.out, b1.out⟩, by simp [intOf]⟩
      · go_wp2_with fail
        refine (known_parse2 _ gr).mono ?_
        rintro e w1 ⟨rfl, hb⟩
        have g1 := Lib.hid (gr.keep (hb.trans ((Below.refl _ _).alloc hb.size (.cells #[.int .i64 0, .int .i64 0] 24))))
        have b1 := Lib.hid (hbel.trans ((hb.mono hbel.size).trans ((Below.refl _ _).alloc (Nat.le_trans hbel.size hb.size) (.cells #[.int .i64 0, .int .i64 0] 24))))
        clear hb
        go_wp2_with fail
        exact ⟨⟨3, rfl, by omega, g1.out, b1.out⟩, by simp [intOf]⟩
      · go_wp2_with fail
        refine (known_parse3 _ gr).mono ?_
        rintro e w1 ⟨rfl, hb⟩
        have g1 := Lib.hid (gr.keep (hb.trans ((Below.refl _ _).alloc hb.size (.cells #[.int .i64 0, .int .i64 0] 24))))
        have b1 := Lib.hid (hbel.trans ((hb.mono hbel.size).trans ((Below.refl _ _).alloc (Nat.le_trans hbel.size hb.size) (.cells #[.int .i64 0, .int .i64 0] 24))))
        clear hb
        go_wp2_with fail
        exact ⟨⟨4, rfl, by omega, g1.out, b1.out⟩, by simp [intOf]⟩
      · go_wp2_with fail
        refine (known_parse4 _ gr).mono ?_
        rintro e w1 ⟨rfl, hb⟩
        have g1 := Lib.hid (gr.keep (hb.trans ((Below.refl _ _).alloc hb.size (.cells #[.int .i64 0, .int .i64 0] 24))))
        have b1 := Lib.hid (hbel.trans ((hb.mono hbel.size).trans ((Below.refl _ _).alloc (Nat.le_trans hbel.size hb.size) (.cells #[.int .i64 0, .int .i64 0] 24))))
        clear hb
        go_wp2_with fail
        exact ⟨⟨5, rfl, by omega, g1.out, b1.out⟩, by simp [intOf]⟩
    · have hk5 : k = 5 := by omega
      subst hk5
      have HB := Lib.hid hbel
      clear hbel
      go_wp2_with fail
      refine (known_text0 _).mono ?_
      rintro e w1 ⟨rfl, hb⟩
      have HB1 := Lib.hid (HB.out.trans (hb.mono HB.out.size))
      clear hb HB
      go_wp2_with fail
      refine (known_text1 _).mono ?_
      rintro e w2 ⟨rfl, hb⟩
      have HB2 := Lib.hid (HB1.out.trans (hb.mono HB1.out.size))
      clear hb HB1
      go_wp2_with fail
      refine (known_text2 _).mono ?_
      rintro e w3 ⟨rfl, hb⟩
      have HB3 := Lib.hid (HB2.out.trans (hb.mono HB2.out.size))
      clear hb HB2
      go_wp2_with fail
      go_ret
      exact ⟨rfl, HB3.out⟩
end Go.Proofs.YtmccmgplgdmjbaaDoor
