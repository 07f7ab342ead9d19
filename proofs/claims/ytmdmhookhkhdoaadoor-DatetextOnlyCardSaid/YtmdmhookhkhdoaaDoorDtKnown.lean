/- corrodylaw06.known answers true, in every world where civil's table is whole. -/
import Derived.Test.YtmdmhookhkhdoaaDoorDx
import Derived.Test.YtmdmhookhkhdoaaDoorDtLess
namespace Go.Proofs.YtmdmhookhkhdoaaDoor
set_option maxRecDepth 8000
open Go.RowKit Go.PlainAid Corr
set_option linter.unusedVariables false
set_option linter.unusedSimpArgs false
theorem dkn_parse0 (w : World) (g : DV w) : Calls Tryd.prog 10 #[.string { data := #[50, 48, 48, 48, 45, 48, 50, 45, 50, 57] }] w fun e w' => e = .returned (.tuple #[.int .i64 730179, .int .i64 0]) ∧ Below w.heap.size w w' := by
  have h := pparse_any { data := #[50, 48, 48, 48, 45, 48, 50, 45, 50, 57] } w g (by decide)
  obtain ⟨h1, h2⟩ := pd_day (l := [50, 48, 48, 48, 45, 48, 50, 45, 50, 57]) (by decide +kernel) (by decide +kernel)
  rw [show ({ data := #[50, 48, 48, 48, 45, 48, 50, 45, 50, 57] } : ByteArray).data.toList = [50, 48, 48, 48, 45, 48, 50, 45, 50, 57] from rfl, h1, h2] at h
  rw [show dfY [50, 48, 48, 48, 45, 48, 50, 45, 50, 57] = 2000 by decide +kernel, show dfM [50, 48, 48, 48, 45, 48, 50, 45, 50, 57] = 2 by decide +kernel, show dfD [50, 48, 48, 48, 45, 48, 50, 45, 50, 57] = 29 by decide +kernel,
    show dby ((2000 : Int).toNat - 1) + cumI 2000 ((2 : Int).toNat - 1) + 29 = 730179 by
      rw [show ((2000 : Int).toNat - 1) = 1999 from rfl, show ((2 : Int).toNat - 1) = 1 from rfl, dby_eq 1999 (by omega)]; decide] at h
  exact h
theorem dkn_parse1 (w : World) (g : DV w) : Calls Tryd.prog 10 #[.string { data := #[50, 48, 48, 48, 45, 50, 45, 50, 57] }] w fun e w' => e = .returned (.tuple #[.int .i64 0, .int .i64 4]) ∧ Below w.heap.size w w' := by
  have h := pparse_any { data := #[50, 48, 48, 48, 45, 50, 45, 50, 57] } w g (by decide)
  obtain ⟨h1, h2⟩ := pd_form (l := [50, 48, 48, 48, 45, 50, 45, 50, 57]) (by decide +kernel)
  rw [show ({ data := #[50, 48, 48, 48, 45, 50, 45, 50, 57] } : ByteArray).data.toList = [50, 48, 48, 48, 45, 50, 45, 50, 57] from rfl, h1, h2] at h
  exact h
theorem dkn_parse2 (w : World) (g : DV w) : Calls Tryd.prog 10 #[.string { data := #[49, 57, 48, 48, 45, 48, 50, 45, 50, 57] }] w fun e w' => e = .returned (.tuple #[.int .i64 0, .int .i64 15]) ∧ Below w.heap.size w w' := by
  have h := pparse_any { data := #[49, 57, 48, 48, 45, 48, 50, 45, 50, 57] } w g (by decide)
  obtain ⟨h1, h2⟩ := pd_none (l := [49, 57, 48, 48, 45, 48, 50, 45, 50, 57]) (by decide +kernel) (by decide +kernel)
  rw [show ({ data := #[49, 57, 48, 48, 45, 48, 50, 45, 50, 57] } : ByteArray).data.toList = [49, 57, 48, 48, 45, 48, 50, 45, 50, 57] from rfl, h1, h2] at h
  exact h
theorem dkn_span (w : World) (g : DV w) (n : Int) (hn : pdN [50, 48, 48, 48, 45, 48, 49, 45, 48, 49] = n) : Calls Tryd.prog 11 #[.string { data := #[50, 48, 48, 48, 45, 48, 49, 45, 48, 49, 46, 46, 50, 48, 48, 48, 45, 48, 49, 45, 48, 49] }] w fun e w' => e = .returned (.tuple #[.agg #[.int .i64 n, .int .i64 (n + 1)], .int .i64 0]) ∧ Below w.heap.size w w' := by
  have h := pps_any { data := #[50, 48, 48, 48, 45, 48, 49, 45, 48, 49, 46, 46, 50, 48, 48, 48, 45, 48, 49, 45, 48, 49] } w g (by decide)
  have h0 : pdE [50, 48, 48, 48, 45, 48, 49, 45, 48, 49] = 0 := (pd_day (by decide +kernel) (by decide +kernel)).1
  obtain ⟨h1, h2, h3⟩ := ps_ok (l := [50, 48, 48, 48, 45, 48, 49, 45, 48, 49, 46, 46, 50, 48, 48, 48, 45, 48, 49, 45, 48, 49]) (by decide +kernel) ⟨h0, h0, Int.le_refl _⟩
  rw [show ({ data := #[50, 48, 48, 48, 45, 48, 49, 45, 48, 49, 46, 46, 50, 48, 48, 48, 45, 48, 49, 45, 48, 49] } : ByteArray).data.toList = [50, 48, 48, 48, 45, 48, 49, 45, 48, 49, 46, 46, 50, 48, 48, 48, 45, 48, 49, 45, 48, 49] from rfl, h1, h2, h3] at h
  rw [show List.take 10 ([50, 48, 48, 48, 45, 48, 49, 45, 48, 49, 46, 46, 50, 48, 48, 48, 45, 48, 49, 45, 48, 49] : List UInt8) = [50, 48, 48, 48, 45, 48, 49, 45, 48, 49] from rfl, show List.drop 12 ([50, 48, 48, 48, 45, 48, 49, 45, 48, 49, 46, 46, 50, 48, 48, 48, 45, 48, 49, 45, 48, 49] : List UInt8) = [50, 48, 48, 48, 45, 48, 49, 45, 48, 49] from rfl, hn] at h
  exact h
theorem dkn_text (w : World) (g : DV w) : Calls Tryd.prog 6 #[.int .i64 1] w fun e w' => e = .returned (.string { data := #[48, 48, 48, 49, 45, 48, 49, 45, 48, 49] }) ∧ Below w.heap.size w w' := by
  have h := ptext_any 1 w g
  rw [dayL_eq (n := 1) (y := 1) (m := 1) (d := 1) ⟨by decide, by decide, by decide⟩, show dayT 1 1 1 = [48, 48, 48, 49, 45, 48, 49, 45, 48, 49] by decide +kernel] at h
  exact h
theorem dknown_any (w : World) (g : DV w) : Calls Tryd.prog 12 #[] w fun e w' => e = .returned (.bool true) ∧ Below w.heap.size w w' := by
  obtain ⟨n, hn⟩ : ∃ n, pdN [50, 48, 48, 48, 45, 48, 49, 45, 48, 49] = n := ⟨_, rfl⟩
  have hb0 := pdN_ok (l := [50, 48, 48, 48, 45, 48, 49, 45, 48, 49]) (pd_day (by decide +kernel) (by decide +kernel)).1
  rw [hn] at hb0
  obtain ⟨n1, n2⟩ := hb0
  have HS := Lib.hid (fun w g => dkn_span w g n hn)
  clear hn
  have hw1 : IntKind.i64.wrap (n + 1) = n + 1 := IntWalk.i64_in _ (by omega)
  obtain ⟨k, hk⟩ : ∃ k, n + 1 = k := ⟨_, rfl⟩
  rw [hk] at HS hw1
  go_enter Tryd.func12, Tryd.ntmps12
  go_wp2_with fail
  refine (dkn_parse0 _ g).mono ?_
  rintro e w1 ⟨rfl, b1⟩
  go_wp2_with fail
  refine (dkn_parse1 _ (g.keep b1)).mono ?_
  rintro e w2 ⟨rfl, b2⟩
  have b2 := b1.trans (b2.mono b1.size)
  go_wp2_with fail
  refine (dkn_parse2 _ (g.keep b2)).mono ?_
  rintro e w3 ⟨rfl, b3⟩
  have b3 := b2.trans (b3.mono b2.size)
  go_wp2_with fail
  refine (HS.out _ (g.keep b3)).mono ?_
  rintro e w4 ⟨rfl, b4⟩
  have S1 := Lib.hid ((((Mem.start w).keep b3).keep b4).push #[.int .i64 n, .int .i64 k] 23)
  go_wp2_with fail
  refine (dkn_text _ (g.keep S1.out.bl)).mono ?_
  rintro e w5 ⟨rfl, b5⟩
  have S2 := Lib.hid (S1.out.keep b5)
  have za := S2.out.c 0 0 rfl rfl; have zb := S2.out.c 0 1 rfl rfl
  have HB := Lib.hid S2.out.bl
  clear b1 b2 b3 b4 b5 S1 S2
  go_wp2_with fail
  go_ret
  exact ⟨rfl, HB.out⟩
end Go.Proofs.YtmdmhookhkhdoaaDoor
