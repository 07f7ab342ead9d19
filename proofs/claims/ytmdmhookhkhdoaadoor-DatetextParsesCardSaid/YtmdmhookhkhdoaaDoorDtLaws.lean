/- The laws of package datetext at every input, in every world where civil's table is whole. -/
import Derived.Test.YtmdmhookhkhdoaaDoorDtKnown
import Derived.Test.YtmdmhookhkhdoaaDoorDt3
namespace Go.Proofs.YtmdmhookhkhdoaaDoor
set_option maxRecDepth 8000
open Go.RowKit Go.PlainAid Corr
set_option linter.unusedVariables false
set_option linter.unusedSimpArgs false
theorem dparses_any (s : ByteArray) (w : World) (g : DV w) : Calls Tryd.prog 4 #[.string s] w fun e w' => e = .returned (.bool true) ∧ Below w.heap.size w w' := by
  by_cases h : 100 < s.size
  · have h1 : (100 : Int) < (s.size : Int) := by omega
    go_enter Tryd.func4, Tryd.ntmps4
    go_wp2_with fail
    refine (dknown_any _ g).mono ?_
    rintro e w1 ⟨rfl, hb⟩
    go_wp2_with fail
    go_ret
    exact ⟨rfl, hb⟩
  · have h1 : ¬ (100 : Int) < (s.size : Int) := by omega
    have HP := Lib.hid (fun w g => pparse_any s w g (by omega))
    have HR := Lib.hid (fun w => dparse_any s w (by omega))
    have HS := Lib.hid (fun w g => pps_any s w g (by omega))
    have HT := Lib.hid (fun w => dps_any s w (by omega))
    obtain ⟨n, hn⟩ : ∃ z, pdN s.data.toList = z := ⟨_, rfl⟩
    obtain ⟨E, hE⟩ : ∃ z, pdE s.data.toList = z := ⟨_, rfl⟩
    obtain ⟨a, ha⟩ : ∃ z, psA s.data.toList = z := ⟨_, rfl⟩
    obtain ⟨b, hb⟩ : ∃ z, psB s.data.toList = z := ⟨_, rfl⟩
    obtain ⟨F, hF⟩ : ∃ z, psE s.data.toList = z := ⟨_, rfl⟩
    rw [hn, hE] at HP HR
    rw [ha, hb, hF] at HS HT
    have HK := Lib.hid (fun (w' : World) (b : Below w.heap.size w w') => dknown_any w' (g.keep b))
    clear hn hE ha hb hF
    go_enter Tryd.func4, Tryd.ntmps4
    go_wp2_with fail
    refine (HP.out _ g).mono ?_
    rintro e w1 ⟨rfl, b1⟩
    go_wp2_with fail
    refine (HR.out _).mono ?_
    rintro e w2 ⟨rfl, b2⟩
    have b2 := b1.trans (b2.mono b1.size)
    go_wp2_with fail
    refine (HS.out _ (g.keep b2)).mono ?_
    rintro e w3 ⟨rfl, b3⟩
    have S1 := Lib.hid ((((Mem.start w).keep b2).keep b3).push #[.int .i64 a, .int .i64 b] 23)
    clear b1 b2 b3
    go_wp2_with fail
    refine (HT.out _).mono ?_
    rintro e w4 ⟨rfl, b4⟩
    have S2 := ((S1.out.keep b4).push #[.int .i64 a, .int .i64 b] 23)
    have HB := Lib.hid S2.bl
    clear b4 S1
    have za := S2.c 0 0 rfl rfl; have zb := S2.c 0 1 rfl rfl; have zc := S2.c 1 0 rfl rfl; have zd := S2.c 1 1 rfl rfl
    clear S2
    go_wp2_with fail
    refine (HK.out _ HB.out).mono ?_
    rintro e w6 ⟨rfl, hb⟩
    have HB6 := Lib.hid (HB.out.trans (hb.mono HB.out.size))
    clear hb
    go_wp2_with fail
    go_ret
    exact ⟨rfl, HB6.out⟩
end Go.Proofs.YtmdmhookhkhdoaaDoor
