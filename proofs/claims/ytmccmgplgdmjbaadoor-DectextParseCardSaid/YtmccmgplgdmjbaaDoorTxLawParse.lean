/- The walk of corrodylaw03.DectextParse, at every text. -/
import Derived.Test.YtmccmgplgdmjbaaDoorTx5
import Derived.Test.YtmccmgplgdmjbaaDoorTx6
import Derived.Test.YtmccmgplgdmjbaaDoorRelMem
namespace Go.Proofs.YtmccmgplgdmjbaaDoor
set_option maxRecDepth 8000
open Go.RowKit Go.PlainAid Corr
set_option linter.unusedVariables false
set_option linter.unusedSimpArgs false
theorem rparse_any (s : ByteArray) (w : World) (hs : s.size ≤ 4000000) :
    Calls Tryd.prog 7 #[.string s] w fun e w' => e = .returned (.tuple #[.agg #[.int .i64 (pC s.data.toList), .int .i64 (pS s.data.toList : Int)], .int .i64 (pE s.data.toList)]) ∧ Below w.heap.size w w' := by
  by_cases h : 21 < s.size
  · have e : pE s.data.toList = 3 := by unfold pE; rw [size_len, if_pos h]
    unfold pC pS
    rw [e]; exact rparse_long s w hs h
  · exact rparse_short s w hs (by omega)
theorem lawparse_any (s : ByteArray) (w : World) (g : GV w) : Calls Tryd.prog 3 #[.string s] w fun e w' => e = .returned (.bool true) ∧ Below w.heap.size w w' := by
  by_cases h : 100 < s.size
  · have h1 : (100 : Int) < (s.size : Int) := by omega
    go_enter Tryd.func3, Tryd.ntmps3
    go_wp2_with fail
    refine (known_any _ g).mono ?_
    rintro e w1 ⟨rfl, hb⟩
    go_wp2_with fail
    go_ret
    exact ⟨rfl, hb⟩
  · have h1 : ¬ (100 : Int) < (s.size : Int) := by omega
    have HP := Lib.hid (fun w g => parse_any s w (by omega) g)
    have HR := Lib.hid (fun w => rparse_any s w (by omega))
    obtain ⟨c, hc⟩ : ∃ z, pC s.data.toList = z := ⟨_, rfl⟩
    obtain ⟨t, ht⟩ : ∃ z, (pS s.data.toList : Int) = z := ⟨_, rfl⟩
    obtain ⟨E, hE⟩ : ∃ z, pE s.data.toList = z := ⟨_, rfl⟩
    rw [hc, ht, hE] at HP HR
    have HK := Lib.hid (fun (w' : World) (b : Below w.heap.size w w') => known_any w' (g.keep b))
    clear hc ht hE
    go_enter Tryd.func3, Tryd.ntmps3
    go_wp2_with fail
    refine (HP.out _ g).mono ?_
    rintro e w1 ⟨rfl, hb⟩
    have S1 := Lib.hid (((Mem.start w).keep hb).push #[.int .i64 c, .int .i64 t] 24)
    clear hb
    go_wp2_with fail
    refine (HR.out _).mono ?_
    rintro e w2 ⟨rfl, hb⟩
    have S2 := ((S1.out.keep hb).push #[.int .i64 c, .int .i64 t] 24)
    have HB := Lib.hid S2.bl
    clear hb S1
    have za := S2.c 0 0 rfl rfl; have zb := S2.c 0 1 rfl rfl; have zc := S2.c 1 0 rfl rfl; have zd := S2.c 1 1 rfl rfl
    clear S2
    go_wp2_with fail
    refine (HK.out _ HB.out).mono ?_
    rintro e w6 ⟨rfl, hb⟩
    have HB6 := Lib.hid (HB.out.trans (hb.mono HB.out.size))
    clear hb
    go_wp2_with fail
    go_ret
    exact ⟨rfl, HB6.out⟩
end Go.Proofs.YtmccmgplgdmjbaaDoor
