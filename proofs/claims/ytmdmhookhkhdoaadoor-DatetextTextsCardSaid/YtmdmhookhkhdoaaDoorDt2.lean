/- Contracts of corrodyref06: Text, Parse. -/
import Derived.Test.YtmdmhookhkhdoaaDoorDt1
import Derived.Test.YtmdmhookhkhdoaaDoorDtMath
import Derived.BigQuiet
namespace Corr
set_option maxRecDepth 8000
open Go Go.RowKit Go.PlainAid
/-- The string of some bytes. -/
abbrev mkS (l : List UInt8) : ByteArray := ⟨l.toArray⟩
theorem bt_get {s : ByteArray} {k : Nat} (h : k < s.size) (c : UInt8) : s.data.toList[k]? = some c ↔ bt s k = (c.toNat : Int) := by
  obtain ⟨b, hb, hbt⟩ := bt_at h
  rw [hb, ← hbt]
  constructor
  · intro e; rw [Option.some.inj e]
  · intro e; rw [UInt8.toNat_inj.1 (show b.toNat = c.toNat by omega)]
end Corr
namespace Go.Proofs.YtmdmhookhkhdoaaDoor
set_option maxRecDepth 8000
open Go.RowKit Go.PlainAid Corr
set_option linter.unusedVariables false
set_option linter.unusedSimpArgs false
set_option maxHeartbeats 2000000 in
theorem dtext_any (n : Int) (w : World) : Calls Tryd.prog 8 #[.int .i64 n] w fun e w' => e = .returned (.string (mkS (dayL n))) ∧ Below w.heap.size w w' := by
  by_cases h : 1 ≤ n ∧ n ≤ 3652059
  · have HD := Lib.hid (date_ok n w h.1 h.2)
    clear h
    go_enter Tryd.func8, Tryd.ntmps8
    go_wp2_with fail
    refine HD.out.mono ?_
    rintro e w1 ⟨y, m, d, rfl, h1, rfl⟩
    obtain ⟨y1, y2, m1, m2⟩ := lenI_pos (show 1 ≤ lenI y m by have := h1.1; have := h1.2.1; omega)
    have hl := lenI_bd y m
    obtain ⟨Y, rfl⟩ : ∃ Y : Nat, y = (Y : Int) := ⟨y.toNat, by omega⟩
    obtain ⟨M, rfl⟩ : ∃ M : Nat, m = (M : Int) := ⟨m.toNat, by omega⟩
    obtain ⟨D, rfl⟩ : ∃ D : Nat, d = (D : Int) := ⟨d.toNat, by have := h1.1; omega⟩
    have HY := Lib.hid (fun w => digits_any Y 4 w (by omega) (by omega))
    have HM := Lib.hid (fun w => digits_any M 2 w (by omega) (by omega))
    have HDD := Lib.hid (fun w => digits_any D 2 w (by have := h1.2.1; omega) (by omega))
    have HR := Lib.hid (show (((((mkS (fixd 4 Y) ++ ⟨#[45]⟩) ++ mkS (fixd 2 M)) ++ ⟨#[45]⟩) ++ mkS (fixd 2 D) : ByteArray)) = mkS (dayL n) by
      refine ba_eq ?_
      rw [dayL_eq h1]
      simp only [ba_append, dayT, Int.toNat_natCast]
      simp)
    clear h1 hl
    go_wp2_with fail
    refine (HY.out _).mono ?_
    rintro e w2 ⟨rfl, b2⟩
    have sz1 : (mkS (fixd 4 Y)).size = 4 := by rw [← size_len, ba_data, fixd_len]
    go_wp2_with fail
    refine (HM.out _).mono ?_
    rintro e w3 ⟨rfl, b3⟩
    have sz2 : (mkS (fixd 2 M)).size = 2 := by rw [← size_len, ba_data, fixd_len]
    go_wp2_with fail
    refine (HDD.out _).mono ?_
    rintro e w4 ⟨rfl, b4⟩
    have sz3 : (mkS (fixd 2 D)).size = 2 := by rw [← size_len, ba_data, fixd_len]
    have HB := Lib.hid ((b2.trans (b3.mono b2.size)).trans (b4.mono (Nat.le_trans b2.size b3.size)))
    clear b2 b3 b4
    go_wp2_with fail
    go_ret
    exact ⟨congrArg (fun x => Ending.returned (.string x)) HR.out, HB.out⟩
  · have HD := Lib.hid (date_no n w (by omega))
    have HR := Lib.hid (show (⟨#[]⟩ : ByteArray) = mkS (dayL n) by rw [dayL_no (by omega)])
    clear h
    go_enter Tryd.func8, Tryd.ntmps8
    go_wp2_with fail
    refine HD.out.mono ?_
    rintro e w1 ⟨rfl, rfl⟩
    go_wp2_with fail
    go_ret
    exact ⟨congrArg (fun x => Ending.returned (.string x)) HR.out, Below.refl _ _⟩

end Go.Proofs.YtmdmhookhkhdoaaDoor
