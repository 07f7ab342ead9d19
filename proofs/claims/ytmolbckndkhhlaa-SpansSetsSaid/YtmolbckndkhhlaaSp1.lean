/- Contracts of corrodyref07: Has, held. -/
import Derived.Test.YtmolbckndkhhlaaChecked
import Derived.Test.YtmolbckndkhhlaaRow
namespace Corr
set_option maxRecDepth 8000
open Go Go.RowKit
def inB (s : Int × Int) (day : Int) : Bool := decide (s.1 ≤ day ∧ day < s.2)
/-- Is the day one of the spans'? -/
def hasB (l : SpL) (day : Int) : Bool := decide (1 ≤ day ∧ day ≤ 3652059) && l.any fun s => inB s day
/-- An end, held within all days. -/
def heldI (n : Int) : Int := if n < 1 then 1 else if 3652060 < n then 3652060 else n
theorem any_drop {l : SpL} {day : Int} {k : Nat} {s : Int × Int} (h : l[k]? = some s) : (l.drop k).any (fun s => inB s day) = (inB s day || (l.drop (k + 1)).any fun s => inB s day) := by
  have hk : k < l.length := (List.getElem?_eq_some_iff.1 h).1
  rw [List.drop_eq_getElem_cons hk, (List.getElem?_eq_some_iff.1 h).2, List.any_cons]
end Corr
namespace Go.Proofs.Ytmolbckndkhhlaa
set_option maxRecDepth 8000
open Go.RowKit Corr
set_option linter.unusedVariables false
theorem held_any (n : Int) (w : World) : Calls Try.prog 44 #[.int .i64 n] w fun e w' => e = .returned (.int .i64 (heldI n)) ∧ w = w' := by
  by_cases h1 : n < 1
  · have HF := Lib.hid (show heldI n = 1 by unfold heldI; rw [if_pos h1])
    rw [HF.out]
    go_enter Try.func44, Try.ntmps44
    go_wp2_with fail
    go_ret
    exact ⟨rfl, rfl⟩
  · have d1 : decide (n < 1) = false := decide_eq_false h1
    by_cases h2 : 3652060 < n
    · have HF := Lib.hid (show heldI n = 3652060 by unfold heldI; rw [if_neg h1, if_pos h2])
      rw [HF.out]
      have d2 : decide (n > 3652060) = true := decide_eq_true h2
      clear h1 h2
      go_enter Try.func44, Try.ntmps44
      go_wp2_with fail
      go_ret
      exact ⟨rfl, rfl⟩
    · have HF := Lib.hid (show heldI n = n by unfold heldI; rw [if_neg h1, if_neg h2])
      rw [HF.out]
      have d2 : decide (n > 3652060) = false := decide_eq_false h2
      clear h1 h2
      go_enter Try.func44, Try.ntmps44
      go_wp2_with fail
      go_ret
      exact ⟨rfl, rfl⟩

set_option maxHeartbeats 2000000 in
theorem has_any (A : Option Addr) (n c : Nat) (l : SpL) (day : Int) (w : World) (R : Spn w A n c l) (hn : n ≤ 1000000) : Calls Try.prog 21 #[.slice A n c, .int .i64 day] w fun e w' => e = .returned (.bool (hasB l day)) ∧ w = w' := by
  by_cases h : 1 ≤ day ∧ day ≤ 3652059
  · have d1 : decide (day < 1) = false := decide_eq_false (by omega)
    have d2 : decide (day > 3652059) = false := decide_eq_false (by omega)
    obtain ⟨B, hB⟩ : ∃ B, hasB l day = B := ⟨_, rfl⟩
    have HB := Lib.hid (show (l.drop 0).any (fun s => inB s day) = B by rw [← hB]; unfold hasB; rw [decide_eq_true h]; simp)
    rw [hB]
    have HC := Lib.hid R.count
    have HR := Lib.hid R
    clear h hB R
    go_enter Try.func21, Try.ntmps21
    go_wp2_with fail
    go_loop [5] (fun t => ∃ k : Nat, t = .int .i64 (k : Int) ∧ k ≤ n ∧ Hid ((l.drop k).any (fun s => inB s day) = B)) (fun t => (n - intOf t).toNat)
    case atStart => exact ⟨0, rfl, by omega, HB.out⟩
    case round =>
      obtain ⟨k, rfl, hk, HK⟩ := hrel
      by_cases hlt : k < n
      · obtain ⟨g, off, s, rfl, hs, hg, c0, c1⟩ := HR.out.get hlt
        have HS := Lib.hid (any_drop (day := day) hs)
        rw [HK.out] at HS
        obtain ⟨a, b⟩ := s
        clear hs HK
        by_cases p1 : a ≤ day
        · by_cases p2 : day < b
          · have HX := Lib.hid (show true = B by rw [HS.out]; unfold inB; rw [decide_eq_true ⟨p1, p2⟩]; rfl)
            clear HS
            go_wp2_with fail
            go_ret
            exact ⟨congrArg (fun b => Ending.returned (.bool b)) HX.out, rfl⟩
          · have HX := Lib.hid (show (l.drop (k + 1)).any (fun s => inB s day) = B by rw [HS.out]; unfold inB; rw [decide_eq_false (fun h => p2 h.2)]; rfl)
            have q2 : decide (day < b) = false := decide_eq_false p2
            clear HS p2
            go_wp2_with fail
            go_round
            case rel => exact ⟨k + 1, by go_num, by omega, HX⟩
            case measure => simp [intOf]; omega
        · have HX := Lib.hid (show (l.drop (k + 1)).any (fun s => inB s day) = B by rw [HS.out]; unfold inB; rw [decide_eq_false (fun h => p1 h.1)]; rfl)
          have q1 : decide (a ≤ day) = false := decide_eq_false p1
          clear HS p1
          go_wp2_with fail
          go_round
          case rel => exact ⟨k + 1, by go_num, by omega, HX⟩
          case measure => simp [intOf]; omega
      · have HX := Lib.hid (show false = B by rw [← HK.out, List.drop_of_length_le (by rw [HC.out]; omega)]; rfl)
        clear HK
        go_wp2_with fail
        go_ret
        exact ⟨congrArg (fun b => Ending.returned (.bool b)) HX.out, rfl⟩
  · have HF := Lib.hid (show hasB l day = false by unfold hasB; rw [decide_eq_false h]; rfl)
    rw [HF.out]
    clear R
    by_cases h1 : day < 1
    · clear h
      go_enter Try.func21, Try.ntmps21
      go_wp2_with fail
      go_ret
      exact ⟨rfl, rfl⟩
    · have d1 : decide (day < 1) = false := decide_eq_false h1
      have d2 : decide (day > 3652059) = true := decide_eq_true (by omega)
      clear h h1
      go_enter Try.func21, Try.ntmps21
      go_wp2_with fail
      go_ret
      exact ⟨rfl, rfl⟩
end Go.Proofs.Ytmolbckndkhhlaa
