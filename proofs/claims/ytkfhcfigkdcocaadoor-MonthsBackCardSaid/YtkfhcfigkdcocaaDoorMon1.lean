/- Contracts of corrodyref05: Add, Years, Begin, End. -/
import Derived.Test.YtkfhcfigkdcocaaDoorCiv4
namespace Corr
open Go
/-- The number of the day d of the month whose number, counted from the year 0 on, is T; false: there is none. -/
def monV (T d : Int) : Int × Bool :=
  if lenI (T / 12) (T % 12 + 1) = 0 then (0, false)
  else (dby ((T / 12).toNat - 1) + cumI (T / 12) ((T % 12 + 1).toNat - 1) + (if lenI (T / 12) (T % 12 + 1) < d then lenI (T / 12) (T % 12 + 1) else d), true)
theorem mon_is {T y m : Int} (h : 12 * y + (m - 1) = T) (m1 : 1 ≤ m) (m2 : m ≤ 12) : y = T / 12 ∧ m = T % 12 + 1 := by omega
end Corr
namespace Go.Proofs.YtkfhcfigkdcocaaDoor
open Go.RowKit Corr
set_option linter.unusedVariables false
theorem date_at (n y m d : Int) (w : World) (h : dateOf n y m d) : Calls Tryd.prog 17 #[.int .i64 n] w fun e w' => e = .returned (.tuple #[.int .i64 y, .int .i64 m, .int .i64 d, .bool true]) ∧ w = w' := by
  refine (date_ok n w (date_in h).1 (date_in h).2).mono ?_
  rintro e w' ⟨y', m', d', rfl, h', rfl⟩
  obtain ⟨rfl, rfl, rfl⟩ := date_one h h'
  exact ⟨rfl, rfl⟩
end Go.Proofs.YtkfhcfigkdcocaaDoor
