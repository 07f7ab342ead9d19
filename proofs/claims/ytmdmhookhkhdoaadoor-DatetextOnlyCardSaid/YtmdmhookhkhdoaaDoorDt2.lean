/- Contracts of corrodyref06: Text, Parse. -/
import Derived.Test.YtmdmhookhkhdoaaDoorDt1
import Derived.Test.YtmdmhookhkhdoaaDoorDtMath
import Derived.BigQuiet
namespace Corr
open Go Go.RowKit Go.PlainAid
/-- The string of some bytes. -/
abbrev mkS (l : List UInt8) : ByteArray := ⟨l.toArray⟩
theorem bt_get {s : ByteArray} {k : Nat} (h : k < s.size) (c : UInt8) : s.data.toList[k]? = some c ↔ bt s k = (c.toNat : Int) := by
  obtain ⟨b, hb, hbt⟩ := bt_at h
  rw [hb, ← hbt]
  constructor
  · intro e; rw [Option.some.inj e]
  · intro e; rw [UInt8.toNat_inj.1 (show b.toNat = c.toNat by omega)]
end Corr
namespace Go.Proofs.YtmdmhookhkhdoaaDoor
open Go.RowKit Go.PlainAid Corr
set_option linter.unusedVariables false
set_option linter.unusedSimpArgs false
end Go.Proofs.YtmdmhookhkhdoaaDoor
