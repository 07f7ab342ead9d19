/- The law ValueTells. -/
import Derived.Test.YtgojfonnikgboaaGreatDoorVlTells1
import Derived.Test.YtgojfonnikgboaaGreatDoorVlTells0
namespace Go.Proofs.YtgojfonnikgboaaGreatDoor
open Go.RowKit Go.PlainAid Corr
set_option linter.unusedVariables false
set_option linter.unusedSimpArgs false
theorem vtells_any {G : World → Prop} (Kv : VlK G) (K C U E C' X : Int) (b : Bool) (n : Int) (w : World) (g : G w) (c1 : -9223372036854775808 ≤ C) (c2 : C ≤ 9223372036854775807) (c1' : -9223372036854775808 ≤ C') (c2' : C' ≤ 9223372036854775807) : Calls Tryz.prog 3 #[vlV K C U E, .agg #[.int .i64 C', .int .i64 X], .bool b, .int .i64 n] w fun e w' => e = .returned (.bool true) ∧ Below w.heap.size w w' := by
  by_cases hS : X < 0 ∨ 9 < X
  · cases hv : mayV K C U E <;> cases b <;> cases hn : mayV 4 0 0 n
    · exact vtells_0000 Kv K C U E C' n X w g c1 c2 c1' c2' hS hv hn
    · exact vtells_0001 Kv K C U E C' n X w g c1 c2 c1' c2' hS hv hn
    · exact vtells_0010 Kv K C U E C' n X w g c1 c2 c1' c2' hS hv hn
    · exact vtells_0011 Kv K C U E C' n X w g c1 c2 c1' c2' hS hv hn
    · exact vtells_1000 Kv K C U E C' n X w g c1 c2 c1' c2' hS hv hn
    · exact vtells_1001 Kv K C U E C' n X w g c1 c2 c1' c2' hS hv hn
    · exact vtells_1010 Kv K C U E C' n X w g c1 c2 c1' c2' hS hv hn
    · exact vtells_1011 Kv K C U E C' n X w g c1 c2 c1' c2' hS hv hn
  · obtain ⟨S, rfl⟩ : ∃ S : Nat, X = (S : Int) := ⟨X.toNat, by omega⟩
    have hS : S ≤ 9 := by omega
    cases hv : mayV K C U E <;> cases b <;> cases hn : mayV 4 0 0 n
    · exact vtells_0100 Kv K C U E C' n S w g c1 c2 c1' c2' hS hv hn
    · exact vtells_0101 Kv K C U E C' n S w g c1 c2 c1' c2' hS hv hn
    · exact vtells_0110 Kv K C U E C' n S w g c1 c2 c1' c2' hS hv hn
    · exact vtells_0111 Kv K C U E C' n S w g c1 c2 c1' c2' hS hv hn
    · exact vtells_1100 Kv K C U E C' n S w g c1 c2 c1' c2' hS hv hn
    · exact vtells_1101 Kv K C U E C' n S w g c1 c2 c1' c2' hS hv hn
    · exact vtells_1110 Kv K C U E C' n S w g c1 c2 c1' c2' hS hv hn
    · exact vtells_1111 Kv K C U E C' n S w g c1 c2 c1' c2' hS hv hn
end Go.Proofs.YtgojfonnikgboaaGreatDoor
