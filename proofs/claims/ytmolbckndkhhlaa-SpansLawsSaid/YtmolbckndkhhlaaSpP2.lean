/- Contracts of Union, Meet, Less, All of package spans, from the sort's. -/
import Derived.Test.YtmolbckndkhhlaaSpThr
import Derived.Test.YtmolbckndkhhlaaSpKit
namespace Go.Proofs.Ytmolbckndkhhlaa
set_option maxRecDepth 8000
open Go.RowKit Corr
set_option linter.unusedVariables false
set_option linter.unusedSimpArgs false
theorem union_take (p q : Bool) (w : World) : Calls Try.prog 31 #[.bool p, .bool q] w fun e w' => e = .returned (.bool (takeB 0 p q)) ∧ w' = w := by
  cases p <;> cases q <;> (
    go_enter Try.func31, Try.ntmps31
    go_wp2_with fail
    go_ret
    exact ⟨rfl, rfl⟩)
theorem union_any (HSC : SortC) (A B : Option Addr) (n c m d : Nat) (a b : SpL) (w : World) (Sa : Spn w A n c a) (Sb : Spn w B m d b) (hn : a.length ≤ 1000) (hm : b.length ≤ 1000) : Calls Try.prog 14 #[.slice A n c, .slice B m d] w (RetSp w (twoL 0 a b)) := by
  have eg : ∀ args w, (callFunc 31 args).run Try.prog w = .ok (.enter 31 args) w := enters_of Try.func31 (by kernel_rfl) rfl
  have h1 := Sa.count
  have h2 := Sb.count
  have K := Lib.hid (through_any HSC 0 31 eg union_take A B n c m d a b w Sa Sb (by omega) (by omega))
  clear Sa Sb eg h1 h2 hn hm HSC
  go_enter Try.func14, Try.ntmps14
  go_wp2_with (go_at_call 30; refine K.out.mono ?_; rintro e w1 ⟨A1, n1, c1, rfl, o1, hb1⟩; have L1 := Lib.hid (own_lies o1); have HB1 := Lib.hid hb1; clear o1 hb1 K)
  go_ret
  exact ⟨A1, n1, c1, rfl, L1.out, HB1.out⟩
theorem meet_take (p q : Bool) (w : World) : Calls Try.prog 34 #[.bool p, .bool q] w fun e w' => e = .returned (.bool (takeB 1 p q)) ∧ w' = w := by
  cases p <;> cases q <;> (
    go_enter Try.func34, Try.ntmps34
    go_wp2_with fail
    go_ret
    exact ⟨rfl, rfl⟩)
theorem meet_any (HSC : SortC) (A B : Option Addr) (n c m d : Nat) (a b : SpL) (w : World) (Sa : Spn w A n c a) (Sb : Spn w B m d b) (hn : a.length ≤ 1000) (hm : b.length ≤ 1000) : Calls Try.prog 16 #[.slice A n c, .slice B m d] w (RetSp w (twoL 1 a b)) := by
  have eg : ∀ args w, (callFunc 34 args).run Try.prog w = .ok (.enter 34 args) w := enters_of Try.func34 (by kernel_rfl) rfl
  have h1 := Sa.count
  have h2 := Sb.count
  have K := Lib.hid (through_any HSC 1 34 eg meet_take A B n c m d a b w Sa Sb (by omega) (by omega))
  clear Sa Sb eg h1 h2 hn hm HSC
  go_enter Try.func16, Try.ntmps16
  go_wp2_with (go_at_call 30; refine K.out.mono ?_; rintro e w1 ⟨A1, n1, c1, rfl, o1, hb1⟩; have L1 := Lib.hid (own_lies o1); have HB1 := Lib.hid hb1; clear o1 hb1 K)
  go_ret
  exact ⟨A1, n1, c1, rfl, L1.out, HB1.out⟩
theorem less_take (p q : Bool) (w : World) : Calls Try.prog 35 #[.bool p, .bool q] w fun e w' => e = .returned (.bool (takeB 2 p q)) ∧ w' = w := by
  cases p <;> cases q <;> (
    go_enter Try.func35, Try.ntmps35
    go_wp2_with fail
    go_ret
    exact ⟨rfl, rfl⟩)
theorem less_any (HSC : SortC) (A B : Option Addr) (n c m d : Nat) (a b : SpL) (w : World) (Sa : Spn w A n c a) (Sb : Spn w B m d b) (hn : a.length ≤ 1000) (hm : b.length ≤ 1000) : Calls Try.prog 17 #[.slice A n c, .slice B m d] w (RetSp w (twoL 2 a b)) := by
  have eg : ∀ args w, (callFunc 35 args).run Try.prog w = .ok (.enter 35 args) w := enters_of Try.func35 (by kernel_rfl) rfl
  have h1 := Sa.count
  have h2 := Sb.count
  have K := Lib.hid (through_any HSC 2 35 eg less_take A B n c m d a b w Sa Sb (by omega) (by omega))
  clear Sa Sb eg h1 h2 hn hm HSC
  go_enter Try.func17, Try.ntmps17
  go_wp2_with (go_at_call 30; refine K.out.mono ?_; rintro e w1 ⟨A1, n1, c1, rfl, o1, hb1⟩; have L1 := Lib.hid (own_lies o1); have HB1 := Lib.hid hb1; clear o1 hb1 K)
  go_ret
  exact ⟨A1, n1, c1, rfl, L1.out, HB1.out⟩
theorem all_any (w : World) : Calls Try.prog 24 #[] w (RetSp w allL) := by
  go_enter Try.func24, Try.ntmps24
  go_wp2_with fail
  go_ret
  exact ⟨_, _, _, rfl, new_spn w allL 37 1 1 rfl (Nat.le_refl _), (Below.refl _ w).alloc (Nat.le_refl _) _⟩
end Go.Proofs.Ytmolbckndkhhlaa
