/-
  NARROWER THAN 'FOR EVERY INPUT', by the rows' own cells (each row's printed sentence says how): MonthsAdd: laid · MonthsBetween: laid · MonthsBack: laid.
  DERIVED. THE GIVEN ROWS OF THIS SEAT. 3 by the template 'for every input the law returns true; each argument reads behind the call as it read before'; 0 by the template 'total and deterministic' (their statements: YtkfhcfigkdcocaaDoorTotals.lean).
  GIVEN WITH THE SEED: the statements are not yours to turn. If you find one false, say at which input.
  Laid BY PROGRAM, IN A SANDBOX (cutbox-rows.mjs): the forced cells as the released guide's own fill.sh prints them over the translation 2147cacaba7cf4b9… (all of the seat's roots in one cut). By AI agents, Wed Nov 11 2026. No macro, syntax, notation, axiom, sorry.
-/
import Derived.Test.YtkfhcfigkdcocaaDoorChecked
import GoSem.Claim
import GoSem.ClaimJoined
import GoSem.ClaimMapViews
import Derived.JoinedTies
import Derived.KernelRfl
namespace Go.Proofs.YtkfhcfigkdcocaaDoor
/- THE CELL 'sum', in the pinned program and in every row, IS THE sha256 OF THE DUMP (.gsa) THAT YtkfhcfigkdcocaaDoorProg.lean LOADS. Nothing in Lean hashes anything: it is a label: what it is worth is what the hold of that sum in a sandbox is worth. -/
noncomputable def Tryd.pinned : Pinned := { name := "ytkfhcfigkdcocaadoor", sum := "2147cacaba7cf4b9c98070f8cd2d7c0baace594c6e4b5cfbb9f05ebc4fd32dcd", checked := Tryd.checked }
namespace Rows
def none {H : Type} : Left H := { results := [], args := [] }

/- WHAT THE LISTED PACKAGE-LEVEL VARIABLES READ AS WHEN THE CALL BEGINS. Each datum BY PROGRAM (the guide's laid-datum.mjs) off the statement by which the dump's own 'gosem.cut.vars' lays the variable. In a bare row this is a premise. The card (YtkfhcfigkdcocaaDoorCards.lean) ties it to the program's text. -/
def laid_corrody_civil_lengths {H : Type} : DataW H := .agg [.lit (.int .i64 31), .lit (.int .i64 28), .lit (.int .i64 31), .lit (.int .i64 30), .lit (.int .i64 31), .lit (.int .i64 30), .lit (.int .i64 31), .lit (.int .i64 31), .lit (.int .i64 30), .lit (.int .i64 31), .lit (.int .i64 30), .lit (.int .i64 31)]

/-- 'corrodylaw05.MonthsAdd': WHATEVER THE INPUT: true; the input reads as it did. -/
def monthsAddSpec : ChangeSpec := { name := "monthsAdd", fn := fun _ => fun
  | [d1, d2] => { results := [.lit (.bool true)], args := [d1, d2] }
  | _ => none }
def monthsAddRow : OpenClaim := { program := "ytkfhcfigkdcocaadoor", sum := "2147cacaba7cf4b9c98070f8cd2d7c0baace594c6e4b5cfbb9f05ebc4fd32dcd", func := "corrody/corrodylaw05.MonthsAdd", spec := "monthsAdd", unfollowed := true, recurses := true, named := ["corrody/civil.lengths"], apart := false, laid := [("corrody/civil.lengths", laid_corrody_civil_lengths)] }
def MonthsAddSaid : Prop := monthsAddRow.holds Tryd.pinned (OpenSpec.ofChange monthsAddSpec)

/-- ITS FALSE NEIGHBOUR: 'it returns false'. Refute it at one input. -/
def monthsAddWrong : ChangeSpec := { name := "monthsAdd", fn := fun _ => fun
  | [d1, d2] => { results := [.lit (.bool false)], args := [d1, d2] }
  | _ => none }
def MonthsAddWrongFalsely : Prop := monthsAddRow.holds Tryd.pinned (OpenSpec.ofChange monthsAddWrong)

/-- 'corrodylaw05.MonthsBetween': WHATEVER THE INPUT: true; the input reads as it did. -/
def monthsBetweenSpec : ChangeSpec := { name := "monthsBetween", fn := fun _ => fun
  | [d1, d2] => { results := [.lit (.bool true)], args := [d1, d2] }
  | _ => none }
def monthsBetweenRow : OpenClaim := { program := "ytkfhcfigkdcocaadoor", sum := "2147cacaba7cf4b9c98070f8cd2d7c0baace594c6e4b5cfbb9f05ebc4fd32dcd", func := "corrody/corrodylaw05.MonthsBetween", spec := "monthsBetween", unfollowed := true, recurses := true, named := ["corrody/civil.lengths"], apart := false, laid := [("corrody/civil.lengths", laid_corrody_civil_lengths)] }
def MonthsBetweenSaid : Prop := monthsBetweenRow.holds Tryd.pinned (OpenSpec.ofChange monthsBetweenSpec)

/-- ITS FALSE NEIGHBOUR: 'it returns false'. Refute it at one input. -/
def monthsBetweenWrong : ChangeSpec := { name := "monthsBetween", fn := fun _ => fun
  | [d1, d2] => { results := [.lit (.bool false)], args := [d1, d2] }
  | _ => none }
def MonthsBetweenWrongFalsely : Prop := monthsBetweenRow.holds Tryd.pinned (OpenSpec.ofChange monthsBetweenWrong)

/-- 'corrodylaw05.MonthsBack': WHATEVER THE INPUT: true; the input reads as it did. -/
def monthsBackSpec : ChangeSpec := { name := "monthsBack", fn := fun _ => fun
  | [d1, d2] => { results := [.lit (.bool true)], args := [d1, d2] }
  | _ => none }
def monthsBackRow : OpenClaim := { program := "ytkfhcfigkdcocaadoor", sum := "2147cacaba7cf4b9c98070f8cd2d7c0baace594c6e4b5cfbb9f05ebc4fd32dcd", func := "corrody/corrodylaw05.MonthsBack", spec := "monthsBack", unfollowed := true, recurses := true, named := ["corrody/civil.lengths"], apart := false, laid := [("corrody/civil.lengths", laid_corrody_civil_lengths)] }
def MonthsBackSaid : Prop := monthsBackRow.holds Tryd.pinned (OpenSpec.ofChange monthsBackSpec)

/-- ITS FALSE NEIGHBOUR: 'it returns false'. Refute it at one input. -/
def monthsBackWrong : ChangeSpec := { name := "monthsBack", fn := fun _ => fun
  | [d1, d2] => { results := [.lit (.bool false)], args := [d1, d2] }
  | _ => none }
def MonthsBackWrongFalsely : Prop := monthsBackRow.holds Tryd.pinned (OpenSpec.ofChange monthsBackWrong)

/- THE SECOND FORM. 'bulk': how many values and letters a reading holds, each counted each time it is reached (what is shared counts as often as it is met; a slice's spare places count too). A statement '..UptoSaid' is the law's where the arguments, and the package variables that the reading takes, are together of bulk at most 1048576: NARROWER than '..Said'. Prove '..Said' where nothing that the law and all that it calls make is longer than what came in: it says more and counts as full. Else prove '..UptoSaid'. A law counts once. -/
mutual
def uptoBulk {H : Type} : DataW H → Nat
  | .lit (.string bytes) => bytes.length + 1
  | .lit _ => 1
  | .nil => 1
  | .ptr d => uptoBulk d + 1
  | .slice elems spare => uptoBulkAll elems + uptoBulkAll spare + 1
  | .agg parts => uptoBulkAll parts + 1
  | .iface _ d => uptoBulk d + 1
  | .map entries => uptoBulkEntries entries + 1
  | .held _ => 1
def uptoBulkAll {H : Type} : List (DataW H) → Nat
  | [] => 0
  | d :: r => uptoBulk d + uptoBulkAll r
def uptoBulkEntries {H : Type} : List (Lit × DataW H) → Nat
  | [] => 0
  | x :: r => uptoBulkEntry x + uptoBulkEntries r
def uptoBulkEntry {H : Type} : Lit × DataW H → Nat
  | (.string bytes, d) => bytes.length + uptoBulk d + 1
  | (_, d) => uptoBulk d + 1
 end
def uptoSmall : (H : Type) → List (DataW H) → Bool := fun _ ds => decide (uptoBulkAll ds ≤ 1048576)
def OpenSpec.upto (s : _root_.Go.ChangeSpec) : _root_.Go.OpenSpec := { _root_.Go.OpenSpec.ofChange s with cond := some uptoSmall }

/-- 'corrodylaw05.MonthsAdd', WHERE WHAT IT READS IS OF BULK AT MOST 1048576: true; the input reads as it did. -/
def monthsAddUptoRow : OpenClaim := { program := "ytkfhcfigkdcocaadoor", sum := "2147cacaba7cf4b9c98070f8cd2d7c0baace594c6e4b5cfbb9f05ebc4fd32dcd", func := "corrody/corrodylaw05.MonthsAdd", spec := "monthsAdd", unfollowed := true, recurses := true, named := ["corrody/civil.lengths"], apart := false, laid := [("corrody/civil.lengths", laid_corrody_civil_lengths)], narrowed := true }
def MonthsAddUptoSaid : Prop := monthsAddUptoRow.holds Tryd.pinned (OpenSpec.upto monthsAddSpec)

/-- 'corrodylaw05.MonthsBetween', WHERE WHAT IT READS IS OF BULK AT MOST 1048576: true; the input reads as it did. -/
def monthsBetweenUptoRow : OpenClaim := { program := "ytkfhcfigkdcocaadoor", sum := "2147cacaba7cf4b9c98070f8cd2d7c0baace594c6e4b5cfbb9f05ebc4fd32dcd", func := "corrody/corrodylaw05.MonthsBetween", spec := "monthsBetween", unfollowed := true, recurses := true, named := ["corrody/civil.lengths"], apart := false, laid := [("corrody/civil.lengths", laid_corrody_civil_lengths)], narrowed := true }
def MonthsBetweenUptoSaid : Prop := monthsBetweenUptoRow.holds Tryd.pinned (OpenSpec.upto monthsBetweenSpec)

/-- 'corrodylaw05.MonthsBack', WHERE WHAT IT READS IS OF BULK AT MOST 1048576: true; the input reads as it did. -/
def monthsBackUptoRow : OpenClaim := { program := "ytkfhcfigkdcocaadoor", sum := "2147cacaba7cf4b9c98070f8cd2d7c0baace594c6e4b5cfbb9f05ebc4fd32dcd", func := "corrody/corrodylaw05.MonthsBack", spec := "monthsBack", unfollowed := true, recurses := true, named := ["corrody/civil.lengths"], apart := false, laid := [("corrody/civil.lengths", laid_corrody_civil_lengths)], narrowed := true }
def MonthsBackUptoSaid : Prop := monthsBackUptoRow.holds Tryd.pinned (OpenSpec.upto monthsBackSpec)

end Rows
end Go.Proofs.YtkfhcfigkdcocaaDoor
