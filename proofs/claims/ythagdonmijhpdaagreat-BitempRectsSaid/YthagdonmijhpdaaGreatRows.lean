/-
  No cell of these rows narrows 'for every input' (looked for: loops, veiled, ifaces, maps, wideKeys, modest, calm, conditions, laid).
  DERIVED. THE GIVEN ROWS OF THIS SEAT. 5 by the template 'for every input the law returns true; each argument reads behind the call as it read before'; 0 by the template 'total and deterministic' (their statements: YthagdonmijhpdaaGreatTotals.lean).
  GIVEN WITH THE SEED: the statements are not yours to turn. If you find one false, say at which input.
  Laid BY PROGRAM, IN A SANDBOX (cutbox-rows.mjs): the forced cells as the released guide's own fill.sh prints them over the translation e84a42755909b4d5… (all of the seat's roots in one cut). By AI agents, Wed Nov 11 2026. No macro, syntax, notation, axiom, sorry.
-/
import Derived.Test.YthagdonmijhpdaaGreatChecked
import GoSem.Claim
import GoSem.ClaimJoined
import GoSem.ClaimMapViews
import Derived.JoinedTies
import Derived.KernelRfl
namespace Go.Proofs.YthagdonmijhpdaaGreat
/- THE CELL 'sum', in the pinned program and in every row, IS THE sha256 OF THE DUMP (.gsa) THAT YthagdonmijhpdaaGreatProg.lean LOADS. Nothing in Lean hashes anything: it is a label: what it is worth is what the hold of that sum in a sandbox is worth. -/
noncomputable def Tryz.pinned : Pinned := { name := "ythagdonmijhpdaagreat", sum := "e84a42755909b4d5cafe1648347a8c937a78d6033f55f0c319492bc03f9ea1ed", checked := Tryz.checked }
namespace Rows
def none {H : Type} : Left H := { results := [], args := [] }

/-- 'corrodylaw13.BitempPlays': WHATEVER THE INPUT: true; the input reads as it did. -/
def bitempPlaysSpec : ChangeSpec := { name := "bitempPlays", fn := fun _ => fun
  | [d1, d2, d3, d4] => { results := [.lit (.bool true)], args := [d1, d2, d3, d4] }
  | _ => none }
def bitempPlaysRow : OpenClaim := { program := "ythagdonmijhpdaagreat", sum := "e84a42755909b4d5cafe1648347a8c937a78d6033f55f0c319492bc03f9ea1ed", func := "corrody/corrodylaw13.BitempPlays", spec := "bitempPlays", unfollowed := true, recurses := true, apart := false }
def BitempPlaysSaid : Prop := bitempPlaysRow.holds Tryz.pinned (OpenSpec.ofChange bitempPlaysSpec)

/-- ITS FALSE NEIGHBOUR: 'it returns false'. Refute it at one input. -/
def bitempPlaysWrong : ChangeSpec := { name := "bitempPlays", fn := fun _ => fun
  | [d1, d2, d3, d4] => { results := [.lit (.bool false)], args := [d1, d2, d3, d4] }
  | _ => none }
def BitempPlaysWrongFalsely : Prop := bitempPlaysRow.holds Tryz.pinned (OpenSpec.ofChange bitempPlaysWrong)

/-- 'corrodylaw13.BitempTells': WHATEVER THE INPUT: true; the input reads as it did. -/
def bitempTellsSpec : ChangeSpec := { name := "bitempTells", fn := fun _ => fun
  | [d1, d2, d3] => { results := [.lit (.bool true)], args := [d1, d2, d3] }
  | _ => none }
def bitempTellsRow : OpenClaim := { program := "ythagdonmijhpdaagreat", sum := "e84a42755909b4d5cafe1648347a8c937a78d6033f55f0c319492bc03f9ea1ed", func := "corrody/corrodylaw13.BitempTells", spec := "bitempTells", unfollowed := true, recurses := true, apart := false }
def BitempTellsSaid : Prop := bitempTellsRow.holds Tryz.pinned (OpenSpec.ofChange bitempTellsSpec)

/-- ITS FALSE NEIGHBOUR: 'it returns false'. Refute it at one input. -/
def bitempTellsWrong : ChangeSpec := { name := "bitempTells", fn := fun _ => fun
  | [d1, d2, d3] => { results := [.lit (.bool false)], args := [d1, d2, d3] }
  | _ => none }
def BitempTellsWrongFalsely : Prop := bitempTellsRow.holds Tryz.pinned (OpenSpec.ofChange bitempTellsWrong)

/-- 'corrodylaw13.BitempStays': WHATEVER THE INPUT: true; the input reads as it did. -/
def bitempStaysSpec : ChangeSpec := { name := "bitempStays", fn := fun _ => fun
  | [d1, d2, d3] => { results := [.lit (.bool true)], args := [d1, d2, d3] }
  | _ => none }
def bitempStaysRow : OpenClaim := { program := "ythagdonmijhpdaagreat", sum := "e84a42755909b4d5cafe1648347a8c937a78d6033f55f0c319492bc03f9ea1ed", func := "corrody/corrodylaw13.BitempStays", spec := "bitempStays", unfollowed := true, recurses := true, apart := false }
def BitempStaysSaid : Prop := bitempStaysRow.holds Tryz.pinned (OpenSpec.ofChange bitempStaysSpec)

/-- ITS FALSE NEIGHBOUR: 'it returns false'. Refute it at one input. -/
def bitempStaysWrong : ChangeSpec := { name := "bitempStays", fn := fun _ => fun
  | [d1, d2, d3] => { results := [.lit (.bool false)], args := [d1, d2, d3] }
  | _ => none }
def BitempStaysWrongFalsely : Prop := bitempStaysRow.holds Tryz.pinned (OpenSpec.ofChange bitempStaysWrong)

/-- 'corrodylaw13.BitempRects': WHATEVER THE INPUT: true; the input reads as it did. -/
def bitempRectsSpec : ChangeSpec := { name := "bitempRects", fn := fun _ => fun
  | [d1, d2] => { results := [.lit (.bool true)], args := [d1, d2] }
  | _ => none }
def bitempRectsRow : OpenClaim := { program := "ythagdonmijhpdaagreat", sum := "e84a42755909b4d5cafe1648347a8c937a78d6033f55f0c319492bc03f9ea1ed", func := "corrody/corrodylaw13.BitempRects", spec := "bitempRects", unfollowed := true, recurses := true, apart := false }
def BitempRectsSaid : Prop := bitempRectsRow.holds Tryz.pinned (OpenSpec.ofChange bitempRectsSpec)

/-- ITS FALSE NEIGHBOUR: 'it returns false'. Refute it at one input. -/
def bitempRectsWrong : ChangeSpec := { name := "bitempRects", fn := fun _ => fun
  | [d1, d2] => { results := [.lit (.bool false)], args := [d1, d2] }
  | _ => none }
def BitempRectsWrongFalsely : Prop := bitempRectsRow.holds Tryz.pinned (OpenSpec.ofChange bitempRectsWrong)

/-- 'corrodylaw13.BitempNone': WHATEVER THE INPUT: true; the input reads as it did. -/
def bitempNoneSpec : ChangeSpec := { name := "bitempNone", fn := fun _ => fun
  | [d] => { results := [.lit (.bool true)], args := [d] }
  | _ => none }
def bitempNoneRow : OpenClaim := { program := "ythagdonmijhpdaagreat", sum := "e84a42755909b4d5cafe1648347a8c937a78d6033f55f0c319492bc03f9ea1ed", func := "corrody/corrodylaw13.BitempNone", spec := "bitempNone", unfollowed := true, recurses := true, apart := false }
def BitempNoneSaid : Prop := bitempNoneRow.holds Tryz.pinned (OpenSpec.ofChange bitempNoneSpec)

/-- ITS FALSE NEIGHBOUR: 'it returns false'. Refute it at one input. -/
def bitempNoneWrong : ChangeSpec := { name := "bitempNone", fn := fun _ => fun
  | [d] => { results := [.lit (.bool false)], args := [d] }
  | _ => none }
def BitempNoneWrongFalsely : Prop := bitempNoneRow.holds Tryz.pinned (OpenSpec.ofChange bitempNoneWrong)

/- THE SECOND FORM. 'bulk': how many values and letters a reading holds, each counted each time it is reached (what is shared counts as often as it is met; a slice's spare places count too). A statement '..UptoSaid' is the law's where the arguments, and the package variables that the reading takes, are together of bulk at most 1048576: NARROWER than '..Said'. Prove '..Said' where nothing that the law and all that it calls make is longer than what came in: it says more and counts as full. Else prove '..UptoSaid'. A law counts once. -/
mutual
def uptoBulk {H : Type} : DataW H → Nat
  | .lit (.string bytes) => bytes.length + 1
  | .lit _ => 1
  | .nil => 1
  | .ptr d => uptoBulk d + 1
  | .slice elems spare => uptoBulkAll elems + uptoBulkAll spare + 1
  | .agg parts => uptoBulkAll parts + 1
  | .iface _ d => uptoBulk d + 1
  | .map entries => uptoBulkEntries entries + 1
  | .held _ => 1
def uptoBulkAll {H : Type} : List (DataW H) → Nat
  | [] => 0
  | d :: r => uptoBulk d + uptoBulkAll r
def uptoBulkEntries {H : Type} : List (Lit × DataW H) → Nat
  | [] => 0
  | x :: r => uptoBulkEntry x + uptoBulkEntries r
def uptoBulkEntry {H : Type} : Lit × DataW H → Nat
  | (.string bytes, d) => bytes.length + uptoBulk d + 1
  | (_, d) => uptoBulk d + 1
 end
def uptoSmall : (H : Type) → List (DataW H) → Bool := fun _ ds => decide (uptoBulkAll ds ≤ 1048576)
def OpenSpec.upto (s : _root_.Go.ChangeSpec) : _root_.Go.OpenSpec := { _root_.Go.OpenSpec.ofChange s with cond := some uptoSmall }

/-- 'corrodylaw13.BitempPlays', WHERE WHAT IT READS IS OF BULK AT MOST 1048576: true; the input reads as it did. -/
def bitempPlaysUptoRow : OpenClaim := { program := "ythagdonmijhpdaagreat", sum := "e84a42755909b4d5cafe1648347a8c937a78d6033f55f0c319492bc03f9ea1ed", func := "corrody/corrodylaw13.BitempPlays", spec := "bitempPlays", unfollowed := true, recurses := true, apart := false, narrowed := true }
def BitempPlaysUptoSaid : Prop := bitempPlaysUptoRow.holds Tryz.pinned (OpenSpec.upto bitempPlaysSpec)

/-- 'corrodylaw13.BitempTells', WHERE WHAT IT READS IS OF BULK AT MOST 1048576: true; the input reads as it did. -/
def bitempTellsUptoRow : OpenClaim := { program := "ythagdonmijhpdaagreat", sum := "e84a42755909b4d5cafe1648347a8c937a78d6033f55f0c319492bc03f9ea1ed", func := "corrody/corrodylaw13.BitempTells", spec := "bitempTells", unfollowed := true, recurses := true, apart := false, narrowed := true }
def BitempTellsUptoSaid : Prop := bitempTellsUptoRow.holds Tryz.pinned (OpenSpec.upto bitempTellsSpec)

/-- 'corrodylaw13.BitempStays', WHERE WHAT IT READS IS OF BULK AT MOST 1048576: true; the input reads as it did. -/
def bitempStaysUptoRow : OpenClaim := { program := "ythagdonmijhpdaagreat", sum := "e84a42755909b4d5cafe1648347a8c937a78d6033f55f0c319492bc03f9ea1ed", func := "corrody/corrodylaw13.BitempStays", spec := "bitempStays", unfollowed := true, recurses := true, apart := false, narrowed := true }
def BitempStaysUptoSaid : Prop := bitempStaysUptoRow.holds Tryz.pinned (OpenSpec.upto bitempStaysSpec)

/-- 'corrodylaw13.BitempRects', WHERE WHAT IT READS IS OF BULK AT MOST 1048576: true; the input reads as it did. -/
def bitempRectsUptoRow : OpenClaim := { program := "ythagdonmijhpdaagreat", sum := "e84a42755909b4d5cafe1648347a8c937a78d6033f55f0c319492bc03f9ea1ed", func := "corrody/corrodylaw13.BitempRects", spec := "bitempRects", unfollowed := true, recurses := true, apart := false, narrowed := true }
def BitempRectsUptoSaid : Prop := bitempRectsUptoRow.holds Tryz.pinned (OpenSpec.upto bitempRectsSpec)

/-- 'corrodylaw13.BitempNone', WHERE WHAT IT READS IS OF BULK AT MOST 1048576: true; the input reads as it did. -/
def bitempNoneUptoRow : OpenClaim := { program := "ythagdonmijhpdaagreat", sum := "e84a42755909b4d5cafe1648347a8c937a78d6033f55f0c319492bc03f9ea1ed", func := "corrody/corrodylaw13.BitempNone", spec := "bitempNone", unfollowed := true, recurses := true, apart := false, narrowed := true }
def BitempNoneUptoSaid : Prop := bitempNoneUptoRow.holds Tryz.pinned (OpenSpec.upto bitempNoneSpec)

end Rows
end Go.Proofs.YthagdonmijhpdaaGreat
