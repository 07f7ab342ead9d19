/-
  No cell of these rows narrows 'for every input' (looked for: loops, veiled, ifaces, maps, wideKeys, modest, calm, conditions, laid).
  DERIVED. THE GIVEN ROWS OF THIS SEAT. 5 by the template 'for every input the law returns true; each argument reads behind the call as it read before'; 0 by the template 'total and deterministic' (their statements: YtockjcainkoifaaTotals.lean).
  GIVEN WITH THE SEED: the statements are not yours to turn. If you find one false, say at which input.
  Laid BY PROGRAM, IN A SANDBOX (cutbox-rows.mjs): the forced cells as the released guide's own fill.sh prints them over the translation b1ab9926964c1986… (all of the seat's roots in one cut). By AI agents, Wed Nov 11 2026. No macro, syntax, notation, axiom, sorry.
-/
import Derived.Test.YtockjcainkoifaaChecked
import GoSem.Claim
import GoSem.ClaimJoined
import GoSem.ClaimMapViews
import Derived.JoinedTies
import Derived.KernelRfl
namespace Go.Proofs.Ytockjcainkoifaa
/- THE CELL 'sum', in the pinned program and in every row, IS THE sha256 OF THE DUMP (.gsa) THAT YtockjcainkoifaaProg.lean LOADS. Nothing in Lean hashes anything: it is a label: what it is worth is what the hold of that sum in a sandbox is worth. -/
noncomputable def Try.pinned : Pinned := { name := "ytockjcainkoifaa", sum := "b1ab9926964c1986f586c0b76625976b50c51772de0f32c5a95615d74c410f97", checked := Try.checked }
namespace Rows
def none {H : Type} : Left H := { results := [], args := [] }

/-- 'corrodylaw11.TimelinePlays': WHATEVER THE INPUT: true; the input reads as it did. -/
def timelinePlaysSpec : ChangeSpec := { name := "timelinePlays", fn := fun _ => fun
  | [d1, d2, d3] => { results := [.lit (.bool true)], args := [d1, d2, d3] }
  | _ => none }
def timelinePlaysRow : OpenClaim := { program := "ytockjcainkoifaa", sum := "b1ab9926964c1986f586c0b76625976b50c51772de0f32c5a95615d74c410f97", func := "corrody/corrodylaw11.TimelinePlays", spec := "timelinePlays", unfollowed := true, recurses := true, apart := false }
def TimelinePlaysSaid : Prop := timelinePlaysRow.holds Try.pinned (OpenSpec.ofChange timelinePlaysSpec)

/-- ITS FALSE NEIGHBOUR: 'it returns false'. Refute it at one input. -/
def timelinePlaysWrong : ChangeSpec := { name := "timelinePlays", fn := fun _ => fun
  | [d1, d2, d3] => { results := [.lit (.bool false)], args := [d1, d2, d3] }
  | _ => none }
def TimelinePlaysWrongFalsely : Prop := timelinePlaysRow.holds Try.pinned (OpenSpec.ofChange timelinePlaysWrong)

/-- 'corrodylaw11.TimelineCopies': WHATEVER THE INPUT: true; the input reads as it did. -/
def timelineCopiesSpec : ChangeSpec := { name := "timelineCopies", fn := fun _ => fun
  | [d1, d2, d3] => { results := [.lit (.bool true)], args := [d1, d2, d3] }
  | _ => none }
def timelineCopiesRow : OpenClaim := { program := "ytockjcainkoifaa", sum := "b1ab9926964c1986f586c0b76625976b50c51772de0f32c5a95615d74c410f97", func := "corrody/corrodylaw11.TimelineCopies", spec := "timelineCopies", unfollowed := true, recurses := true, apart := false }
def TimelineCopiesSaid : Prop := timelineCopiesRow.holds Try.pinned (OpenSpec.ofChange timelineCopiesSpec)

/-- ITS FALSE NEIGHBOUR: 'it returns false'. Refute it at one input. -/
def timelineCopiesWrong : ChangeSpec := { name := "timelineCopies", fn := fun _ => fun
  | [d1, d2, d3] => { results := [.lit (.bool false)], args := [d1, d2, d3] }
  | _ => none }
def TimelineCopiesWrongFalsely : Prop := timelineCopiesRow.holds Try.pinned (OpenSpec.ofChange timelineCopiesWrong)

/-- 'corrodylaw11.TimelineShape': WHATEVER THE INPUT: true; the input reads as it did. -/
def timelineShapeSpec : ChangeSpec := { name := "timelineShape", fn := fun _ => fun
  | [d1, d2] => { results := [.lit (.bool true)], args := [d1, d2] }
  | _ => none }
def timelineShapeRow : OpenClaim := { program := "ytockjcainkoifaa", sum := "b1ab9926964c1986f586c0b76625976b50c51772de0f32c5a95615d74c410f97", func := "corrody/corrodylaw11.TimelineShape", spec := "timelineShape", unfollowed := true, recurses := true, apart := false }
def TimelineShapeSaid : Prop := timelineShapeRow.holds Try.pinned (OpenSpec.ofChange timelineShapeSpec)

/-- ITS FALSE NEIGHBOUR: 'it returns false'. Refute it at one input. -/
def timelineShapeWrong : ChangeSpec := { name := "timelineShape", fn := fun _ => fun
  | [d1, d2] => { results := [.lit (.bool false)], args := [d1, d2] }
  | _ => none }
def TimelineShapeWrongFalsely : Prop := timelineShapeRow.holds Try.pinned (OpenSpec.ofChange timelineShapeWrong)

/-- 'corrodylaw11.TimelineLast': WHATEVER THE INPUT: true; the input reads as it did. -/
def timelineLastSpec : ChangeSpec := { name := "timelineLast", fn := fun _ => fun
  | [d1, d2, d3] => { results := [.lit (.bool true)], args := [d1, d2, d3] }
  | _ => none }
def timelineLastRow : OpenClaim := { program := "ytockjcainkoifaa", sum := "b1ab9926964c1986f586c0b76625976b50c51772de0f32c5a95615d74c410f97", func := "corrody/corrodylaw11.TimelineLast", spec := "timelineLast", unfollowed := true, recurses := true, apart := false }
def TimelineLastSaid : Prop := timelineLastRow.holds Try.pinned (OpenSpec.ofChange timelineLastSpec)

/-- ITS FALSE NEIGHBOUR: 'it returns false'. Refute it at one input. -/
def timelineLastWrong : ChangeSpec := { name := "timelineLast", fn := fun _ => fun
  | [d1, d2, d3] => { results := [.lit (.bool false)], args := [d1, d2, d3] }
  | _ => none }
def TimelineLastWrongFalsely : Prop := timelineLastRow.holds Try.pinned (OpenSpec.ofChange timelineLastWrong)

/-- 'corrodylaw11.TimelineNone': WHATEVER THE INPUT: true; the input reads as it did. -/
def timelineNoneSpec : ChangeSpec := { name := "timelineNone", fn := fun _ => fun
  | [d1, d2] => { results := [.lit (.bool true)], args := [d1, d2] }
  | _ => none }
def timelineNoneRow : OpenClaim := { program := "ytockjcainkoifaa", sum := "b1ab9926964c1986f586c0b76625976b50c51772de0f32c5a95615d74c410f97", func := "corrody/corrodylaw11.TimelineNone", spec := "timelineNone", unfollowed := true, recurses := true, apart := false }
def TimelineNoneSaid : Prop := timelineNoneRow.holds Try.pinned (OpenSpec.ofChange timelineNoneSpec)

/-- ITS FALSE NEIGHBOUR: 'it returns false'. Refute it at one input. -/
def timelineNoneWrong : ChangeSpec := { name := "timelineNone", fn := fun _ => fun
  | [d1, d2] => { results := [.lit (.bool false)], args := [d1, d2] }
  | _ => none }
def TimelineNoneWrongFalsely : Prop := timelineNoneRow.holds Try.pinned (OpenSpec.ofChange timelineNoneWrong)

/- THE SECOND FORM. 'bulk': how many values and letters a reading holds, each counted each time it is reached (what is shared counts as often as it is met; a slice's spare places count too). A statement '..UptoSaid' is the law's where the arguments, and the package variables that the reading takes, are together of bulk at most 1048576: NARROWER than '..Said'. Prove '..Said' where nothing that the law and all that it calls make is longer than what came in: it says more and counts as full. Else prove '..UptoSaid'. A law counts once. -/
mutual
def uptoBulk {H : Type} : DataW H → Nat
  | .lit (.string bytes) => bytes.length + 1
  | .lit _ => 1
  | .nil => 1
  | .ptr d => uptoBulk d + 1
  | .slice elems spare => uptoBulkAll elems + uptoBulkAll spare + 1
  | .agg parts => uptoBulkAll parts + 1
  | .iface _ d => uptoBulk d + 1
  | .map entries => uptoBulkEntries entries + 1
  | .held _ => 1
def uptoBulkAll {H : Type} : List (DataW H) → Nat
  | [] => 0
  | d :: r => uptoBulk d + uptoBulkAll r
def uptoBulkEntries {H : Type} : List (Lit × DataW H) → Nat
  | [] => 0
  | x :: r => uptoBulkEntry x + uptoBulkEntries r
def uptoBulkEntry {H : Type} : Lit × DataW H → Nat
  | (.string bytes, d) => bytes.length + uptoBulk d + 1
  | (_, d) => uptoBulk d + 1
 end
def uptoSmall : (H : Type) → List (DataW H) → Bool := fun _ ds => decide (uptoBulkAll ds ≤ 1048576)
def OpenSpec.upto (s : _root_.Go.ChangeSpec) : _root_.Go.OpenSpec := { _root_.Go.OpenSpec.ofChange s with cond := some uptoSmall }

/-- 'corrodylaw11.TimelinePlays', WHERE WHAT IT READS IS OF BULK AT MOST 1048576: true; the input reads as it did. -/
def timelinePlaysUptoRow : OpenClaim := { program := "ytockjcainkoifaa", sum := "b1ab9926964c1986f586c0b76625976b50c51772de0f32c5a95615d74c410f97", func := "corrody/corrodylaw11.TimelinePlays", spec := "timelinePlays", unfollowed := true, recurses := true, apart := false, narrowed := true }
def TimelinePlaysUptoSaid : Prop := timelinePlaysUptoRow.holds Try.pinned (OpenSpec.upto timelinePlaysSpec)

/-- 'corrodylaw11.TimelineCopies', WHERE WHAT IT READS IS OF BULK AT MOST 1048576: true; the input reads as it did. -/
def timelineCopiesUptoRow : OpenClaim := { program := "ytockjcainkoifaa", sum := "b1ab9926964c1986f586c0b76625976b50c51772de0f32c5a95615d74c410f97", func := "corrody/corrodylaw11.TimelineCopies", spec := "timelineCopies", unfollowed := true, recurses := true, apart := false, narrowed := true }
def TimelineCopiesUptoSaid : Prop := timelineCopiesUptoRow.holds Try.pinned (OpenSpec.upto timelineCopiesSpec)

/-- 'corrodylaw11.TimelineShape', WHERE WHAT IT READS IS OF BULK AT MOST 1048576: true; the input reads as it did. -/
def timelineShapeUptoRow : OpenClaim := { program := "ytockjcainkoifaa", sum := "b1ab9926964c1986f586c0b76625976b50c51772de0f32c5a95615d74c410f97", func := "corrody/corrodylaw11.TimelineShape", spec := "timelineShape", unfollowed := true, recurses := true, apart := false, narrowed := true }
def TimelineShapeUptoSaid : Prop := timelineShapeUptoRow.holds Try.pinned (OpenSpec.upto timelineShapeSpec)

/-- 'corrodylaw11.TimelineLast', WHERE WHAT IT READS IS OF BULK AT MOST 1048576: true; the input reads as it did. -/
def timelineLastUptoRow : OpenClaim := { program := "ytockjcainkoifaa", sum := "b1ab9926964c1986f586c0b76625976b50c51772de0f32c5a95615d74c410f97", func := "corrody/corrodylaw11.TimelineLast", spec := "timelineLast", unfollowed := true, recurses := true, apart := false, narrowed := true }
def TimelineLastUptoSaid : Prop := timelineLastUptoRow.holds Try.pinned (OpenSpec.upto timelineLastSpec)

/-- 'corrodylaw11.TimelineNone', WHERE WHAT IT READS IS OF BULK AT MOST 1048576: true; the input reads as it did. -/
def timelineNoneUptoRow : OpenClaim := { program := "ytockjcainkoifaa", sum := "b1ab9926964c1986f586c0b76625976b50c51772de0f32c5a95615d74c410f97", func := "corrody/corrodylaw11.TimelineNone", spec := "timelineNone", unfollowed := true, recurses := true, apart := false, narrowed := true }
def TimelineNoneUptoSaid : Prop := timelineNoneUptoRow.holds Try.pinned (OpenSpec.upto timelineNoneSpec)

end Rows
end Go.Proofs.Ytockjcainkoifaa
