/-
  No cell of these rows narrows 'for every input' (looked for: loops, veiled, ifaces, maps, wideKeys, modest, calm, conditions, laid).
  DERIVED. THE GIVEN ROWS OF THIS SEAT. 3 by the template 'for every input the law returns true; each argument reads behind the call as it read before'; 0 by the template 'total and deterministic' (their statements: YtolmkagedlcjiaaTotals.lean).
  GIVEN WITH THE SEED: the statements are not yours to turn. If you find one false, say at which input.
  Laid BY PROGRAM, IN A SANDBOX (cutbox-rows.mjs): the forced cells as the released guide's own fill.sh prints them over the translation 3863e6070632b597… (all of the seat's roots in one cut). By AI agents, Wed Nov 11 2026. No macro, syntax, notation, axiom, sorry.
-/
import Derived.Test.YtolmkagedlcjiaaChecked
import GoSem.Claim
import GoSem.ClaimJoined
import GoSem.ClaimMapViews
import Derived.JoinedTies
import Derived.KernelRfl
namespace Go.Proofs.Ytolmkagedlcjiaa
/- THE CELL 'sum', in the pinned program and in every row, IS THE sha256 OF THE DUMP (.gsa) THAT YtolmkagedlcjiaaProg.lean LOADS. Nothing in Lean hashes anything: it is a label: what it is worth is what the hold of that sum in a sandbox is worth. -/
noncomputable def Try.pinned : Pinned := { name := "ytolmkagedlcjiaa", sum := "3863e6070632b597d13d13f6a227c2e496989adc5b6d23ee490aeebdf8ca6949", checked := Try.checked }
namespace Rows
def none {H : Type} : Left H := { results := [], args := [] }

/-- 'corrodylaw09.ItreeAnswers': WHATEVER THE INPUT: true; the input reads as it did. -/
def itreeAnswersSpec : ChangeSpec := { name := "itreeAnswers", fn := fun _ => fun
  | [d1, d2, d3] => { results := [.lit (.bool true)], args := [d1, d2, d3] }
  | _ => none }
def itreeAnswersRow : OpenClaim := { program := "ytolmkagedlcjiaa", sum := "3863e6070632b597d13d13f6a227c2e496989adc5b6d23ee490aeebdf8ca6949", func := "corrody/corrodylaw09.ItreeAnswers", spec := "itreeAnswers", unfollowed := true, recurses := true, apart := false }
def ItreeAnswersSaid : Prop := itreeAnswersRow.holds Try.pinned (OpenSpec.ofChange itreeAnswersSpec)

/-- ITS FALSE NEIGHBOUR: 'it returns false'. Refute it at one input. -/
def itreeAnswersWrong : ChangeSpec := { name := "itreeAnswers", fn := fun _ => fun
  | [d1, d2, d3] => { results := [.lit (.bool false)], args := [d1, d2, d3] }
  | _ => none }
def ItreeAnswersWrongFalsely : Prop := itreeAnswersRow.holds Try.pinned (OpenSpec.ofChange itreeAnswersWrong)

/-- 'corrodylaw09.ItreeAll': WHATEVER THE INPUT: true; the input reads as it did. -/
def itreeAllSpec : ChangeSpec := { name := "itreeAll", fn := fun _ => fun
  | [d1, d2, d3, d4] => { results := [.lit (.bool true)], args := [d1, d2, d3, d4] }
  | _ => none }
def itreeAllRow : OpenClaim := { program := "ytolmkagedlcjiaa", sum := "3863e6070632b597d13d13f6a227c2e496989adc5b6d23ee490aeebdf8ca6949", func := "corrody/corrodylaw09.ItreeAll", spec := "itreeAll", unfollowed := true, recurses := true, apart := false }
def ItreeAllSaid : Prop := itreeAllRow.holds Try.pinned (OpenSpec.ofChange itreeAllSpec)

/-- ITS FALSE NEIGHBOUR: 'it returns false'. Refute it at one input. -/
def itreeAllWrong : ChangeSpec := { name := "itreeAll", fn := fun _ => fun
  | [d1, d2, d3, d4] => { results := [.lit (.bool false)], args := [d1, d2, d3, d4] }
  | _ => none }
def ItreeAllWrongFalsely : Prop := itreeAllRow.holds Try.pinned (OpenSpec.ofChange itreeAllWrong)

/-- 'corrodylaw09.ItreeNone': WHATEVER THE INPUT: true; the input reads as it did. -/
def itreeNoneSpec : ChangeSpec := { name := "itreeNone", fn := fun _ => fun
  | [d1, d2] => { results := [.lit (.bool true)], args := [d1, d2] }
  | _ => none }
def itreeNoneRow : OpenClaim := { program := "ytolmkagedlcjiaa", sum := "3863e6070632b597d13d13f6a227c2e496989adc5b6d23ee490aeebdf8ca6949", func := "corrody/corrodylaw09.ItreeNone", spec := "itreeNone", unfollowed := true, recurses := true, apart := false }
def ItreeNoneSaid : Prop := itreeNoneRow.holds Try.pinned (OpenSpec.ofChange itreeNoneSpec)

/-- ITS FALSE NEIGHBOUR: 'it returns false'. Refute it at one input. -/
def itreeNoneWrong : ChangeSpec := { name := "itreeNone", fn := fun _ => fun
  | [d1, d2] => { results := [.lit (.bool false)], args := [d1, d2] }
  | _ => none }
def ItreeNoneWrongFalsely : Prop := itreeNoneRow.holds Try.pinned (OpenSpec.ofChange itreeNoneWrong)

/- THE SECOND FORM. 'bulk': how many values and letters a reading holds, each counted each time it is reached (what is shared counts as often as it is met; a slice's spare places count too). A statement '..UptoSaid' is the law's where the arguments, and the package variables that the reading takes, are together of bulk at most 1048576: NARROWER than '..Said'. Prove '..Said' where nothing that the law and all that it calls make is longer than what came in: it says more and counts as full. Else prove '..UptoSaid'. A law counts once. -/
mutual
def uptoBulk {H : Type} : DataW H → Nat
  | .lit (.string bytes) => bytes.length + 1
  | .lit _ => 1
  | .nil => 1
  | .ptr d => uptoBulk d + 1
  | .slice elems spare => uptoBulkAll elems + uptoBulkAll spare + 1
  | .agg parts => uptoBulkAll parts + 1
  | .iface _ d => uptoBulk d + 1
  | .map entries => uptoBulkEntries entries + 1
  | .held _ => 1
def uptoBulkAll {H : Type} : List (DataW H) → Nat
  | [] => 0
  | d :: r => uptoBulk d + uptoBulkAll r
def uptoBulkEntries {H : Type} : List (Lit × DataW H) → Nat
  | [] => 0
  | x :: r => uptoBulkEntry x + uptoBulkEntries r
def uptoBulkEntry {H : Type} : Lit × DataW H → Nat
  | (.string bytes, d) => bytes.length + uptoBulk d + 1
  | (_, d) => uptoBulk d + 1
 end
def uptoSmall : (H : Type) → List (DataW H) → Bool := fun _ ds => decide (uptoBulkAll ds ≤ 1048576)
def OpenSpec.upto (s : _root_.Go.ChangeSpec) : _root_.Go.OpenSpec := { _root_.Go.OpenSpec.ofChange s with cond := some uptoSmall }

/-- 'corrodylaw09.ItreeAnswers', WHERE WHAT IT READS IS OF BULK AT MOST 1048576: true; the input reads as it did. -/
def itreeAnswersUptoRow : OpenClaim := { program := "ytolmkagedlcjiaa", sum := "3863e6070632b597d13d13f6a227c2e496989adc5b6d23ee490aeebdf8ca6949", func := "corrody/corrodylaw09.ItreeAnswers", spec := "itreeAnswers", unfollowed := true, recurses := true, apart := false, narrowed := true }
def ItreeAnswersUptoSaid : Prop := itreeAnswersUptoRow.holds Try.pinned (OpenSpec.upto itreeAnswersSpec)

/-- 'corrodylaw09.ItreeAll', WHERE WHAT IT READS IS OF BULK AT MOST 1048576: true; the input reads as it did. -/
def itreeAllUptoRow : OpenClaim := { program := "ytolmkagedlcjiaa", sum := "3863e6070632b597d13d13f6a227c2e496989adc5b6d23ee490aeebdf8ca6949", func := "corrody/corrodylaw09.ItreeAll", spec := "itreeAll", unfollowed := true, recurses := true, apart := false, narrowed := true }
def ItreeAllUptoSaid : Prop := itreeAllUptoRow.holds Try.pinned (OpenSpec.upto itreeAllSpec)

/-- 'corrodylaw09.ItreeNone', WHERE WHAT IT READS IS OF BULK AT MOST 1048576: true; the input reads as it did. -/
def itreeNoneUptoRow : OpenClaim := { program := "ytolmkagedlcjiaa", sum := "3863e6070632b597d13d13f6a227c2e496989adc5b6d23ee490aeebdf8ca6949", func := "corrody/corrodylaw09.ItreeNone", spec := "itreeNone", unfollowed := true, recurses := true, apart := false, narrowed := true }
def ItreeNoneUptoSaid : Prop := itreeNoneUptoRow.holds Try.pinned (OpenSpec.upto itreeNoneSpec)

end Rows
end Go.Proofs.Ytolmkagedlcjiaa
