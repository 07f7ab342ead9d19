/- Contract of ahead of package spans: the spans that have days from a day on. -/
import Derived.Test.YtmolbckndkhhlaaSpPMath
import Derived.Test.YtmolbckndkhhlaaRow3
import Derived.BigQuiet
namespace Corr
set_option maxRecDepth 8000
open Go Go.RowKit
/-- A slice's number of elements. -/
def slN : Value → Nat
  | .slice _ n _ => n
  | _ => 0
theorem cells2_drop1 : ∀ (l : SpL), cells2 (l.drop 1) = (cells2 l).drop 2
  | [] => rfl
  | _ :: _ => rfl
theorem Spn.drop1 {w : World} {g off j c : Nat} {l : SpL} (h : Spn w (some ⟨g, off, none⟩) (j + 1) c l) : Spn w (some ⟨g, off + 2, none⟩) j (c - 1) (l.drop 1) := by
  have := Lies.drop h (k := 1) (by omega)
  show Lies _ _ _ _ _ _
  rw [cells2_drop1]
  exact this
theorem aheadL_one {l : SpL} {x y d : Int} (h : l[0]? = some (x, y)) : (y ≤ d → aheadL (l.drop 1) d = aheadL l d) ∧ (¬ y ≤ d → aheadL l d = l) := by
  cases l with
  | nil => cases h
  | cons s r =>
    have : s = (x, y) := by simpa using h
    subst this
    exact ⟨fun q => by rw [aheadL, if_pos q]; rfl, fun q => by rw [aheadL, if_neg q]⟩
end Corr
namespace Go.Proofs.Ytmolbckndkhhlaa
set_option maxRecDepth 8000
open Go.RowKit Corr
set_option linter.unusedVariables false
set_option linter.unusedSimpArgs false
/-- Part of a row that is read. -/
def RetPart (w0 w : World) (l : SpL) (e : Ending) (w' : World) : Prop := ∃ A n c, e = .returned (.slice A n c) ∧ Spn w0 A n c l ∧ Below w.heap.size w w'
set_option maxHeartbeats 2000000 in
theorem ahead_any (A : Option Addr) (n c : Nat) (l : SpL) (d : Int) (w0 w : World) (R : Spn w0 A n c l) (hw : Below w0.heap.size w0 w) : Calls Try.prog 41 #[.slice A n c, .int .i64 d] w (RetPart w0 w (aheadL l d)) := by
  have HR := Lib.hid R
  have BW := Lib.hid hw
  clear R hw
  go_enter Try.func41, Try.ntmps41
  go_wp2_with fail
  go_loopw [0] (fun v wr => ∃ (m : Nat) (A1 : Option Addr) (c1 : Nat) (l1 : SpL), v = .slice A1 m c1 ∧ Hid (Spn w0 A1 m c1 l1) ∧ Hid (aheadL l1 d = aheadL l d) ∧ Below w.heap.size w wr) (fun v _ => slN v)
  case atStart => exact ⟨n, A, c, l, rfl, HR, Lib.hid rfl, Below.refl _ _⟩
  case round =>
    obtain ⟨m, A1, c1, l1, rfl, H1, HA, hb⟩ := hrel
    have HB := Lib.hid hb
    clear hb
    rcases Nat.eq_zero_or_pos m with h0 | h0
    · subst h0
      have HE := Lib.hid (show l1 = aheadL l d by rw [← HA.out, List.length_eq_zero_iff.1 (H1.out.count)]; rfl)
      go_wp2_with fail
      go_ret
      exact ⟨A1, 0, c1, rfl, by rw [← HE.out]; exact H1.out, HB.out⟩
    · obtain ⟨g, off, s, rfl, hs, hg, c0, k1⟩ := Spn.get H1.out h0
      obtain ⟨x, y⟩ := s
      have HX := Lib.hid (aheadL_one (d := d) hs)
      have k1' : wr.cell? ⟨g, off + 1, none⟩ = some (.int .i64 y) := by
        rw [(BW.out.trans (HB.out.mono BW.out.size)).cell (p := ⟨g, off + 1, none⟩) hg]; simpa using k1
      obtain ⟨j, rfl⟩ : ∃ j, m = j + 1 := ⟨m - 1, by omega⟩
      have hc := H1.out.cap
      have hj : (0 : Int) < ((j + 1 : Nat) : Int) := by omega
      have HD := Lib.hid (H1.out.drop (k := 1) (by omega))
      clear hs c0 k1
      by_cases hy : y ≤ d
      · go_wp2_with fail
        refine ⟨⟨j, _, _, l1.drop 1, rfl, Lib.hid ?_, Lib.hid ((HX.out.1 hy).trans HA.out), HB.out⟩, by simp [slN]⟩
        have q := Spn.drop1 H1.out
        split
        · exact ⟨q.len, q.cap, fun h => absurd hc (by omega)⟩
        · exact q
      · have HE := Lib.hid (HX.out.2 hy)
        go_wp2_with fail
        go_ret
        exact ⟨_, _, c1, rfl, by rw [← HA.out, HE.out]; exact H1.out, HB.out⟩
end Go.Proofs.Ytmolbckndkhhlaa
