/- What the laws of package spans ask of it, said of plain lists; the laws' own helpers own, great. -/
import Derived.Test.YtmolbckndkhhlaaSpLaw
import Derived.Test.YtmolbckndkhhlaaRow3
namespace Corr
set_option maxRecDepth 8000
open Go Go.RowKit
/-- A literal's row. -/
theorem new_spn (w : World) (l : SpL) (T : TypeId) (n c : Nat) (hn : l.length = n) (hc : n ≤ c) : Spn (w.alloc (.cells (cells2 l).toArray T)) (some ⟨w.heap.size, 0, none⟩) n c l :=
  ⟨by rw [cells2_len, hn], hc, fun _ => ⟨w.heap.size, 0, rfl, by simp, fun i v hx => by
    have := new_cells w (cells2 l) T i v hx
    rwa [show (⟨w.heap.size, 0, none⟩ : Addr).add i = ⟨w.heap.size, 0 + i, none⟩ by unfold Addr.add; simp; intro h; omega] at this⟩⟩
/-- An answer that is a row of spans. -/
def RetSp (w : World) (l : SpL) (e : Ending) (w' : World) : Prop := ∃ A n c, e = .returned (.slice A n c) ∧ Spn w' A n c l ∧ Below w.heap.size w w'
theorem RetSp.of {T : TypeId} {w w' : World} {l : SpL} {e : Ending} (h : RetSpn T w l e w') : RetSp w l e w' := by
  obtain ⟨A, n, c, rfl, hown, hb⟩ := h
  exact ⟨A, n, c, rfl, own_lies hown, hb⟩
theorem wide_len (k : Int) (a : SpL) : (wideL k a).length ≤ 4 * a.length := by
  unfold wideL
  have h1 := two_len 0 (widenL (clampK k) (twoL 0 a [])) []
  have h2 := two_len 0 a []
  have h3 : (widenL (clampK k) (twoL 0 a [])).length = (twoL 0 a []).length := by unfold widenL; simp
  simp only [List.length_nil] at h1 h2
  omega
end Corr
namespace Go.Proofs.Ytmolbckndkhhlaa
set_option maxRecDepth 8000
open Go.RowKit Corr
set_option linter.unusedVariables false
set_option linter.unusedSimpArgs false
/-- What package spans does. -/
structure SpK : Prop where
  may : ∀ (A : Option Addr) (n c : Nat) (a : SpL) (w : World), Spn w A n c a → a.length ≤ 1000 → Calls Try.prog 9 #[.slice A n c] w fun e w' => e = .returned (.bool (decide (a = twoL 0 a []))) ∧ Below w.heap.size w w'
  of : ∀ (A : Option Addr) (n c : Nat) (a : SpL) (w : World), Spn w A n c a → a.length ≤ 1000 → Calls Try.prog 12 #[.slice A n c] w (RetSp w (twoL 0 a []))
  union : ∀ (A B : Option Addr) (n c m d : Nat) (a b : SpL) (w : World), Spn w A n c a → Spn w B m d b → a.length ≤ 1000 → b.length ≤ 1000 → Calls Try.prog 14 #[.slice A n c, .slice B m d] w (RetSp w (twoL 0 a b))
  meet : ∀ (A B : Option Addr) (n c m d : Nat) (a b : SpL) (w : World), Spn w A n c a → Spn w B m d b → a.length ≤ 1000 → b.length ≤ 1000 → Calls Try.prog 16 #[.slice A n c, .slice B m d] w (RetSp w (twoL 1 a b))
  less : ∀ (A B : Option Addr) (n c m d : Nat) (a b : SpL) (w : World), Spn w A n c a → Spn w B m d b → a.length ≤ 1000 → b.length ≤ 1000 → Calls Try.prog 17 #[.slice A n c, .slice B m d] w (RetSp w (twoL 2 a b))
  wide : ∀ (A : Option Addr) (n c : Nat) (a : SpL) (k : Int) (w : World), Spn w A n c a → a.length ≤ 1000 → Calls Try.prog 18 #[.slice A n c, .int .i64 k] w (RetSp w (wideL k a))
  has : ∀ (A : Option Addr) (n c : Nat) (a : SpL) (d : Int) (w : World), Spn w A n c a → a.length ≤ 1000 → Calls Try.prog 20 #[.slice A n c, .int .i64 d] w fun e w' => e = .returned (.bool (hasB a d)) ∧ Below w.heap.size w w'
  days : ∀ (A : Option Addr) (n c : Nat) (a : SpL) (w : World), Spn w A n c a → a.length ≤ 1000 → Calls Try.prog 22 #[.slice A n c] w fun e w' => e = .returned (.int .i64 (sumDays (twoL 0 a []))) ∧ Below w.heap.size w w'
  all : ∀ (w : World), Calls Try.prog 24 #[] w (RetSp w allL)
theorem great_two (A B : Option Addr) (n c m d g : Nat) (w : World) (x0 : w.cell? ⟨g, 0, none⟩ = some (.slice A n c)) (x1 : w.cell? ⟨g, 1, none⟩ = some (.slice B m d)) (hn : n ≤ 60) (hm : m ≤ 60) : Calls Try.prog 6 #[.slice (some ⟨g, 0, none⟩) 2 2] w fun e w' => e = .returned (.bool false) ∧ Below w.heap.size w w' := by
  have q1 : decide ((n : Int) > 60) = false := decide_eq_false (by omega)
  have q2 : decide ((m : Int) > 60) = false := decide_eq_false (by omega)
  go_enter Try.func6, Try.ntmps6
  go_wp2_with fail
  refine wp_loop_rounds 3 ?_
  rw [rounds_succ]
  go_wp2_with fail
  rw [rounds_succ]
  go_wp2_with fail
  rw [rounds_succ]
  go_wp2_with fail
  go_ret
  exact ⟨rfl, Below.refl _ _⟩
end Go.Proofs.Ytmolbckndkhhlaa
