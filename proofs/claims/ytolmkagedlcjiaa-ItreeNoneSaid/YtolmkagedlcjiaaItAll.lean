/- The law ItreeAll. -/
import Derived.Test.YtolmkagedlcjiaaItK
import Derived.Test.YtolmkagedlcjiaaItList
import Derived.Test.YtolmkagedlcjiaaRowRel
import Derived.Test.YtolmkagedlcjiaaAv5
import Derived.Lib.AtoiErrMem
namespace Corr
open Go Go.RowKit
set_option linter.unusedVariables false
/-- The tree that is gone over: it, what All captured, and the marks of the loops so far, each in blocks of its own. -/
def StA (Rep : RepT) (w3 w4 : World) (lo : Nat) (p : Value) (l : ItL) (Ds : List Nat) (w : World) : Prop := ∃ F, Rep w p F 1000 l ∧ (∀ k, F k → w3.heap.size ≤ k) ∧ Below w3.heap.size w3 w ∧
  (∀ k, lo ≤ k → k < w4.heap.size → w.heap[k]? = w4.heap[k]? ∧ ¬ F k) ∧ w4.heap.size ≤ w.heap.size ∧ Marks w3.heap.size Ds w ∧ ∀ D ∈ Ds, ¬ F D
section
variable {Rep : RepT} {w3 w4 w w' : World} {lo : Nat} {p : Value} {l : ItL} {Ds : List Nat}
theorem StA.bl (h : StA Rep w3 w4 lo p l Ds w) : Below w3.heap.size w3 w := by obtain ⟨_, _, _, h, _⟩ := h; exact h
theorem StA.marks (h : StA Rep w3 w4 lo p l Ds w) : Marks w3.heap.size Ds w := by obtain ⟨_, _, _, _, _, _, h, _⟩ := h; exact h
theorem StA.keep (R : RepOk Rep) (h : StA Rep w3 w4 lo p l Ds w) (hb : Below w.heap.size w w') : StA Rep w3 w4 lo p l Ds w' := by
  obtain ⟨F, h1, h2, h3, h4, h5, h6, h7⟩ := h
  exact ⟨F, R.keep h1 (Off.of (F := fun _ => False) hb) (fun _ _ e => e), h2, h3.trans (hb.mono h3.size), fun k hk hk' => ⟨(hb.block k (Nat.lt_of_lt_of_le hk' h5)).trans (h4 k hk hk').1, (h4 k hk hk').2⟩, Nat.le_trans h5 hb.size, h6.later hb, h7⟩
/-- Behind a loop that changed nothing that was there, and left a mark. -/
theorem StA.loop (R : RepOk Rep) (h : StA Rep w3 w4 lo p l Ds w) (hb : Below w.heap.size w w') {D : Nat} (hD : w.heap.size ≤ D) (hd : w'.heap[D]? = some (.deferred (some []))) : StA Rep w3 w4 lo p l (D :: Ds) w' := by
  have hm := h.marks
  have hk := h.keep R hb
  obtain ⟨F, h1, h2, h3, h4, h5, h6, h7⟩ := h
  have hF : ∀ k, F k → k < w.heap.size := R.lt h1
  refine ⟨F, R.keep h1 (Off.of (F := fun _ => False) hb) (fun _ _ e => e), h2, h3.trans (hb.mono h3.size), fun k hk hk' => ⟨(hb.block k (Nat.lt_of_lt_of_le hk' h5)).trans (h4 k hk hk').1, (h4 k hk hk').2⟩, Nat.le_trans h5 hb.size,
    (h6.later hb).cons (Nat.le_trans h3.size hD) hd fun e => ?_, fun E hE => ?_⟩
  · have := hm.lt e; omega
  · rcases List.mem_cons.1 hE with rfl | hE
    · intro e; have := hF _ e; omega
    · exact h7 E hE
/-- The tree changes. -/
theorem StA.turn {F F' : Nat → Prop} {l' : ItL} (h2 : ∀ k, F k → w3.heap.size ≤ k) (h3 : Below w3.heap.size w3 w) (h4 : ∀ k, lo ≤ k → k < w4.heap.size → w.heap[k]? = w4.heap[k]? ∧ ¬ F k) (h5 : w4.heap.size ≤ w.heap.size) (h6 : Marks w3.heap.size Ds w) (h7 : ∀ D ∈ Ds, ¬ F D)
    (hr : Rep w' p F' 1000 l') (ho : Off F w w') (hF : ∀ k, F' k → F k ∨ w.heap.size ≤ k) : StA Rep w3 w4 lo p l' Ds w' := by
  have new : ∀ k, k < w.heap.size → ¬ F k → ¬ F' k := fun k hk hn e => by
    rcases hF k e with h | h
    · exact hn h
    · omega
  refine ⟨F', hr, fun k hk => ?_, h3.trans (ho.below h3.size h2), fun k hk hk' => ⟨(ho.block k (Nat.lt_of_lt_of_le hk' h5) (h4 k hk hk').2).trans (h4 k hk hk').1, new k (Nat.lt_of_lt_of_le hk' h5) (h4 k hk hk').2⟩, Nat.le_trans h5 ho.size, h6.keep fun D hD => ho.block D (h6.lt hD) (h7 D hD), fun D hD => new D (h6.lt hD) (h7 D hD)⟩
  rcases hF k hk with h | h
  · exact h2 k h
  · exact Nat.le_trans h3.size h
end
end Corr
namespace Go.Proofs.Ytolmkagedlcjiaa
open Go.RowKit Corr
set_option linter.unusedVariables false
set_option linter.unusedSimpArgs false
attribute [local go_sem] Oper.semAt_some
/-- What package itree does, All too: what it tells goes, in whatever later world, over what meets the span there. -/
structure ItA (Rep : RepT) : Prop extends ItK Rep where
  all : ∀ (w : World) (p : Value) (F : Nat → Prop) (M : Int) (l : ItL) (a b : Int), Rep w p F M l → l.length ≤ 1000 → Calls Try.prog 18 #[p, .agg #[.int .i64 a, .int .i64 b]] w fun e w' => ∃ (gf : Nat) (lb : Array Value),
    e = .returned (.func (.func gf) #[] lb) ∧ Below w.heap.size w w' ∧ (∀ args w, (callFunc gf args).run Try.prog w = .ok (.enter gf args) w) ∧
    ∀ (w1 : World) (F1 : Nat → Prop) (M1 : Int) (l1 : ItL) (n₀ : Nat), Rep w1 p F1 M1 l1 → l1.length ≤ 1000 → okL l1 → (∀ k, w.heap.size ≤ k → k < w'.heap.size → w1.heap[k]? = w'.heap[k]?) → (∀ k, F1 k → k < n₀) → w'.heap.size ≤ n₀ → n₀ ≤ w1.heap.size →
      SeqOwn Try.prog gf lb (fun x : It => #[itV x]) n₀ (fun ys => ys = l1.filter (overB a b)) (fun pre => pre <+: l1.filter (overB a b)) (l1.filter (overB a b)).length w1
end Go.Proofs.Ytolmkagedlcjiaa
