/- Contracts of package timeline: of one that is not there, or was not made. Contracts of package timeline: all, Same; of slices.EqualFunc over segments. -/
import Derived.Test.YtonfjjmgjgmanaaGreatTpSegs
import Derived.Test.YtonfjjmgjgmanaaGreatTpCopy
namespace Corr
open Go Go.RowKit
set_option linter.unusedVariables false
/-- A timeline that is not there, or a zero one. -/
def NilTp (w : World) (p : Value) (F : Nat → Prop) : Prop := (p = .pointer none ∧ F = fun _ => False) ∨ ∃ g, p = .pointer (some ⟨g, 0, none⟩) ∧ Blk w g #[.pointer none, .pointer none, .pointer none, .pointer none, .map none] ∧ F = fun k => k = g
theorem NilTp.keep {w w' : World} {p : Value} {F G : Nat → Prop} (h : NilTp w p F) (ho : Off G w w') (hn : ∀ k, F k → ¬ G k) : NilTp w' p F := by
  rcases h with h | ⟨g, h1, h2, h3⟩
  · exact .inl h
  · exact .inr ⟨g, h1, ho.blk h2 (hn g (by rw [h3])), h3⟩
theorem NilTp.below {w w' : World} {p : Value} {F : Nat → Prop} (h : NilTp w p F) (hb : Below w.heap.size w w') : NilTp w' p F := h.keep (Off.of (F := fun _ => False) hb) (fun _ _ e => e)
theorem NilTp.lt {w : World} {p : Value} {F : Nat → Prop} (h : NilTp w p F) : ∀ k, F k → k < w.heap.size := by
  rcases h with ⟨_, rfl⟩ | ⟨g, h1, h2, rfl⟩
  · exact fun _ e => e.elim
  · rintro k rfl; exact h2.sz
theorem NilTp.ptr {w : World} {p : Value} {F : Nat → Prop} (h : NilTp w p F) : ∃ q, p = .pointer q := by
  rcases h with ⟨h, _⟩ | ⟨g, h, _⟩
  · exact ⟨_, h⟩
  · exact ⟨_, h⟩
end Corr
namespace Go.Proofs.YtonfjjmgjgmanaaGreat
open Go.RowKit Corr
set_option linter.unusedVariables false
set_option linter.unusedSimpArgs false
/-- A new one, by its days. -/
theorem tpnew_rep {Rep : RepT} (K : TrK Rep) (w : World) : Calls Tryz.prog 18 #[] w fun e w' => ∃ (q : Addr) (F : Nat → Prop), e = .returned (.pointer (some q)) ∧ RepTp Rep w' (.pointer (some q)) F 0 (fun _ => 0) ∧ Below w.heap.size w w' ∧ ∀ k, F k → w.heap.size ≤ k := by
  refine (tpnew_any K w).mono fun e w' hq => ?_
  obtain ⟨gT, gM, c, Fs, he, h1, h2, h3⟩ := hq
  exact ⟨_, _, he, ⟨⟨gT, gM, c, Fs, _, _, rfl, h1, rfl, tr_none, mp_none, fun i hi => by simp⟩, fun d _ => rfl⟩, h2, h3⟩
end Go.Proofs.YtonfjjmgjgmanaaGreat
namespace Corr
open Go Go.RowKit
set_option linter.unusedVariables false
end Corr
namespace Go.Proofs.YtonfjjmgjgmanaaGreat
open Go.RowKit Corr
set_option linter.unusedVariables false
set_option linter.unusedSimpArgs false
theorem tpsegs_rep {Rep : RepT} (K : TrK Rep) {w : World} {p : Value} {F : Nat → Prop} {N : Nat} {f : Int → Int} (H : RepTp Rep w p F N f) (hN : N ≤ 300) (a b : Int) : Calls Tryz.prog 12 #[p, .agg #[.int .i64 a, .int .i64 b]] w (RetSegF 45 w f a b) := by
  obtain ⟨hQ, ho⟩ := H
  obtain ⟨gT, rfl⟩ := hQ.ptr
  cases hm : mayB a b with
  | true => exact tpsegs_yes K gT F (3 * N) f a b w hQ ho (by omega) hm
  | false =>
    obtain ⟨gM, hc⟩ := hQ.map_at
    refine (tpsegs_no K gT gM a b w hc hm).mono fun e w' hq => ?_
    exact ⟨[], none, 0, 0, hq.1, by unfold segF; rw [if_neg (by rw [hm]; decide)], World.ownsRow_nil _ _ _ _, hq.2⟩
end Go.Proofs.YtonfjjmgjgmanaaGreat
