/- What the laws of stage 12 ask of package refine is so. -/
import Derived.Test.YtonfjjmgjgmanaaGreatRfMv
import Derived.Test.YtonfjjmgjgmanaaGreatRfSort
import Derived.Test.YtonfjjmgjgmanaaGreatRfPt
import Derived.Test.YtonfjjmgjgmanaaGreatRfDf
namespace Corr
open Go Go.RowKit
set_option linter.unusedVariables false
theorem RepTp.more {Rep : RepT} {w : World} {p : Value} {F : Nat → Prop} {N M : Nat} {f : Int → Int} (h : RepTp Rep w p F N f) (hN : N ≤ M) : RepTp Rep w p F M f := ⟨h.1.more (by omega), h.2⟩
end Corr
namespace Go.Proofs.YtonfjjmgjgmanaaGreat
open Go.RowKit Corr
set_option linter.unusedVariables false
set_option linter.unusedSimpArgs false
/-- A timeline, and at how many days at most it has another value than on the day ahead. -/
def RepR : RepL := fun w p F N f => RepTL w p F N f ∧ stepsF (2 * N) f
theorem RepR.more {w : World} {p : Value} {F : Nat → Prop} {N M : Nat} {f : Int → Int} (h : RepR w p F N f) (hN : N ≤ M) : RepR w p F M f := ⟨h.1.more hN, h.2.more (by omega)⟩
theorem tlK0R : TlK0 RepR where
  toTlOk := ⟨fun h => tlK0.lt h.1, fun h ho hn => ⟨tlK0.keep h.1 ho hn, h.2⟩⟩
  make := fun w => (tlK0.make w).mono fun e w' h => by
    obtain ⟨q, F, he, hr, hb, hF⟩ := h
    exact ⟨q, F, he, ⟨hr, stepsF_none _⟩, hb, hF⟩
  put := fun w p F N f a b v h hN => (tlK0.put w p F N f a b v h.1 hN).mono fun e w' hq => by
    obtain ⟨F', he, hr, ho, hF⟩ := hq
    exact ⟨F', he, ⟨hr, (stepsF_put h.2 a b v).more (by omega)⟩, ho, hF⟩
  at_ := fun w p F N f d h hN => tlK0.at_ w p F N f d h.1 hN
  segs := fun w p F N f a b h hN => tlK0.segs w p F N f a b h.1 hN
theorem linesR {w : World} {E : Option Addr} {N c : Nat} {ts : List (Value × Nat × (Int → Int))} (R : Lies w 1 E N c (ts.map (·.1))) (HT : ∀ x ∈ ts, ∃ F, RepR w x.1 F x.2.1 x.2.2 ∧ x.2.1 ≤ 300) : LinesP RepR w E N (ts.map (·.2.2)) := by
  have hl : ts.length = N := by have := R.len; simpa using this
  refine ⟨by simpa using hl, fun k hk => ?_⟩
  obtain ⟨g, off, hE, hg, hc⟩ := R.at_ (by omega)
  have hs : ts[k]? = some (ts[k]'(by omega)) := List.getElem?_eq_getElem (by omega)
  obtain ⟨F, h1, h2⟩ := HT _ (List.mem_of_getElem? hs)
  exact ⟨g, off, _, F, _, _, hE, hg, hc k _ (by rw [List.getElem?_map, hs]; rfl), by rw [List.getElem?_map, hs]; rfl, h1, h2⟩
theorem may_all : mayB 1 3652060 = true := by decide
theorem rfK : RfK RepR where
  toTlK0 := tlK0R
  parts := fun w E N c ts a b R HT hN => rfpt_any tlK0R sorti compi E N c _ a b w (linesR R HT) hN
  cut := fun w E N c es a b R hN => rfcut_any sorti compi E N c es a b w R (by omega)
  differ := by
    intro w p q F G N M f g a b h1 h2 hN hM
    obtain ⟨g1, rfl⟩ := h1.1.1.ptr
    obtain ⟨g2, rfl⟩ := h2.1.1.ptr
    exact rfdiffer_any tlK0R sorti compi _ _ F G N M f g a b w h1 h2 hN hM
  moved := by
    intro w p F N f k h hN hk1 hk2
    refine (rfmoved_any tlK0R p f (2 * N + 1) k w (fun w' hb => rfsegs_any tlK0R p F N f 1 3652060 w' (tlK0R.keep h (Off.of (F := fun _ => False) hb) fun _ _ e => e) (by omega) may_all) (fun l hl => segF_steps h.2 hl) (by omega) h.1.2 hk1 hk2).mono fun e w' hq => ?_
    obtain ⟨q, F', m, he, hm, hr, hb, hF⟩ := hq
    exact ⟨q, F', he, hr.more hm, hb, hF⟩
end Go.Proofs.YtonfjjmgjgmanaaGreat
