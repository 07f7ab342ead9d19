/- What the laws of stage 9 ask of packages avl and itree is so. -/
import Derived.Test.YtolmkagedlcjiaaItEnds
import Derived.Test.YtolmkagedlcjiaaItSeq
import Derived.Test.YtolmkagedlcjiaaItK
import Derived.Test.YtolmkagedlcjiaaRowRel
import Derived.Test.YtolmkagedlcjiaaItAll
import Derived.Test.YtolmkagedlcjiaaItNone
import Derived.Test.YtolmkagedlcjiaaAvP
namespace Go.Proofs.Ytolmkagedlcjiaa
open Go.RowKit Corr
set_option linter.unusedVariables false
theorem avK0 : AvlK0 RepP where
  toRepOk := repA_ok _
  make := fun M w h1 h2 => new_any M w h1 h2
  insert := insert_k
theorem itK : ItK RepP where
  toAvlK0 := avK0
  first := by
    rintro w p F M l day ⟨gT, g, n, c, A, K, t, rfl, T, rfl⟩ hl
    have := ifirst_any _ day t w (TH.of T hl)
    rwa [T.it] at this
  last := by
    rintro w p F M l day ⟨gT, g, n, c, A, K, t, rfl, T, rfl⟩ hl
    have := ilast_any _ day t w (TH.of T hl)
    rwa [T.it] at this
  stab := by
    rintro w p F M l day ⟨gT, g, n, c, A, K, t, rfl, T, rfl⟩ hl ho
    have := istab_any _ day t w (TH.of T hl) (by rw [T.it]; exact ho) (by rw [T.it]; omega)
    rwa [T.it] at this
  over := by
    rintro w p F M l a b ⟨gT, g, n, c, A, K, t, rfl, T, rfl⟩ hl ho
    have := iover_any _ a b t w (TH.of T hl) (by rw [T.it]; exact ho) (by rw [T.it]; omega)
    rwa [T.it] at this
theorem itA : ItA RepP where
  toItK := itK
  all := by
    rintro w p F M l a b ⟨gT, _, _, _, _, _, _, rfl, _, _⟩ hl
    refine (iall_any (some ⟨gT, 0, none⟩) a b w).mono ?_
    rintro e w' ⟨rfl, hb, q0, q1, q2, q3⟩
    refine ⟨_, _, rfl, hb, rise_enters, ?_⟩
    rintro w1 F1 M1 l1 n₀ ⟨gT', g, n, c, A, K, t, hp, T, rfl⟩ hl1 hok hsame hF hn1 hn2
    have e : gT = gT' := by
      injection hp with hp
      injection hp with hp
      injection hp
    subst e
    have s0 := q3.sz
    have key := all_stops (some ⟨gT, 0, none⟩) a b t w.heap.size n₀ w1 (by rw [T.it]; exact hok) (by omega) hn2
      (blk_of_eq q0 (hsame _ (by omega) q0.sz)) (blk_of_eq q1 (hsame _ (by omega) q1.sz)) (blk_of_eq q2 (hsame _ (by omega) q2.sz)) (blk_of_eq q3 (hsame _ (by omega) q3.sz))
      (fun w2 h2 => TH.of (T.off (G := fun k => n₀ ≤ k) ⟨h2.os, h2.tape, h2.output, h2.size, fun k hk hn => h2.block k (by omega)⟩ fun k hk hn => by have := hF k hk; omega) hl1)
    rwa [T.it] at key
theorem nil_ptr {w : World} {p : Value} (h : NilA w p) : ∃ q, p = .pointer q := by
  rcases h with h | ⟨g, h, _⟩
  · exact ⟨_, h⟩
  · exact ⟨_, h⟩
theorem itN : ItN NilA where
  keep := fun h hb => h.keep hb
  nil := fun w => .inl rfl
  zero := fun w => .inr ⟨_, rfl, Blk.new _ _ _⟩
  first := fun w p day h => ifirst_any p day .nil w (TH.nil h)
  last := fun w p day h => ilast_any p day .nil w (TH.nil h)
  stab := fun w p day h => by
    obtain ⟨q, rfl⟩ := nil_ptr h
    exact istab_any q day .nil w (TH.nil h) (fun _ h => absurd h List.not_mem_nil) (Nat.zero_le _)
  over := fun w p a b h => by
    obtain ⟨q, rfl⟩ := nil_ptr h
    exact iover_any q a b .nil w (TH.nil h) (fun _ h => absurd h List.not_mem_nil) (Nat.zero_le _)
end Go.Proofs.Ytolmkagedlcjiaa
