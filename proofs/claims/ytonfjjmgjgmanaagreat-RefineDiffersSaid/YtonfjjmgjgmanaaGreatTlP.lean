/- What the laws of stage 11 ask of package timeline is so. -/
import Derived.Test.YtonfjjmgjgmanaaGreatTpPut
import Derived.Test.YtonfjjmgjgmanaaGreatTpAt
import Derived.Test.YtonfjjmgjgmanaaGreatTpCopy
import Derived.Test.YtonfjjmgjgmanaaGreatTpSame
import Derived.Test.YtonfjjmgjgmanaaGreatAvP
import Derived.Test.YtonfjjmgjgmanaaGreatItOff
import Derived.Test.YtonfjjmgjgmanaaGreatItNext
namespace Corr
open Go Go.RowKit
set_option linter.unusedVariables false
theorem RepTp.keep {Rep : RepT} (R : RepOk Rep) {w w' : World} {p : Value} {F : Nat → Prop} {N : Nat} {f : Int → Int} (h : RepTp Rep w p F N f) (hb : Below w.heap.size w w') : RepTp Rep w' p F N f := ⟨h.1.keep R hb, h.2⟩
theorem tp_ok {Rep : RepT} (R : RepOk Rep) : TlOk (RepTp Rep) where
  lt := fun h => (tpT R _ _ _).lt h.1
  keep := fun h ho hn => ⟨(tpT R _ _ _).keep h.1 ho hn, h.2⟩
end Corr
namespace Go.Proofs.YtonfjjmgjgmanaaGreat
open Go.RowKit Corr
set_option linter.unusedVariables false
theorem trK : TrK RepP where
  toRepOk := repA_ok _
  make := fun M w h1 h2 => new_any M w h1 h2
  insert := insert_k
  delete := delete_k
  len := by
    rintro w p F M l ⟨gT, g, n, c, A, K, t, rfl, T, rfl⟩ hl
    refine (len_any gT g n c M A K t l w T).mono fun e w' h => ⟨?_, by rw [h.2]; exact Below.refl _ _⟩
    rw [h.1, T.num]
  last := by
    rintro w p F M l day ⟨gT, g, n, c, A, K, t, rfl, T, rfl⟩ hl
    have := ilast_any _ day t w (TH.of T hl)
    rwa [T.it] at this
  all := by
    rintro w p F M l a b ⟨gT, g, n, c, A, K, t, rfl, T, rfl⟩ hl ho
    refine (iall_any (some ⟨gT, 0, none⟩) a b w).mono ?_
    rintro e w' ⟨rfl, hb, q0, q1, q2, q3⟩
    refine ⟨_, _, rfl, hb, rise_enters, fun Z z1 z2 z3 => ?_⟩
    have s3 := q3.sz
    have key := all_off (some ⟨gT, 0, none⟩) a b t w.heap.size Z w' (by rw [T.it]; exact ho) (fun k h1 h2 => z3 k h1 (by omega)) z1 q0 q1 q2 q3
      (fun w2 h2 => TH.of ((T.keep hb).off h2 z2) hl)
    rwa [T.it] at key
abbrev RepTL : RepL := RepTp RepP
theorem tlK0 : TlK0 RepTL where
  toTlOk := tp_ok trK.toRepOk
  make := fun w => tpnew_rep trK w
  put := by
    rintro w p F N f a b v ⟨hQ, ho⟩ hN
    obtain ⟨gT, rfl⟩ := hQ.ptr
    cases hm : mayB a b with
    | true =>
      refine (tpput_yes trK gT F (3 * N) f a b v w hQ ho (by omega) hm).mono fun e w' hq => ?_
      obtain ⟨F', he, h1, h2, h3⟩ := hq
      refine ⟨F', by rw [he]; unfold putR; rw [if_pos hm], ⟨?_, offF_put ho a b v⟩, h2, h3⟩
      have e : putF f a b v = updF f a b v := by unfold putF; rw [if_pos hm]
      rw [e]
      exact h1.more (by omega)
    | false =>
      obtain ⟨gM, hc⟩ := hQ.map_at
      refine (tpput_no gT gM a b v w hc hm).mono fun e w' hq => ?_
      refine ⟨F, by rw [hq.1]; unfold putR; rw [if_neg (by rw [hm]; decide)], ⟨?_, offF_put ho a b v⟩, Off.of hq.2, fun k hk => .inl hk⟩
      have e : putF f a b v = f := by unfold putF; rw [if_neg (by rw [hm]; decide)]
      rw [e]
      exact (hQ.keep trK.toRepOk hq.2).more (by omega)
  at_ := by
    rintro w p F N f d ⟨hQ, ho⟩ hN
    obtain ⟨gT, rfl⟩ := hQ.ptr
    exact tpat_any trK gT F (3 * N) f d w hQ ho (by omega)
  segs := fun w p F N f a b h hN => tpsegs_rep trK h hN a b
end Go.Proofs.YtonfjjmgjgmanaaGreat
