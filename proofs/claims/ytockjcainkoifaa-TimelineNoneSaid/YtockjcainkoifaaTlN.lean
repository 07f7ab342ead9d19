/- What the laws of stage 11 ask of timelines that are not made is so. -/
import Derived.Test.YtockjcainkoifaaTlNone
import Derived.Test.YtockjcainkoifaaTlP
namespace Go.Proofs.Ytockjcainkoifaa
open Go.RowKit Corr
set_option linter.unusedVariables false
theorem tlN : TlN RepTL NilTp where
  lt := fun h => h.lt
  keep := fun h ho hn => h.keep ho hn
  nil := fun w => .inl ⟨rfl, rfl⟩
  zero := fun w => .inr ⟨_, rfl, Blk.new _ _ _, rfl⟩
  put := by
    rintro w p F a b v h
    obtain ⟨q, rfl⟩ := h.ptr
    exact tpput_nil q F a b v w h
  at_ := by
    rintro w p F d h
    obtain ⟨q, rfl⟩ := h.ptr
    exact tpat_nil q F d w h
  segs := by
    rintro w p F a b h
    obtain ⟨q, rfl⟩ := h.ptr
    exact (tpsegs_nil q F a b w h).mono fun e w' hq => ⟨none, 0, hq.1, hq.2⟩
  ends := by
    rintro w p F a b h
    obtain ⟨q, rfl⟩ := h.ptr
    exact (tpends_nil q F a b w h).mono fun e w' hq => ⟨none, 0, hq.1, hq.2⟩
  pieces := by
    rintro w p F h
    obtain ⟨q, rfl⟩ := h.ptr
    exact tppieces_nil q F w h
  copy := by
    rintro w p F h
    obtain ⟨q, rfl⟩ := h.ptr
    exact tpcopy_nil trK q F w h
  same1 := by
    rintro w p q F G N f h1 h2 hN
    obtain ⟨a, rfl⟩ := h2.ptr
    exact tpsame_of _ _ _ _ w (fun w' hb => tpall_any trK (h1.keep trK.toRepOk hb) hN) (fun w' hb => tpall_nil trK (h2.below hb))
  same2 := by
    rintro w p q F G N f h1 h2 hN
    obtain ⟨a, rfl⟩ := h1.ptr
    exact tpsame_of _ _ _ _ w (fun w' hb => tpall_nil trK (h1.below hb)) (fun w' hb => tpall_any trK (h2.keep trK.toRepOk hb) hN)
end Go.Proofs.Ytockjcainkoifaa
