/- Package lexer: all that is asked of it; what a row lists of its signs. -/
import Derived.Test.YtfceoehfellpgaaDoorLw7
import Derived.Lib.LaidTab
namespace Corr
set_option linter.unusedVariables false
open Go Go.RowKit Go.PlainAid
theorem cells_of_strs {H : Type} {enc : TypeId × Value → H} {P : Program} {w : World} {base : Nat} {sp : Nat → Bool} {held : Bool} {fuel : Nat} {t e : TypeId} {n : Nat} {cs : List Value} {ls : List (List UInt8)} {p : List MemPlace}
    (ht : P.underlying t = some (.array n e)) (he : P.underlying e = some .string) (hce : P.cellsOf e = 1) (hct : P.cellsOf t = n)
    (h : DataW.trod enc P w base sp held fuel t cs = some (.agg (ls.map fun (l : List UInt8) => (DataW.lit (Lit.string l) : DataW H)), p)) : ∀ (i : Nat) (l : List UInt8), ls[i]? = some l → cs[i]? = some (.string ⟨l.toArray⟩) := by
  cases fuel with
  | zero => simp [DataW.trod] at h
  | succ fuel =>
    simp only [DataW.trod, ht, hce, hct, Nat.mul_one] at h
    split at h
    · rename_i hl
      obtain ⟨xs, hm, hx⟩ := Option.map_eq_some_iff.1 h
      have hxs : xs.map (·.1) = ls.map fun (l : List UInt8) => (DataW.lit (Lit.string l) : DataW H) := by
        have := congrArg Prod.fst hx
        simpa using this
      have hxl : xs.length = n := by simpa using Lib.mapM_length hm
      have hzl : ls.length = n := by
        have := congrArg List.length hxs
        simp at this
        omega
      intro i l hil
      have hi : i < n := by rw [← hzl]; exact (List.getElem?_eq_some_iff.1 hil).1
      obtain ⟨b, hb, hf⟩ := Lib.mapM_at hm i i (by simp [hi])
      obtain ⟨s, hc, rfl, _⟩ := DataW.trod_string he hf
      have h1 : cs[i]? = some (.string s) := by
        have := congrArg (·[0]?) hc
        simpa [List.getElem?_take, List.getElem?_drop] using this
      have h2 : (xs.map (·.1))[i]? = some (DataW.lit (.string s.data.toList) : DataW H) := by simp [hb]
      rw [hxs, List.getElem?_map, hil] at h2
      simp at h2
      rw [h1, h2]
    · cases h
theorem strs_of_head {P : Program} {W : World} {name : String} {ls : List (List UInt8)} {rest : List (String × DataW Unit)} {g : Nat} {t e : TypeId} {n : Nat}
    (hg : P.globalNamed name = some g) (hty : (P.globals[g]?).map (·.type) = some t) (ht : P.underlying t = some (.array n e)) (he : P.underlying e = some .string) (hce : P.cellsOf e = 1) (hct : P.cellsOf t = n)
    (h : laidMet P ((name, .agg (ls.map fun (l : List UInt8) => (DataW.lit (Lit.string l) : DataW Unit))) :: rest) W) : ∀ (i : Nat) (l : List UInt8), ls[i]? = some l → W.cell? ⟨g, i, none⟩ = some (.string ⟨l.toArray⟩) := by
  obtain ⟨ps, ⟨g', t', cs, fuel, p, q, hg', ht', hvar, hd, _, _⟩, _⟩ := h
  obtain rfl := Option.some.inj (hg.symm.trans hg')
  obtain rfl := Option.some.inj (hty.symm.trans ht')
  intro i l hil
  have h1 := cells_of_strs ht he hce hct hd i l hil
  have h2 := World.var?_cell hg hvar i
  rw [h2]
  simpa using h1
end Corr
namespace Go.Proofs.YtfceoehfellpgaaDoor
open Go.RowKit Go.PlainAid Corr
set_option linter.unusedVariables false
theorem lxK : LxK LV where
  keep := fun h hb => h.keep hb
  lex := fun s w hs hg => lwlex_any s w hs hg
  name := fun s w hs _ => lwname0_any s w hs
/-- The package's signs, where a row lists them. -/
theorem good_pairs {W : World} {rest : List (String × DataW Unit)} (h : laidMet Tryd.prog (("corrody/lexer.pairs", .agg [.lit (.string [60, 61]), .lit (.string [62, 61]), .lit (.string [60, 62])]) :: rest) W) : PVars 0 W := by
  have hL := strs_of_head (ls := [[60, 61], [62, 61], [60, 62]]) (g := 0) (by kernel_rfl) (by kernel_rfl) Tryd.underlying62 Tryd.underlying9 (by kernel_rfl) (by kernel_rfl) h
  exact ⟨hL 0 _ rfl, hL 1 _ rfl, hL 2 _ rfl⟩
end Go.Proofs.YtfceoehfellpgaaDoor
