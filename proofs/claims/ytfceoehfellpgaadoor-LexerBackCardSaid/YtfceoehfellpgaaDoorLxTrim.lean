/- Blanks alone are trimmed to nothing. -/
import Derived.Test.YtfceoehfellpgaaDoorShelfLx
import Derived.Test.YtfceoehfellpgaaDoorLxBack
import Derived.Lib.TrimByte
namespace Corr
set_option maxRecDepth 8000
open Go Go.RowKit Go.PlainAid
theorem left_all {l : List UInt8} {c : UInt8} (h : ∀ b ∈ l, b = c) : Lib.trimLeftB l c = [] := by
  rw [Lib.trimLeftB_drop l c l.length (Nat.le_refl _) (fun j b _ hj => h b (List.mem_of_getElem? hj)) (fun b hb => by simp at hb), List.drop_length]
theorem trim_all {l : List UInt8} {c : UInt8} (h : ∀ b ∈ l, b = c) : Lib.trimB l c = [] := by
  have e := left_all (l := l.reverse) (c := c) (fun b hb => h b (List.mem_reverse.1 hb))
  unfold Lib.trimLeftB at e
  unfold Lib.trimB Lib.trimRightB
  rw [e]; rfl
theorem all_blank {s : ByteArray} (h : ∀ k, k < s.size → bt s k = 32) : ∀ b ∈ s.data.toList, b = 32 := by
  intro b hb
  obtain ⟨k, hk⟩ := List.getElem?_of_mem hb
  have hk2 : k < s.size := by have := (List.getElem?_eq_some_iff.1 hk).1; rwa [size_len] at this
  have := bt_of hk
  rw [h k hk2] at this
  exact UInt8.toNat_inj.1 (by show b.toNat = 32; omega)
/-- Either all words, or none and an error. -/
theorem lexR_form {s : ByteArray} : ∀ {n a : Nat} {out : List Tk}, (∃ t, lexR s n a out = (t, 0, 0)) ∨ ∃ p e : Int, e ≠ 0 ∧ lexR s n a out = ([], p, e)
  | 0, a, out => .inl ⟨out, rfl⟩
  | n + 1, a, out => by
    by_cases h1 : s.size ≤ a
    · exact .inl ⟨out, lexR_end h1⟩
    by_cases hbl : bt s a = 32
    · rw [lexR_blank (by omega) hbl]; exact lexR_form
    rw [lexR_word (by omega) hbl]
    unfold lexW
    split
    · exact .inr ⟨_, 4, by decide, rfl⟩
    · split
      · exact lexR_form
      · split
        · split
          · exact .inr ⟨_, 11, by decide, rfl⟩
          · split
            · exact .inr ⟨_, 4, by decide, rfl⟩
            · exact lexR_form
        · exact lexR_form
theorem lexL_form (s : ByteArray) : (∃ t, lexL s = (t, 0, 0)) ∨ ∃ p e : Int, e ≠ 0 ∧ lexL s = ([], p, e) := by
  unfold lexL
  split
  · exact .inr ⟨0, 3, by decide, rfl⟩
  · exact lexR_form
end Corr
namespace Go.Proofs.YtfceoehfellpgaaDoor
set_option maxRecDepth 8000
open Go.RowKit Go.PlainAid Corr
theorem trim_blank (s : ByteArray) (w : World) (hs : s.size ≤ 4000000) (h : ∀ k, k < s.size → bt s k = 32) : Calls Tryd.prog 6 #[.string s, .string ⟨#[32]⟩] w fun e w' => e = .returned (.string ⟨#[]⟩) ∧ Below w.heap.size w w' := by
  refine (Tryd.strings_Trim_one s 32 (by decide) w (by omega)).mono ?_
  rintro e w' ⟨rfl, hw⟩
  rw [trim_all (all_blank h)]
  refine ⟨rfl, ?_⟩
  rcases hw with rfl | rfl
  · exact Below.refl _ _
  · exact (Below.refl _ _).drew
theorem join_none (sep : ByteArray) (w : World) : Calls Tryd.prog 7 #[.slice none 0 0, .string sep] w fun e w' => e = .returned (.string ⟨#[]⟩) ∧ Below w.heap.size w w' := by
  go_enter Tryd.func7, Tryd.ntmps7
  go_wp2_with fail
  go_ret
  exact ⟨rfl, Below.refl _ _⟩
end Go.Proofs.YtfceoehfellpgaaDoor
