/- Package lexer: which runes are of a kind; how far a run goes. -/
import Derived.Test.YtfceoehfellpgaaDoorLxMath
import Derived.Test.YtfceoehfellpgaaDoorRowRel
import Derived.Lib.OthersKept
import Derived.WalkSmall
namespace Corr
set_option maxRecDepth 8000
set_option linter.unusedVariables false
open Go Go.RowKit Go.PlainAid
def blankB (x : Int) : Bool := x == 32
/-- The rune at a place: the byte there, where either is below 128. -/
theorem decL_at {s : ByteArray} {p : Nat} (hp : p < s.size) : ∃ r k : Nat, Utf8.decode s p = (r, k) ∧ (r < 128 ∨ bt s p < 128 → (r : Int) = bt s p ∧ k = 1) := by
  have hb := get_bt s p hp
  by_cases ha : (s[p]'hp).toNat < 128
  · exact ⟨_, _, decode_ascii s p hp ha, fun _ => ⟨hb, rfl⟩⟩
  · refine ⟨(Utf8.decode s p).1, (Utf8.decode s p).2, rfl, fun h => ?_⟩
    have := decode_high s p hp (by omega)
    rcases h with h | h <;> omega
/-- The text's iterator, a block of the call's own. -/
structure ItW (w wr : World) (s : ByteArray) (p : Nat) : Prop where
  i : wr.heap[w.heap.size]? = some (.stringIter s p)
  l : Below w.heap.size w wr
theorem ItW.start (w : World) (s : ByteArray) : ItW w (w.iter s 0) s 0 := ⟨World.iter_heap w s 0, (Below.refl _ _).alloc (Nat.le_refl _) _⟩
section
variable {w wr w' : World} {s : ByteArray} {p : Nat}
theorem ItW.next (R : ItW w wr s p) (p' : Nat) : ItW w (wr.iterAt w.heap.size s p') s p' := ⟨Lib.iterAt_heap wr _ s p p' R.i, Lib.below_iterAt R.l (Nat.le_refl _) s p'⟩
theorem ItW.keep (R : ItW w wr s p) (h : Below wr.heap.size wr w') : ItW w w' s p :=
  ⟨(h.block _ (Array.getElem?_eq_some_iff.1 R.i).1).trans R.i, R.l.trans (h.mono R.l.size)⟩
end
end Corr
namespace Go.Proofs.YtfceoehfellpgaaDoor
set_option maxRecDepth 8000
open Go.RowKit Go.PlainAid Corr
set_option linter.unusedVariables false
set_option linter.unusedSimpArgs false
theorem lwblank_any (r : Int) (w : World) : Calls Tryd.prog 11 #[.int .i32 r] w fun e w' => e = .returned (.bool (blankB r)) ∧ w' = w := by
  have HB := Lib.hid (show blankB r = (r == 32) from rfl)
  go_enter Tryd.func11, Tryd.ntmps11
  go_wp2_with fail
  go_ret
  exact ⟨by rw [HB.out]; rfl, rfl⟩
theorem lwletter_any (r : Int) (w : World) : Calls Tryd.prog 35 #[.int .i32 r] w fun e w' => e = .returned (.bool (smallB r)) ∧ w' = w := by
  by_cases h1 : 97 ≤ r
  · have HB := Lib.hid (show smallB r = decide (r ≤ 122) by unfold smallB; rw [decide_eq_true h1]; rfl)
    have d1 : decide (r ≥ 97) = true := decide_eq_true h1
    clear h1
    go_enter Tryd.func35, Tryd.ntmps35
    go_wp2_with fail
    go_ret
    exact ⟨by rw [HB.out]; rfl, rfl⟩
  · have HB := Lib.hid (show smallB r = false by unfold smallB; rw [decide_eq_false h1]; rfl)
    have d1 : decide (r ≥ 97) = false := decide_eq_false h1
    clear h1
    go_enter Tryd.func35, Tryd.ntmps35
    go_wp2_with fail
    go_ret
    exact ⟨by rw [HB.out]; rfl, rfl⟩
theorem lwdigit_any (r : Int) (w : World) : Calls Tryd.prog 37 #[.int .i32 r] w fun e w' => e = .returned (.bool (digB r)) ∧ w' = w := by
  by_cases h1 : 48 ≤ r
  · have HB := Lib.hid (show digB r = decide (r ≤ 57) by unfold digB; rw [decide_eq_true h1]; rfl)
    have d1 : decide (r ≥ 48) = true := decide_eq_true h1
    clear h1
    go_enter Tryd.func37, Tryd.ntmps37
    go_wp2_with fail
    go_ret
    exact ⟨by rw [HB.out]; rfl, rfl⟩
  · have HB := Lib.hid (show digB r = false by unfold digB; rw [decide_eq_false h1]; rfl)
    have d1 : decide (r ≥ 48) = false := decide_eq_false h1
    clear h1
    go_enter Tryd.func37, Tryd.ntmps37
    go_wp2_with fail
    go_ret
    exact ⟨by rw [HB.out]; rfl, rfl⟩
theorem lwword_any (r : Int) (w : World) : Calls Tryd.prog 36 #[.int .i32 r] w fun e w' => e = .returned (.bool (wordB r)) ∧ w' = w := by
  have h1 := fun w => lwletter_any r w
  have h2 := fun w => lwdigit_any r w
  have HB := Lib.hid (show wordB r = (smallB r || digB r) from rfl)
  generalize smallB r = x at *
  generalize digB r = y at *
  cases x with
  | true =>
    go_enter Tryd.func36, Tryd.ntmps36
    go_wp2_with fail
    refine (h1 _).mono ?_
    rintro e w' ⟨rfl, hw⟩
    obtain rfl := hw.symm
    go_wp2_with fail
    go_ret
    exact ⟨by rw [HB.out]; rfl, rfl⟩
  | false =>
    go_enter Tryd.func36, Tryd.ntmps36
    go_wp2_with fail
    refine (h1 _).mono ?_
    rintro e w' ⟨rfl, hw⟩
    obtain rfl := hw.symm
    go_wp2_with fail
    refine (h2 _).mono ?_
    rintro e w' ⟨rfl, hw⟩
    obtain rfl := hw.symm
    go_wp2_with fail
    go_ret
    exact ⟨by rw [HB.out]; rfl, rfl⟩
set_option maxHeartbeats 1000000 in
theorem lwrun_any (p : Int → Bool) (hp : ∀ x, 128 ≤ x → p x = false) (fid : Nat) (eg : ∀ args w, (callFunc fid args).run Tryd.prog w = .ok (.enter fid args) w)
    (hf : ∀ (r : Int) (W : World), 0 ≤ r → r ≤ 2147483647 → Calls Tryd.prog fid #[.int .i32 r] W fun e w' => e = .returned (.bool (p r)) ∧ Below W.heap.size W w') (s : ByteArray) (w : World) :
    Calls Tryd.prog 10 #[.string s, .func (.func fid) #[] #[]] w fun e w' => e = .returned (.int .i64 (runTo p s 0 : Nat)) ∧ Below w.heap.size w w' := by
  have HS := Lib.hid (ItW.start w s)
  have HF := Lib.hid hf
  have HP := Lib.hid hp
  clear hf hp
  go_enter Tryd.func10, Tryd.ntmps10
  go_wp2_with fail
  go_loopw [] (fun wr => ∃ k : Nat, Hid (ItW w wr s k) ∧ Hid (k ≤ s.size ∧ ∀ j, j < k → p (bt s j) = true)) (fun wr => s.size - wr.iterPos w.heap.size)
  case atStart => exact ⟨0, HS, Lib.hid ⟨Nat.zero_le _, fun j hj => absurd hj (Nat.not_lt_zero _)⟩⟩
  case round =>
    obtain ⟨k, R, HK⟩ := hrel
    have hpos := iterPos_of R.out.i
    by_cases hlt : k < s.size
    · obtain ⟨r, k2, hd, hrk⟩ := decL_at hlt
      have hnx : ∀ ty, (Instr.next (.pointer (some ⟨w.heap.size, 0, none⟩)) true ty).run Tryd.prog wr = _ := fun ty => Lib.run_next_any_at wr w.heap.size s k ty R.out.i hlt
      rw [hd] at hnx
      obtain ⟨z, hz⟩ : ∃ z : Int, (r : Int) = z := ⟨_, rfl⟩
      have hz0 : 0 ≤ z := by omega
      have HZR := Lib.hid (show z < 128 ∨ bt s k < 128 → z = bt s k ∧ k2 = 1 from fun h => by rw [← hz]; exact hrk (by omega))
      have hz9 : z ≤ 2147483647 := by
        have := decode_le s k
        rw [hd] at this
        have : r ≤ 2147483647 := this
        omega
      have HC := Lib.hid (fun W => HF.out z W hz0 hz9)
      simp only [hz] at hnx
      clear hrk hz hd hz0 hz9
      obtain ⟨w2, hw2⟩ : ∃ w2, wr.iterAt w.heap.size s (k + k2) = w2 := ⟨_, rfl⟩
      have R2 := Lib.hid (R.out.next (k + k2))
      rw [hw2] at hnx R2
      clear hw2
      go_wp2_with fail
      refine (HC.out _).mono ?_
      rintro e w3 ⟨rfl, hb3⟩
      have R3 := Lib.hid (R2.out.keep hb3)
      clear hb3
      cases hpz : p z with
      | true =>
        have hb : z = bt s k ∧ k2 = 1 := HZR.out (by
          rcases Int.lt_or_le z 128 with h | h
          · exact .inl h
          · rw [HP.out z h] at hpz; cases hpz)
        obtain ⟨hb1, rfl⟩ := hb
        have HK2 := Lib.hid (show k + 1 ≤ s.size ∧ ∀ j, j < k + 1 → p (bt s j) = true from ⟨by omega, fun j hj => by
          by_cases e : j = k
          · subst e; rw [← hb1]; exact hpz
          · exact HK.out.2 j (by omega)⟩)
        clear hb1 hpz
        go_wp2_with fail
        go_roundw
        case rel => exact ⟨k + 1, R3, HK2⟩
        case measure => rw [iterPos_of R3.out.i]; omega
      | false =>
        have HE := Lib.hid (show runTo p s 0 = k from runTo_eq ⟨Nat.zero_le _, HK.out.1, fun j _ hj => HK.out.2 j hj, fun h => by
          cases e : p (bt s k) with
          | false => rfl
          | true =>
            rcases Int.lt_or_le (bt s k) 128 with h2 | h2
            · rw [(HZR.out (.inr h2)).1, e] at hpz; cases hpz
            · rw [HP.out _ h2] at e; cases e⟩)
        clear hpz
        go_wp2_with fail
        go_ret
        exact ⟨by rw [HE.out]; rfl, R3.out.l⟩
    · have hnx : ∀ ty, (Instr.next (.pointer (some ⟨w.heap.size, 0, none⟩)) true ty).run Tryd.prog wr = _ := fun ty => Lib.run_next_end_at wr w.heap.size s k ty R.out.i hlt
      have HE := Lib.hid (show runTo p s 0 = s.size from runTo_eq ⟨Nat.zero_le _, Nat.le_refl _, fun j _ hj => HK.out.2 j (by omega), fun h => absurd h (Nat.lt_irrefl _)⟩)
      go_wp2_with fail
      go_ret
      exact ⟨by rw [HE.out]; rfl, R.out.l⟩
end Go.Proofs.YtfceoehfellpgaaDoor
