/- Contracts of package dectext: isDigits, isWhole, isPlaces. The contract of dectext.digits. -/
import Derived.Test.YtfceoehfellpgaaDoorTxBytes
import Derived.Test.YtfceoehfellpgaaDoorRowRel
import Derived.Laws.IdiomStrings
import Derived.Lib.BufferWrite
import Derived.Laws.CopyOwn
namespace Go.Proofs.YtfceoehfellpgaaDoor
set_option maxRecDepth 8000
open Go.RowKit Go.PlainAid Corr
set_option linter.unusedVariables false
theorem retB {a b : Bool} (h : a = b) : Ending.returned (.bool a) = Ending.returned (.bool b) := by rw [h]
theorem isDigits_any (s : ByteArray) (w : World) (hs : s.size ≤ 4000000) :
    Calls Tryd.prog 59 #[.string s] w fun e w' => e = .returned (.bool (allD s.data.toList && !s.data.toList.isEmpty)) ∧ w' = w := by
  have hb := get_bt s
  obtain ⟨A, hA⟩ : ∃ A, (allD s.data.toList && !s.data.toList.isEmpty) = A := ⟨_, rfl⟩
  have HA := Lib.hid hA
  rw [hA]
  clear hA
  go_enter Tryd.func59, Tryd.ntmps59
  go_wp2_with fail
  go_loopw [6] (fun t wr => ∃ (k : Nat), t = .int .i64 (k : Int) ∧ k ≤ s.size ∧ (∀ j, j < k → 48 ≤ bt s j ∧ bt s j ≤ 57) ∧ wr = w) (fun t _ => (s.size - intOf t).toNat)
  case atStart => exact ⟨0, rfl, by omega, fun j h => absurd h (by omega), rfl⟩
  case round =>
    obtain ⟨k, rfl, hk, hd, rfl⟩ := hrel
    have HD := Lib.hid hd
    clear hd
    by_cases h1 : k < s.size
    · by_cases h2 : bt s k < 48
      · go_wp2_with fail
        go_ret
        exact ⟨by rw [← HA.out, not_allD h1 (by omega)]; rfl, rfl⟩
      · by_cases h3 : bt s k ≤ 57
        · go_wp2_with fail
          exact ⟨⟨k + 1, by simp, by omega, fun j hj => by
            by_cases e : j = k
            · subst e; omega
            · exact HD.out j (by omega), trivial⟩, by simp [intOf]; omega⟩
        · go_wp2_with fail
          go_ret
          exact ⟨by rw [← HA.out, not_allD h1 (by omega)]; rfl, rfl⟩
    · have hk2 : k = s.size := by omega
      subst hk2
      have HL := Lib.hid (show (!s.toList.isEmpty) = A by rw [← HA.out, allD_bt HD.out, Lib.toList_data]; rfl)
      go_wp2_with fail
      go_ret
      exact ⟨retB HL.out, rfl⟩

theorem isWhole_any (s : ByteArray) (w : World) (hs : s.size ≤ 4000000) :
    Calls Tryd.prog 50 #[.string s] w fun e w' => e = .returned (.bool (isWh s.data.toList)) ∧ w' = w := by
  have hb := get_bt s
  obtain ⟨A, hA⟩ : ∃ A, isWh s.data.toList = A := ⟨_, rfl⟩
  obtain ⟨B, hB⟩ : ∃ B, (allD s.data.toList && !s.data.toList.isEmpty) = B := ⟨_, rfl⟩
  have HA := Lib.hid hA
  have HB := Lib.hid hB
  have HI := Lib.hid (fun w => isDigits_any s w hs)
  rw [hB] at HI
  rw [hA]
  clear hA hB
  cases B with
  | false =>
    have HF := Lib.hid (show false = A by rw [← HA.out, isWh, HB.out]; rfl)
    go_enter Tryd.func50, Tryd.ntmps50
    go_wp2_with fail
    refine (HI.out _).mono ?_
    rintro e w1 ⟨rfl, rfl⟩
    go_wp2_with fail
    go_ret
    exact ⟨retB HF.out, rfl⟩
  | true =>
    have h0 : 0 < s.size := Nat.pos_of_ne_zero fun e => by
      have := HB.out
      rw [empty_size, e] at this
      simp at this
    by_cases h1 : bt s 0 = 48
    · have HF := Lib.hid (show (s.toList == [48]) = A by
        rw [← HA.out, isWh, HB.out, Lib.toList_data]
        have : s.data.toList.head? = some 48 := (head_bt h0 48).2 (by rw [h1]; rfl)
        simp [this])
      go_enter Tryd.func50, Tryd.ntmps50
      go_wp2_with fail
      refine (HI.out _).mono ?_
      rintro e w1 ⟨rfl, rfl⟩
      go_wp2_with fail
      go_ret
      exact ⟨retB HF.out, rfl⟩
    · have HF := Lib.hid (show true = A by
        rw [← HA.out, isWh, HB.out]
        have : ¬ s.data.toList.head? = some 48 := fun e => h1 ((head_bt h0 48).1 e)
        simp [this])
      go_enter Tryd.func50, Tryd.ntmps50
      go_wp2_with fail
      refine (HI.out _).mono ?_
      rintro e w1 ⟨rfl, rfl⟩
      go_wp2_with fail
      go_ret
      exact ⟨retB HF.out, rfl⟩
theorem isPlaces_any (s : ByteArray) (w : World) (hs : s.size ≤ 4000000) :
    Calls Tryd.prog 51 #[.string s] w fun e w' => e = .returned (.bool (isPl s.data.toList)) ∧ w' = w := by
  have hb := get_bt s
  obtain ⟨A, hA⟩ : ∃ A, isPl s.data.toList = A := ⟨_, rfl⟩
  obtain ⟨B, hB⟩ : ∃ B, (allD s.data.toList && !s.data.toList.isEmpty) = B := ⟨_, rfl⟩
  have HA := Lib.hid hA
  have HB := Lib.hid hB
  have HI := Lib.hid (fun w => isDigits_any s w hs)
  rw [hB] at HI
  rw [hA]
  clear hA hB
  cases B with
  | false =>
    have HF := Lib.hid (show false = A by rw [← HA.out, isPl, HB.out]; rfl)
    go_enter Tryd.func51, Tryd.ntmps51
    go_wp2_with fail
    refine (HI.out _).mono ?_
    rintro e w1 ⟨rfl, rfl⟩
    go_wp2_with fail
    go_ret
    exact ⟨retB HF.out, rfl⟩
  | true =>
    have h0 : 0 < s.size := Nat.pos_of_ne_zero fun e => by
      have := HB.out
      rw [empty_size, e] at this
      simp at this
    by_cases h9 : s.size ≤ 9
    · obtain ⟨j, hj⟩ : ∃ j, s.size = j + 1 := ⟨s.size - 1, by omega⟩
      have hl := hb j (by omega)
      by_cases h1 : bt s j = 48
      · have HF := Lib.hid (show false = A by
          rw [← HA.out, isPl, HB.out]
          have : s.data.toList.getLast? = some 48 := (last_bt h0 48).2 (by rw [hj]; simpa using h1)
          simp [this])
        go_enter Tryd.func51, Tryd.ntmps51
        go_wp2_with fail
        refine (HI.out _).mono ?_
        rintro e w1 ⟨rfl, rfl⟩
        go_wp2_with fail
        go_ret
        exact ⟨retB HF.out, rfl⟩
      · have HF := Lib.hid (show (bt s j != 48) = A by
          rw [← HA.out, isPl, HB.out]
          have h2 : ¬ s.data.toList.getLast? = some 48 := fun e => h1 (by have := (last_bt h0 48).1 e; rw [hj] at this; simpa using this)
          have h3 : s.data.toList.length ≤ 9 := by rw [size_len]; exact h9
          have h4 : (bt s j != 48) = true := by simpa using h1
          rw [h4]
          clear hb hl HI HA HB hj h9
          generalize s.data.toList = L at *
          simp [h2, h3])
        go_enter Tryd.func51, Tryd.ntmps51
        go_wp2_with fail
        refine (HI.out _).mono ?_
        rintro e w1 ⟨rfl, rfl⟩
        go_wp2_with fail
        go_ret
        exact ⟨retB HF.out, rfl⟩
    · have HF := Lib.hid (show false = A by
        rw [← HA.out, isPl, HB.out]
        have h3 : ¬ s.data.toList.length ≤ 9 := by rw [size_len]; exact h9
        clear hb HI HA HB h9
        generalize s.data.toList = L at *
        simp [h3])
      go_enter Tryd.func51, Tryd.ntmps51
      go_wp2_with fail
      refine (HI.out _).mono ?_
      rintro e w1 ⟨rfl, rfl⟩
      go_wp2_with fail
      go_ret
      exact ⟨retB HF.out, rfl⟩
end Go.Proofs.YtfceoehfellpgaaDoor
namespace Corr
set_option maxRecDepth 8000
open Go Go.RowKit
/-- A byte as a value. -/
abbrev bv (b : UInt8) : Value := .int .u8 (b.toNat : Int)
end Corr
namespace Go.Proofs.YtfceoehfellpgaaDoor
set_option maxRecDepth 8000
open Go.RowKit Go.PlainAid Corr
set_option linter.unusedVariables false
/-- The row that is filled. -/
structure RowB (w0 wr : World) (g : Nat) (l : List UInt8) : Prop where
  blk : wr.heap[g]? = some (.cells (l.map bv).toArray 5 (0, 0))
  bel : Below g w0 wr
theorem RowB.cell {w0 wr : World} {g : Nat} {l : List UInt8} (h : RowB w0 wr g l) {i : Nat} {b : UInt8} (hi : l[i]? = some b) : wr.cell? ⟨g, i, none⟩ = some (bv b) := by
  rw [Joins.cell_of_block h.blk]; simp [hi]
theorem RowB.frozen {w0 wr : World} {g : Nat} {l : List UInt8} (h : RowB w0 wr g l) (i : Nat) : wr.frozen? ⟨g, i, none⟩ = false := Joins.unfrozen_of_block h.blk i
theorem RowB.set {w0 wr : World} {g : Nat} {l : List UInt8} (h : RowB w0 wr g l) (i : Nat) (b : UInt8) : RowB w0 (wr.setCell ⟨g, i, none⟩ (bv b)) g (l.set i b) := by
  refine ⟨?_, h.bel.setCell (Nat.le_refl _) _⟩
  rw [Joins.block_setCell h.blk]
  congr 2
  apply Array.toList_inj.1
  simp [List.map_set]
end Go.Proofs.YtfceoehfellpgaaDoor
