/- Contracts of package dectext: isDigits, isWhole, isPlaces. The contract of dectext.digits. -/
import Derived.Test.YtgojfonnikgboaaDoorTxBytes
import Derived.Test.YtgojfonnikgboaaDoorRowRel
import Derived.Laws.IdiomStrings
import Derived.Lib.BufferWrite
import Derived.Laws.CopyOwn
namespace Go.Proofs.YtgojfonnikgboaaDoor
set_option maxRecDepth 8000
open Go.RowKit Go.PlainAid Corr
set_option linter.unusedVariables false
theorem retB {a b : Bool} (h : a = b) : Ending.returned (.bool a) = Ending.returned (.bool b) := by rw [h]
theorem isDigits_any (s : ByteArray) (w : World) (hs : s.size ≤ 4000000) :
    Calls Tryd.prog 40 #[.string s] w fun e w' => e = .returned (.bool (allD s.data.toList && !s.data.toList.isEmpty)) ∧ w' = w := by
  have hb := get_bt s
  obtain ⟨A, hA⟩ : ∃ A, (allD s.data.toList && !s.data.toList.isEmpty) = A := ⟨_, rfl⟩
  have HA := Lib.hid hA
  rw [hA]
  clear hA
  go_enter Tryd.func40, Tryd.ntmps40
  go_wp2_with fail
  go_loopw [6] (fun t wr => ∃ (k : Nat), t = .int .i64 (k : Int) ∧ k ≤ s.size ∧ (∀ j, j < k → 48 ≤ bt s j ∧ bt s j ≤ 57) ∧ wr = w) (fun t _ => (s.size - intOf t).toNat)
  case atStart => exact ⟨0, rfl, by omega, fun j h => absurd h (by omega), rfl⟩
  case round =>
    obtain ⟨k, rfl, hk, hd, rfl⟩ := hrel
    have HD := Lib.hid hd
    clear hd
    by_cases h1 : k < s.size
    · by_cases h2 : bt s k < 48
      · go_wp2_with fail
        go_ret
        exact ⟨by rw [← HA.out, not_allD h1 (by omega)]; rfl, rfl⟩
      · by_cases h3 : bt s k ≤ 57
        · go_wp2_with fail
          exact ⟨⟨k + 1, by simp, by omega, fun j hj => by
            by_cases e : j = k
            · subst e; omega
            · exact HD.out j (by omega), trivial⟩, by simp [intOf]; omega⟩
        · go_wp2_with fail
          go_ret
          exact ⟨by rw [← HA.out, not_allD h1 (by omega)]; rfl, rfl⟩
    · have hk2 : k = s.size := by omega
      subst hk2
      have HL := Lib.hid (show (!s.toList.isEmpty) = A by rw [← HA.out, allD_bt HD.out, Lib.toList_data]; rfl)
      go_wp2_with fail
      go_ret
      exact ⟨retB HL.out, rfl⟩

theorem isWhole_any (s : ByteArray) (w : World) (hs : s.size ≤ 4000000) :
    Calls Tryd.prog 27 #[.string s] w fun e w' => e = .returned (.bool (isWh s.data.toList)) ∧ w' = w := by
  have hb := get_bt s
  obtain ⟨A, hA⟩ : ∃ A, isWh s.data.toList = A := ⟨_, rfl⟩
  obtain ⟨B, hB⟩ : ∃ B, (allD s.data.toList && !s.data.toList.isEmpty) = B := ⟨_, rfl⟩
  have HA := Lib.hid hA
  have HB := Lib.hid hB
  have HI := Lib.hid (fun w => isDigits_any s w hs)
  rw [hB] at HI
  rw [hA]
  clear hA hB
  cases B with
  | false =>
    have HF := Lib.hid (show false = A by rw [← HA.out, isWh, HB.out]; rfl)
    go_enter Tryd.func27, Tryd.ntmps27
    go_wp2_with fail
    refine (HI.out _).mono ?_
    rintro e w1 ⟨rfl, rfl⟩
    go_wp2_with fail
    go_ret
    exact ⟨retB HF.out, rfl⟩
  | true =>
    have h0 : 0 < s.size := Nat.pos_of_ne_zero fun e => by
      have := HB.out
      rw [empty_size, e] at this
      simp at this
    by_cases h1 : bt s 0 = 48
    · have HF := Lib.hid (show (s.toList == [48]) = A by
        rw [← HA.out, isWh, HB.out, Lib.toList_data]
        have : s.data.toList.head? = some 48 := (head_bt h0 48).2 (by rw [h1]; rfl)
        simp [this])
      go_enter Tryd.func27, Tryd.ntmps27
      go_wp2_with fail
      refine (HI.out _).mono ?_
      rintro e w1 ⟨rfl, rfl⟩
      go_wp2_with fail
      go_ret
      exact ⟨retB HF.out, rfl⟩
    · have HF := Lib.hid (show true = A by
        rw [← HA.out, isWh, HB.out]
        have : ¬ s.data.toList.head? = some 48 := fun e => h1 ((head_bt h0 48).1 e)
        simp [this])
      go_enter Tryd.func27, Tryd.ntmps27
      go_wp2_with fail
      refine (HI.out _).mono ?_
      rintro e w1 ⟨rfl, rfl⟩
      go_wp2_with fail
      go_ret
      exact ⟨retB HF.out, rfl⟩
theorem isPlaces_any (s : ByteArray) (w : World) (hs : s.size ≤ 4000000) :
    Calls Tryd.prog 28 #[.string s] w fun e w' => e = .returned (.bool (isPl s.data.toList)) ∧ w' = w := by
  have hb := get_bt s
  obtain ⟨A, hA⟩ : ∃ A, isPl s.data.toList = A := ⟨_, rfl⟩
  obtain ⟨B, hB⟩ : ∃ B, (allD s.data.toList && !s.data.toList.isEmpty) = B := ⟨_, rfl⟩
  have HA := Lib.hid hA
  have HB := Lib.hid hB
  have HI := Lib.hid (fun w => isDigits_any s w hs)
  rw [hB] at HI
  rw [hA]
  clear hA hB
  cases B with
  | false =>
    have HF := Lib.hid (show false = A by rw [← HA.out, isPl, HB.out]; rfl)
    go_enter Tryd.func28, Tryd.ntmps28
    go_wp2_with fail
    refine (HI.out _).mono ?_
    rintro e w1 ⟨rfl, rfl⟩
    go_wp2_with fail
    go_ret
    exact ⟨retB HF.out, rfl⟩
  | true =>
    have h0 : 0 < s.size := Nat.pos_of_ne_zero fun e => by
      have := HB.out
      rw [empty_size, e] at this
      simp at this
    by_cases h9 : s.size ≤ 9
    · obtain ⟨j, hj⟩ : ∃ j, s.size = j + 1 := ⟨s.size - 1, by omega⟩
      have hl := hb j (by omega)
      by_cases h1 : bt s j = 48
      · have HF := Lib.hid (show false = A by
          rw [← HA.out, isPl, HB.out]
          have : s.data.toList.getLast? = some 48 := (last_bt h0 48).2 (by rw [hj]; simpa using h1)
          simp [this])
        go_enter Tryd.func28, Tryd.ntmps28
        go_wp2_with fail
        refine (HI.out _).mono ?_
        rintro e w1 ⟨rfl, rfl⟩
        go_wp2_with fail
        go_ret
        exact ⟨retB HF.out, rfl⟩
      · have HF := Lib.hid (show (bt s j != 48) = A by
          rw [← HA.out, isPl, HB.out]
          have h2 : ¬ s.data.toList.getLast? = some 48 := fun e => h1 (by have := (last_bt h0 48).1 e; rw [hj] at this; simpa using this)
          have h3 : s.data.toList.length ≤ 9 := by rw [size_len]; exact h9
          have h4 : (bt s j != 48) = true := by simpa using h1
          rw [h4]
          clear hb hl HI HA HB hj h9
          generalize s.data.toList = L at *
          simp [h2, h3])
        go_enter Tryd.func28, Tryd.ntmps28
        go_wp2_with fail
        refine (HI.out _).mono ?_
        rintro e w1 ⟨rfl, rfl⟩
        go_wp2_with fail
        go_ret
        exact ⟨retB HF.out, rfl⟩
    · have HF := Lib.hid (show false = A by
        rw [← HA.out, isPl, HB.out]
        have h3 : ¬ s.data.toList.length ≤ 9 := by rw [size_len]; exact h9
        clear hb HI HA HB h9
        generalize s.data.toList = L at *
        simp [h3])
      go_enter Tryd.func28, Tryd.ntmps28
      go_wp2_with fail
      refine (HI.out _).mono ?_
      rintro e w1 ⟨rfl, rfl⟩
      go_wp2_with fail
      go_ret
      exact ⟨retB HF.out, rfl⟩
end Go.Proofs.YtgojfonnikgboaaDoor
namespace Corr
set_option maxRecDepth 8000
open Go Go.RowKit
/-- A byte as a value. -/
abbrev bv (b : UInt8) : Value := .int .u8 (b.toNat : Int)
theorem byteCells_bv (l : List UInt8) : Lib.byteCells l = l.map bv := rfl
/-- Noughts ahead, and k digits of n. -/
def fillT (k n : Nat) : List UInt8 := List.replicate (19 - k) 48 ++ fixd k n
theorem fillT_at {k : Nat} (h : k < 19) (n : Nat) : (fillT k n)[18 - k]? = some 48 := by
  unfold fillT
  rw [List.getElem?_append_left (by simp; omega), List.getElem?_replicate, if_pos (by omega)]
theorem fillT_set {k : Nat} (h : k < 19) (n : Nat) : (fillT k n).set (18 - k) (dg (n / 10 ^ k)) = fillT (k + 1) n := by
  unfold fillT
  have e1 : fixd (k + 1) n = dg (n / 10 ^ k) :: fixd k n := by
    have := fixd_add 1 k n
    rw [Nat.add_comm 1 k] at this
    rw [this]; simp [fixd]
  have e2 : 19 - k = (18 - k) + 1 := by omega
  rw [e1, e2, List.replicate_succ', List.append_assoc, List.set_append_right _ _ (by simp), show 19 - (k + 1) = 18 - k by omega]
  simp
end Corr
namespace Go.Proofs.YtgojfonnikgboaaDoor
set_option maxRecDepth 8000
open Go.RowKit Go.PlainAid Corr
set_option linter.unusedVariables false
/-- The row that is filled. -/
structure RowB (w0 wr : World) (g : Nat) (l : List UInt8) : Prop where
  blk : wr.heap[g]? = some (.cells (l.map bv).toArray 5 (0, 0))
  bel : Below g w0 wr
theorem RowB.cell {w0 wr : World} {g : Nat} {l : List UInt8} (h : RowB w0 wr g l) {i : Nat} {b : UInt8} (hi : l[i]? = some b) : wr.cell? ⟨g, i, none⟩ = some (bv b) := by
  rw [Joins.cell_of_block h.blk]; simp [hi]
theorem RowB.frozen {w0 wr : World} {g : Nat} {l : List UInt8} (h : RowB w0 wr g l) (i : Nat) : wr.frozen? ⟨g, i, none⟩ = false := Joins.unfrozen_of_block h.blk i
theorem RowB.set {w0 wr : World} {g : Nat} {l : List UInt8} (h : RowB w0 wr g l) (i : Nat) (b : UInt8) : RowB w0 (wr.setCell ⟨g, i, none⟩ (bv b)) g (l.set i b) := by
  refine ⟨?_, h.bel.setCell (Nat.le_refl _) _⟩
  rw [Joins.block_setCell h.blk]
  congr 2
  apply Array.toList_inj.1
  simp [List.map_set]
abbrev zer19 : ByteArray := ⟨#[48, 48, 48, 48, 48, 48, 48, 48, 48, 48, 48, 48, 48, 48, 48, 48, 48, 48, 48]⟩
theorem digits_in (c : Int) (n : Nat) (w : World) (h1 : -9223372036854775808 ≤ c) (h2 : c ≤ 9223372036854775807) (hn : c.natAbs = n) :
    Calls Tryd.prog 14 #[.int .i64 c] w fun e w' => e = .returned (.string ⟨(fixd 19 n).toArray⟩) ∧ Below w.heap.size w w' := by
  obtain ⟨i0, hi, hz0, hz1, hz2⟩ := info_parts (show (Tryd.prog.info? 5).map (fun i => (i.zero, i.size, i.bytes)) = some (some (.int .u8 0), 1, 1) by kernel_rfl)
  have hn64 : n ≤ 9223372036854775808 := by omega
  have hsz : (Tryd.prog.info? 5).map (·.size) = some 1 := by rw [hi]; simp [hz1]
  have HU := Lib.hid (show IntKind.u64.wrap c = if c < 0 then 18446744073709551616 - (n : Int) else (n : Int) by rw [IntKind.wrap_u64]; split <;> omega)
  by_cases hc : c < 0
  · have e1 : IntKind.u64.wrap c = 18446744073709551616 - (n : Int) := by rw [HU.out, if_pos hc]
    have e2 : IntKind.u64.wrap (-(18446744073709551616 - (n : Int))) = (n : Int) := by rw [IntKind.wrap_u64]; omega
    go_enter Tryd.func14, Tryd.ntmps14
    go_wp2_with (at_make; refine wpList_make_full _ rfl _ _ 52 rfl w.heap.size 5 i0 (.int .u8 0) 1 Tryd.underlying52 hi hz0 hz1 .i64 .i64 _ _ 19 rfl rfl ?_ ?_ ?_ ?_ ?_ ?_)
    any_goals (first | omega | (rw [hz2]; omega) | (unfold maxLen; omega))
    intro w4 hown4 hgrow4
    obtain ⟨_, ⟨hv, _⟩ | ⟨g, cap, cur, hv, _, hh, _, _, hs4, _⟩⟩ := hown4
    · cases hv
    · injection hv with e1 _ e2
      injection e1 with e1
      injection e1 with e1 _ _
      subst e1 e2
      have hgb : Below w.heap.size w w4 := (Below.refl _ _).grown hgrow4 (Nat.le_refl _) (by intro k hk; cases hk)
      have hz : zer19.size ≤ 19 := by decide
      have hfit : 0 + zer19.size ≤ cur.size := by rw [hs4]; decide
      have hrun := Lib.run_copy_row_string (P := Tryd.prog) w4 52 9 3 5 w.heap.size 0 19 19 zer19 cur 5 Tryd.underlying52 hsz hh hz hfit
      obtain ⟨w5, hw5⟩ : ∃ w5, w4.setRow w.heap.size (cur.toList.take 0 ++ Lib.byteCells zer19.data.toList ++ cur.toList.drop (0 + zer19.size)).toArray = w5 := ⟨_, rfl⟩
      have hb5 := setRow_heap w4 w.heap.size cur (cur.toList.take 0 ++ Lib.byteCells zer19.data.toList ++ cur.toList.drop (0 + zer19.size)).toArray 5 (0, 0) hh
      have bel5 := below_setRow (Below.refl w.heap.size w4) (Nat.le_refl _) (cur.toList.take 0 ++ Lib.byteCells zer19.data.toList ++ cur.toList.drop (0 + zer19.size)).toArray
      rw [hw5] at hrun hb5 bel5
      clear hw5
      go_wp2_with fail
      have R0 : RowB w w5 w.heap.size (fillT 0 n) := ⟨by
        rw [hb5]
        congr 2
        apply Array.toList_inj.1
        have e : cur.toList.drop (0 + zer19.size) = [] := List.drop_eq_nil_of_le (by rw [Array.length_toList, hs4]; decide)
        rw [e]
        simp [byteCells_bv, fillT, fixd], hgb.trans bel5⟩
      clear hb5 bel5 hgb hgrow4 hh hs4 hi hz0 hz1 hz2 hsz
      go_wp2_with fail
      go_loopw [17, 3] (fun t v wr => ∃ (k M : Nat), t = .int .i64 (k : Int) ∧ v = .int .u64 (M : Int) ∧ k ≤ 19 ∧ M = n / 10 ^ k ∧ RowB w wr w.heap.size (fillT k n)) (fun t _ _ => 19 - (intOf t).toNat)
      case atStart => exact ⟨0, n, rfl, rfl, by omega, by simp, R0⟩
      case round =>
        obtain ⟨k, M, rfl, rfl, hk, hM, R⟩ := hrel
        have HM := Lib.hid hM
        clear hM
        by_cases hlt : k < 19
        · obtain ⟨j, hj⟩ : ∃ j : Nat, 18 - k = j := ⟨_, rfl⟩
          have HJ := Lib.hid hj
          have j1 : (18 : Int) - (k : Int) = (j : Int) := by omega
          have j2 : (19 : Int) - 1 - (k : Int) = (j : Int) := by omega
          have q0 : wr.cell? ⟨w.heap.size, j, none⟩ = some (.int .u8 48) := R.cell (i := j) (b := 48) (by rw [← hj]; exact fillT_at hlt n)
          have q1 := R.frozen j
          have HQ := Lib.hid (show RowB w (wr.setCell ⟨w.heap.size, j, none⟩ (bv (dg M))) w.heap.size (fillT (k + 1) n) by
            have := R.set j (dg M)
            rw [HM.out, ← HJ.out, fillT_set hlt] at this
            rw [HM.out, ← HJ.out]
            exact this)
          have HN := Lib.hid (show M / 10 = n / 10 ^ (k + 1) by rw [HM.out, Nat.div_div_eq_div_mul, Nat.pow_succ])
          have HL := Lib.hid (show M ≤ 9223372036854775808 by rw [HM.out]; exact Nat.le_trans (Nat.div_le_self _ _) hn64)
          have HV := Lib.hid (show (Value.int .u8 (48 + (M : Int) % 10)) = bv (dg M) by unfold bv; rw [dg_toNat]; exact val_int (by omega))
          have HD := Lib.hid (show IntKind.u64.wrap ((M : Int) / 10) = ((M / 10 : Nat) : Int) by rw [IntKind.wrap_u64]; have := HL.out; omega)
          clear R hj
          go_wp2_with fail
          exact ⟨⟨k + 1, M / 10, by simp, by rw [HD.out], by omega, HN.out, by rw [HV.out]; exact HQ.out⟩, by simp [intOf]; omega⟩
        · have hk19 : k = 19 := by omega
          subst hk19
          have hl : fillT 19 n = fixd 19 n := by unfold fillT; simp
          rw [hl] at R
          have hconv : (convert 52 9 (.slice (some ⟨w.heap.size, 0, none⟩) 19 19)).run Tryd.prog wr = .ok (.string ⟨(fixd 19 n).toArray⟩) wr := by
            have hlen := fixd_len 19 n
            have := run_convert_bytes_back (P := Tryd.prog) wr 52 9 5 ⟨w.heap.size, 0, none⟩ 19 (fixd 19 n) Tryd.underlying52 Tryd.underlying5 Tryd.underlying9 (fun j hj => by
              have h1 := R.cell (i := j) (b := (fixd 19 n)[j]) (List.getElem?_eq_getElem hj)
              have e : (⟨w.heap.size, 0, none⟩ : Addr).add j = ⟨w.heap.size, j, none⟩ := by
                unfold Addr.add
                by_cases h0 : j = 0 <;> simp [h0]
              rw [e]
              exact h1)
            rw [hlen] at this
            exact this
          have HB := Lib.hid R.bel
          clear R
          go_wp2_with fail
          go_ret
          exact ⟨rfl, HB.out⟩
  · have hcn : c = (n : Int) := by omega
    have hc0 : 0 ≤ c := by omega
    go_enter Tryd.func14, Tryd.ntmps14
    go_wp2_with (at_make; refine wpList_make_full _ rfl _ _ 52 rfl w.heap.size 5 i0 (.int .u8 0) 1 Tryd.underlying52 hi hz0 hz1 .i64 .i64 _ _ 19 rfl rfl ?_ ?_ ?_ ?_ ?_ ?_)
    any_goals (first | omega | (rw [hz2]; omega) | (unfold maxLen; omega))
    intro w4 hown4 hgrow4
    obtain ⟨_, ⟨hv, _⟩ | ⟨g, cap, cur, hv, _, hh, _, _, hs4, _⟩⟩ := hown4
    · cases hv
    · injection hv with e1 _ e2
      injection e1 with e1
      injection e1 with e1 _ _
      subst e1 e2
      have hgb : Below w.heap.size w w4 := (Below.refl _ _).grown hgrow4 (Nat.le_refl _) (by intro k hk; cases hk)
      have hz : zer19.size ≤ 19 := by decide
      have hfit : 0 + zer19.size ≤ cur.size := by rw [hs4]; decide
      have hrun := Lib.run_copy_row_string (P := Tryd.prog) w4 52 9 3 5 w.heap.size 0 19 19 zer19 cur 5 Tryd.underlying52 hsz hh hz hfit
      obtain ⟨w5, hw5⟩ : ∃ w5, w4.setRow w.heap.size (cur.toList.take 0 ++ Lib.byteCells zer19.data.toList ++ cur.toList.drop (0 + zer19.size)).toArray = w5 := ⟨_, rfl⟩
      have hb5 := setRow_heap w4 w.heap.size cur (cur.toList.take 0 ++ Lib.byteCells zer19.data.toList ++ cur.toList.drop (0 + zer19.size)).toArray 5 (0, 0) hh
      have bel5 := below_setRow (Below.refl w.heap.size w4) (Nat.le_refl _) (cur.toList.take 0 ++ Lib.byteCells zer19.data.toList ++ cur.toList.drop (0 + zer19.size)).toArray
      rw [hw5] at hrun hb5 bel5
      clear hw5
      go_wp2_with fail
      have R0 : RowB w w5 w.heap.size (fillT 0 n) := ⟨by
        rw [hb5]
        congr 2
        apply Array.toList_inj.1
        have e : cur.toList.drop (0 + zer19.size) = [] := List.drop_eq_nil_of_le (by rw [Array.length_toList, hs4]; decide)
        rw [e]
        simp [byteCells_bv, fillT, fixd], hgb.trans bel5⟩
      clear hb5 bel5 hgb hgrow4 hh hs4 hi hz0 hz1 hz2 hsz
      go_wp2_with fail
      go_loopw [17, 3] (fun t v wr => ∃ (k M : Nat), t = .int .i64 (k : Int) ∧ v = .int .u64 (M : Int) ∧ k ≤ 19 ∧ M = n / 10 ^ k ∧ RowB w wr w.heap.size (fillT k n)) (fun t _ _ => 19 - (intOf t).toNat)
      case atStart => exact ⟨0, n, rfl, rfl, by omega, by simp, R0⟩
      case round =>
        obtain ⟨k, M, rfl, rfl, hk, hM, R⟩ := hrel
        have HM := Lib.hid hM
        clear hM
        by_cases hlt : k < 19
        · obtain ⟨j, hj⟩ : ∃ j : Nat, 18 - k = j := ⟨_, rfl⟩
          have HJ := Lib.hid hj
          have j1 : (18 : Int) - (k : Int) = (j : Int) := by omega
          have j2 : (19 : Int) - 1 - (k : Int) = (j : Int) := by omega
          have q0 : wr.cell? ⟨w.heap.size, j, none⟩ = some (.int .u8 48) := R.cell (i := j) (b := 48) (by rw [← hj]; exact fillT_at hlt n)
          have q1 := R.frozen j
          have HQ := Lib.hid (show RowB w (wr.setCell ⟨w.heap.size, j, none⟩ (bv (dg M))) w.heap.size (fillT (k + 1) n) by
            have := R.set j (dg M)
            rw [HM.out, ← HJ.out, fillT_set hlt] at this
            rw [HM.out, ← HJ.out]
            exact this)
          have HN := Lib.hid (show M / 10 = n / 10 ^ (k + 1) by rw [HM.out, Nat.div_div_eq_div_mul, Nat.pow_succ])
          have HL := Lib.hid (show M ≤ 9223372036854775808 by rw [HM.out]; exact Nat.le_trans (Nat.div_le_self _ _) hn64)
          have HV := Lib.hid (show (Value.int .u8 (48 + (M : Int) % 10)) = bv (dg M) by unfold bv; rw [dg_toNat]; exact val_int (by omega))
          have HD := Lib.hid (show IntKind.u64.wrap ((M : Int) / 10) = ((M / 10 : Nat) : Int) by rw [IntKind.wrap_u64]; have := HL.out; omega)
          clear R hj
          go_wp2_with fail
          exact ⟨⟨k + 1, M / 10, by simp, by rw [HD.out], by omega, HN.out, by rw [HV.out]; exact HQ.out⟩, by simp [intOf]; omega⟩
        · have hk19 : k = 19 := by omega
          subst hk19
          have hl : fillT 19 n = fixd 19 n := by unfold fillT; simp
          rw [hl] at R
          have hconv : (convert 52 9 (.slice (some ⟨w.heap.size, 0, none⟩) 19 19)).run Tryd.prog wr = .ok (.string ⟨(fixd 19 n).toArray⟩) wr := by
            have hlen := fixd_len 19 n
            have := run_convert_bytes_back (P := Tryd.prog) wr 52 9 5 ⟨w.heap.size, 0, none⟩ 19 (fixd 19 n) Tryd.underlying52 Tryd.underlying5 Tryd.underlying9 (fun j hj => by
              have h1 := R.cell (i := j) (b := (fixd 19 n)[j]) (List.getElem?_eq_getElem hj)
              have e : (⟨w.heap.size, 0, none⟩ : Addr).add j = ⟨w.heap.size, j, none⟩ := by
                unfold Addr.add
                by_cases h0 : j = 0 <;> simp [h0]
              rw [e]
              exact h1)
            rw [hlen] at this
            exact this
          have HB := Lib.hid R.bel
          clear R
          go_wp2_with fail
          go_ret
          exact ⟨rfl, HB.out⟩
end Go.Proofs.YtgojfonnikgboaaDoor
