/- Contracts of package datetext: numbers. -/
import Derived.Test.YtmdmhookhkhdoaaDoorDn1
import Derived.Test.YtmdmhookhkhdoaaDoorMem
import Derived.Lib.OthersKept
import Derived.WalkSmall
namespace Corr
set_option maxRecDepth 8000
set_option linter.unusedVariables false
open Go Go.RowKit Go.PlainAid
/-- The rune at a place: the byte there, where either is below 128. -/
theorem dec_at {s : ByteArray} {p : Nat} (hp : p < s.size) : ∃ r k : Nat, Utf8.decode s p = (r, k) ∧ (r < 128 ∨ bt s p < 128 → (r : Int) = bt s p ∧ k = 1) := by
  have hb := get_bt s p hp
  by_cases ha : (s[p]'hp).toNat < 128
  · exact ⟨_, _, decode_ascii s p hp ha, fun _ => ⟨hb, rfl⟩⟩
  · refine ⟨(Utf8.decode s p).1, (Utf8.decode s p).2, rfl, fun h => ?_⟩
    have := decode_high s p hp (by omega)
    rcases h with h | h <;> omega
/-- What a day's text has at a place. -/
def okB (s : ByteArray) (j : Nat) : Prop := if j = 4 ∨ j = 7 then bt s j = 45 else 48 ≤ bt s j ∧ bt s j ≤ 57
theorem piece_dig {s : ByteArray} {o k : Nat} : allD ((s.data.toList.drop o).take k) = true ↔ ∀ j, o ≤ j → j < o + k → j < s.size → 48 ≤ bt s j ∧ bt s j ≤ 57 := by
  unfold allD
  rw [List.all_eq_true]
  constructor
  · intro h j h1 h2 h3
    obtain ⟨b, hb, _⟩ := bt_at h3
    refine (isDig_bt hb).1 (h b (List.mem_iff_getElem?.2 ⟨j - o, ?_⟩))
    rw [List.getElem?_take, if_pos (by omega), List.getElem?_drop, show o + (j - o) = j by omega]
    exact hb
  · intro h b hm
    obtain ⟨i, hi⟩ := List.mem_iff_getElem?.1 hm
    rw [List.getElem?_take] at hi
    split at hi
    · rw [List.getElem?_drop] at hi
      have hl := (List.getElem?_eq_some_iff.1 hi).1
      rw [size_len] at hl
      exact (isDig_bt hi).2 (h _ (by omega) (by omega) hl)
    · cases hi
theorem dfB_good {s : ByteArray} (hs : s.size = 10) : dfB s.data.toList = true ↔ ∀ j, j < 10 → okB s j := by
  have e0 : s.data.toList.take 4 = (s.data.toList.drop 0).take 4 := rfl
  have e8 : s.data.toList.drop 8 = (s.data.toList.drop 8).take 2 := by rw [List.take_of_length_le (by rw [List.length_drop, size_len]; omega)]
  rw [dfB_iff, e0, e8, piece_dig, piece_dig, piece_dig, size_len, bt_get (by omega) 45, bt_get (by omega) 45]
  constructor
  · rintro ⟨_, h4, h7, d0, d5, d8⟩ j hj
    unfold okB
    split
    · rename_i h
      rcases h with rfl | rfl
      · exact h4
      · exact h7
    · rename_i h
      by_cases a : j < 4
      · exact d0 j (by omega) (by omega) (by omega)
      · by_cases b : j < 7
        · exact d5 j (by omega) (by omega) (by omega)
        · exact d8 j (by omega) (by omega) (by omega)
  · intro h
    unfold okB at h
    refine ⟨hs, ?_, ?_, fun j h1 h2 h3 => ?_, fun j h1 h2 h3 => ?_, fun j h1 h2 h3 => ?_⟩
    · have := h 4 (by omega); simpa using this
    · have := h 7 (by omega); simpa using this
    · have := h j (by omega); rwa [if_neg (by omega)] at this
    · have := h j (by omega); rwa [if_neg (by omega)] at this
    · have := h j (by omega); rwa [if_neg (by omega)] at this
/-- The numbers behind so many bytes. -/
def nY (s : ByteArray) (p : Nat) : Int := (dval ((s.data.toList.drop 0).take (p - 0)) : Int)
def nM (s : ByteArray) (p : Nat) : Int := (dval ((s.data.toList.drop 5).take (p - 5)) : Int)
def nD (s : ByteArray) (p : Nat) : Int := (dval ((s.data.toList.drop 8).take (p - 8)) : Int)
theorem piece_more {s : ByteArray} {o p : Nat} (h1 : o ≤ p) (hp : p < s.size) (h : 48 ≤ bt s p) : (dval ((s.data.toList.drop o).take (p + 1 - o)) : Int) = 10 * (dval ((s.data.toList.drop o).take (p - o)) : Int) + (bt s p - 48) := by
  obtain ⟨b, hb, hbt⟩ := bt_at hp
  have e : (s.data.toList.drop o).take (p + 1 - o) = (s.data.toList.drop o).take (p - o) ++ [b] := by
    rw [show p + 1 - o = (p - o) + 1 by omega, List.take_add_one, List.getElem?_drop, show o + (p - o) = p by omega, hb]; rfl
  rw [e, dval_snoc]; omega
theorem piece_none {s : ByteArray} {o p : Nat} (h : p ≤ o) : (dval ((s.data.toList.drop o).take (p - o)) : Int) = 0 := by
  rw [show p - o = 0 by omega]; rfl
/-- The year, the month and the day that are held behind p bytes. -/
def vY (s : ByteArray) (p : Nat) : Int := nY s (min p 4)
def vM (s : ByteArray) (p : Nat) : Int := nM s (min p 7)
def vD (s : ByteArray) (p : Nat) : Int := nD s p
def vA (p : Nat) : Int := if p ≤ 4 then 0 else if p ≤ 7 then 1 else 2
theorem v_dash {s : ByteArray} {p : Nat} (h : p = 4 ∨ p = 7) : vA (p + 1) = vA p + 1 ∧ vY s (p + 1) = vY s p ∧ vM s (p + 1) = vM s p ∧ vD s (p + 1) = vD s p := by
  have e0 : ∀ q, q ≤ 5 → nM s q = 0 := fun q h => piece_none h
  have e1 : ∀ q, q ≤ 8 → nD s q = 0 := fun q h => piece_none h
  unfold vA vY vM vD
  rcases h with rfl | rfl
  · refine ⟨rfl, rfl, ?_, ?_⟩
    · show nM s 5 = nM s 4; rw [e0 5 (by omega), e0 4 (by omega)]
    · rw [e1 _ (by omega), e1 _ (by omega)]
  · refine ⟨rfl, rfl, rfl, ?_⟩
    rw [e1 _ (by omega), e1 _ (by omega)]
theorem v_year {s : ByteArray} {p : Nat} (h : p < 4) (hp : p < s.size) (hb : 48 ≤ bt s p) : vA (p + 1) = 0 ∧ vA p = 0 ∧ vY s (p + 1) = 10 * vY s p + (bt s p - 48) ∧ vM s (p + 1) = vM s p ∧ vD s (p + 1) = vD s p := by
  have e0 : ∀ q, q ≤ 5 → nM s q = 0 := fun q h => piece_none h
  have e1 : ∀ q, q ≤ 8 → nD s q = 0 := fun q h => piece_none h
  unfold vA vY vM vD
  rw [if_pos (by omega), if_pos (by omega), Nat.min_eq_left (by omega), Nat.min_eq_left (by omega), Nat.min_eq_left (by omega), Nat.min_eq_left (by omega)]
  exact ⟨rfl, rfl, piece_more (by omega) hp hb, by rw [e0 _ (by omega), e0 _ (by omega)], by rw [e1 _ (by omega), e1 _ (by omega)]⟩
theorem v_month {s : ByteArray} {p : Nat} (h : 4 < p) (h2 : p < 7) (hp : p < s.size) (hb : 48 ≤ bt s p) : vA (p + 1) = 1 ∧ vA p = 1 ∧ vY s (p + 1) = vY s p ∧ vM s (p + 1) = 10 * vM s p + (bt s p - 48) ∧ vD s (p + 1) = vD s p := by
  have e1 : ∀ q, q ≤ 8 → nD s q = 0 := fun q h => piece_none h
  unfold vA vY vM vD
  rw [if_neg (by omega), if_pos (by omega), if_neg (by omega), if_pos (by omega), Nat.min_eq_right (by omega), Nat.min_eq_right (by omega), Nat.min_eq_left (by omega), Nat.min_eq_left (by omega)]
  exact ⟨rfl, rfl, rfl, piece_more (by omega) hp hb, by rw [e1 _ (by omega), e1 _ (by omega)]⟩
theorem v_day {s : ByteArray} {p : Nat} (h : 7 < p) (hp : p < s.size) (hb : 48 ≤ bt s p) : vA (p + 1) = 2 ∧ vA p = 2 ∧ vY s (p + 1) = vY s p ∧ vM s (p + 1) = vM s p ∧ vD s (p + 1) = 10 * vD s p + (bt s p - 48) := by
  unfold vA vY vM vD
  rw [if_neg (by omega), if_neg (by omega), if_neg (by omega), if_neg (by omega), Nat.min_eq_right (by omega), Nat.min_eq_right (by omega), Nat.min_eq_right (by omega), Nat.min_eq_right (by omega)]
  exact ⟨rfl, rfl, rfl, rfl, piece_more (by omega) hp hb⟩
theorem v_end {s : ByteArray} (hs : s.size = 10) : vY s 10 = dfY s.data.toList ∧ vM s 10 = dfM s.data.toList ∧ vD s 10 = dfD s.data.toList := by
  refine ⟨rfl, rfl, ?_⟩
  unfold vD nD dfD
  rw [List.take_of_length_le (by rw [List.length_drop, size_len]; omega)]
/-- Bounds of what is held. -/
theorem v_small {s : ByteArray} {p : Nat} (hp : p ≤ 10) (hs : s.size = 10) (h : ∀ j, j < p → okB s j) : 0 ≤ vY s p ∧ vY s p ≤ 9999 ∧ 0 ≤ vM s p ∧ vM s p ≤ 99 ∧ 0 ≤ vD s p ∧ vD s p ≤ 99 := by
  have key : ∀ o k q, o + k ≤ p → (∀ j, o ≤ j → j < o + k → ¬ (j = 4 ∨ j = 7)) → k ≤ q → dval ((s.data.toList.drop o).take k) < 10 ^ q := by
    intro o k q h1 h2 h3
    have hd : allD ((s.data.toList.drop o).take k) = true := piece_dig.2 fun j a b c => by
      have := h j (by omega)
      unfold okB at this
      rwa [if_neg (h2 j a b)] at this
    have h4 := dval_lt hd
    have h5 : ((s.data.toList.drop o).take k).length ≤ q := by rw [List.length_take]; omega
    exact Nat.lt_of_lt_of_le h4 (Nat.pow_le_pow_right (by decide) h5)
  unfold vY vM vD nY nM nD
  have a := key 0 (min p 4 - 0) 4 (by omega) (by omega) (by omega)
  have c : dval ((s.data.toList.drop 8).take (p - 8)) < 10 ^ 2 := by
    by_cases h8 : p ≤ 8
    · rw [show p - 8 = 0 by omega]; exact (by decide : dval [] < 10 ^ 2)
    · exact key 8 (p - 8) 2 (by omega) (by omega) (by omega)
  have b : dval ((s.data.toList.drop 5).take (min p 7 - 5)) < 10 ^ 2 := by
    by_cases h5 : p ≤ 5
    · rw [show min p 7 - 5 = 0 by omega]; exact (by decide : dval [] < 10 ^ 2)
    · exact key 5 (min p 7 - 5) 2 (by omega) (by omega) (by omega)
  omega
/-- The numbers' block, and the text's iterator behind it. -/
structure NW (w wr : World) (s : ByteArray) (p : Nat) (y m d : Int) : Prop where
  b : Blk wr w.heap.size #[.int .i64 y, .int .i64 m, .int .i64 d]
  i : wr.heap[w.heap.size + 1]? = some (.stringIter s p)
  l : Below w.heap.size w wr
theorem NW.start (w : World) (s : ByteArray) (T : TypeId) : NW w ((w.alloc (.cells #[.int .i64 0, .int .i64 0, .int .i64 0] T)).iter s 0) s 0 0 0 0 := by
  have hs : (w.alloc (.cells #[.int .i64 0, .int .i64 0, .int .i64 0] T)).heap.size = w.heap.size + 1 := by show (w.heap.push _).size = _; simp
  refine ⟨(Blk.new w _ T).alloc _, ?_, ((Below.refl _ _).alloc (Nat.le_refl _) _).trans (((Below.refl _ _).alloc (Nat.le_refl _) _).mono (by omega))⟩
  have := World.iter_heap (w.alloc (.cells #[.int .i64 0, .int .i64 0, .int .i64 0] T)) s 0
  rwa [hs] at this
section
variable {w wr : World} {s : ByteArray} {p : Nat} {y m d : Int}
theorem NW.next (R : NW w wr s p y m d) (p' : Nat) : NW w (wr.iterAt (w.heap.size + 1) s p') s p' y m d := by
  refine ⟨?_, Lib.iterAt_heap wr _ s p p' R.i, Lib.below_iterAt R.l (by omega) s p'⟩
  obtain ⟨T, h⟩ := R.b.blk
  exact ⟨T, by rw [Lib.iterAt_other _ _ _ _ _ (by omega)]; exact h⟩
theorem NW.set (R : NW w wr s p y m d) (j : Nat) (v : Value) : (Blk (wr.setCell ⟨w.heap.size, j, none⟩ v) w.heap.size (#[.int .i64 y, .int .i64 m, .int .i64 d].setIfInBounds j v)) ∧ (wr.setCell ⟨w.heap.size, j, none⟩ v).heap[w.heap.size + 1]? = some (.stringIter s p) ∧ Below w.heap.size w (wr.setCell ⟨w.heap.size, j, none⟩ v) :=
  ⟨R.b.set j v, by rw [Below.heap_setCell _ _ _ _ (by show w.heap.size + 1 ≠ w.heap.size; omega)]; exact R.i, R.l.setCell (Nat.le_refl _) _⟩
theorem NW.set0 (R : NW w wr s p y m d) (v : Int) : NW w (wr.setCell ⟨w.heap.size, 0, none⟩ (.int .i64 v)) s p v m d := ⟨(R.set 0 _).1, (R.set 0 _).2.1, (R.set 0 _).2.2⟩
theorem NW.set1 (R : NW w wr s p y m d) (v : Int) : NW w (wr.setCell ⟨w.heap.size, 1, none⟩ (.int .i64 v)) s p y v d := ⟨(R.set 1 _).1, (R.set 1 _).2.1, (R.set 1 _).2.2⟩
theorem NW.set2 (R : NW w wr s p y m d) (v : Int) : NW w (wr.setCell ⟨w.heap.size, 2, none⟩ (.int .i64 v)) s p y m v := ⟨(R.set 2 _).1, (R.set 2 _).2.1, (R.set 2 _).2.2⟩
theorem NW.zero (R : NW w wr s p y m d) : NW w (((wr.setCell ⟨w.heap.size, 0, none⟩ (.int .i64 0)).setCell ⟨w.heap.size, 1, none⟩ (.int .i64 0)).setCell ⟨w.heap.size, 2, none⟩ (.int .i64 0)) s p 0 0 0 := ((R.set0 0).set1 0).set2 0
theorem NW.same (R : NW w wr s p y m d) : NW w (((wr.setCell ⟨w.heap.size, 0, none⟩ (.int .i64 y)).setCell ⟨w.heap.size, 1, none⟩ (.int .i64 m)).setCell ⟨w.heap.size, 2, none⟩ (.int .i64 d)) s p y m d := ((R.set0 y).set1 m).set2 d
end
end Corr
namespace Go.Proofs.YtmdmhookhkhdoaaDoor
set_option maxRecDepth 8000
open Go.RowKit Go.PlainAid Corr
set_option linter.unusedVariables false
set_option linter.unusedSimpArgs false
theorem xnum_long (s : ByteArray) (w : World) (h : ¬ s.size = 10) :
    Calls Tryd.prog 20 #[.string s] w fun e w' => e = .returned (.tuple #[.agg #[.int .i64 0, .int .i64 0, .int .i64 0], .bool false]) ∧ Below w.heap.size w w' := by
  have hl : ((s.size : Int) != 10) = true := by simp; omega
  have S0 := (Mem.start w).push #[.int .i64 0, .int .i64 0, .int .i64 0] 41
  have x0 := S0.c 0 0 rfl rfl; have x1 := S0.c 0 1 rfl rfl; have x2 := S0.c 0 2 rfl rfl
  have HB := Lib.hid S0.bl
  clear S0 h
  go_enter Tryd.func20, Tryd.ntmps20
  go_wp2_with fail
  exact bodyPost_ret (v := .tuple #[.agg #[.int .i64 0, .int .i64 0, .int .i64 0], .bool false]) (by simp [results, Tryd.results20, go_sem, x0, x1, x2]) rfl ⟨rfl, HB.out⟩
/-- What numbers tells. -/
def RetNum (s : ByteArray) (w : World) (e : Ending) (w' : World) : Prop := ∃ y m d : Int, e = .returned (.tuple #[.agg #[.int .i64 y, .int .i64 m, .int .i64 d], .bool (dfB s.data.toList)]) ∧ (dfB s.data.toList = true → y = dfY s.data.toList ∧ m = dfM s.data.toList ∧ d = dfD s.data.toList) ∧ Below w.heap.size w w'
set_option maxHeartbeats 4000000 in
theorem xnum_ten (s : ByteArray) (w : World) (h : s.size = 10) :
    Calls Tryd.prog 20 #[.string s] w (RetNum s w) := by
  have hl : ((s.size : Int) != 10) = false := by simp; omega
  have HS := Lib.hid (NW.start w s 41)
  have hbs := get_bt s
  go_enter Tryd.func20, Tryd.ntmps20
  go_wp2_with fail
  go_loopw [4] (fun a wr => ∃ (p : Nat) (y m d : Int), a = .int .i64 (vA p) ∧ p ≤ 10 ∧ Hid (y = vY s p ∧ m = vM s p ∧ d = vD s p) ∧ Hid (∀ j, j < p → okB s j) ∧ Hid (NW w wr s p y m d)) (fun _ wr => 10 - wr.iterPos (w.heap.size + 1))
  case atStart => exact ⟨0, 0, 0, 0, rfl, by omega, Lib.hid ⟨rfl, rfl, rfl⟩, Lib.hid (fun j hj => by omega), HS⟩
  case round =>
    obtain ⟨p, y, m, d, rfl, hp, HV, HO, R⟩ := hrel
    have hpos := iterPos_of R.out.i
    by_cases hlt : p < s.size
    · obtain ⟨r, k, hd, hrk⟩ := dec_at hlt
      have hnx : ∀ ty, (Instr.next (.pointer (some ⟨w.heap.size + 1, 0, none⟩)) true ty).run Tryd.prog wr = _ := fun ty => Lib.run_next_any_at wr (w.heap.size + 1) s p ty R.out.i hlt
      rw [hd] at hnx
      obtain ⟨z, hz⟩ : ∃ z : Int, (r : Int) = z := ⟨_, rfl⟩
      have hz0 : 0 ≤ z := by omega
      have hzr : z < 128 ∨ bt s p < 128 → z = bt s p ∧ k = 1 := fun h => by rw [← hz]; exact hrk (by omega)
      have hz9 : z ≤ 2147483647 := by
        have := decode_le s p
        rw [hd] at this
        have : r ≤ 2147483647 := this
        omega
      simp only [hz] at hnx
      clear hrk hz hd
      obtain ⟨A, hA⟩ : ∃ A, vA p = A := ⟨_, rfl⟩
      have hA2 : 0 ≤ A ∧ A ≤ 2 := by rw [← hA]; unfold vA; split <;> (try split) <;> omega
      obtain ⟨w2, hw2⟩ : ∃ w2, wr.iterAt (w.heap.size + 1) s (p + k) = w2 := ⟨_, rfl⟩
      have R2 := R.out.next (p + k)
      rw [hw2] at hnx R2
      clear hw2
      have b0 := v_small hp h HO.out
      rw [← HV.out.1, ← HV.out.2.1, ← HV.out.2.2] at b0
      obtain ⟨y0, y9, m0, m9, d0, d9⟩ := b0
      have c0 := R2.b.c30; have c1 := R2.b.c31; have c2 := R2.b.c32
      have f0 := R2.b.f 0; have f1 := R2.b.f 1; have f2 := R2.b.f 2
      have hbf := get_bt (⟨#[48, 48, 48, 48, 45, 48, 48, 45, 48, 48]⟩ : ByteArray)
      by_cases hdash : p = 4 ∨ p = 7
      · have q1 : (bt (⟨#[48, 48, 48, 48, 45, 48, 48, 45, 48, 48]⟩ : ByteArray) p == 45) = true := by rcases hdash with rfl | rfl <;> rfl
        have q2 : (bt (⟨#[48, 48, 48, 48, 45, 48, 48, 45, 48, 48]⟩ : ByteArray) p != 45) = false := by rcases hdash with rfl | rfl <;> rfl
        by_cases hm : z = 45
        · subst hm
          obtain ⟨e1, e2⟩ := hzr (by omega)
          subst e2
          have HO2 := Lib.hid (show ∀ j, j < p + 1 → okB s j from fun j hj => by
            by_cases e : j = p
            · subst e; unfold okB; rw [if_pos hdash]; exact e1.symm
            · exact HO.out j (by omega))
          obtain ⟨va1, vy1, vm1, vd1⟩ := v_dash (s := s) hdash
          rw [hA] at va1
          have HV2 := Lib.hid (show y = vY s (p + 1) ∧ m = vM s (p + 1) ∧ d = vD s (p + 1) by rw [vy1, vm1, vd1]; exact HV.out)
          have HA1 := Lib.hid va1
          have HN := Lib.hid R2
          have hw1 : IntKind.i64.wrap (A + 1) = A + 1 := IntWalk.i64_in _ (by omega)
          rw [hA]
          clear va1 vy1 vm1 vd1 R2 e1 hzr hdash R
          go_wp2_with fail
          refine ⟨⟨p + 1, y, m, d, val_int HA1.out.symm, by omega, HV2, HO2, HN⟩, ?_⟩
          rw [iterPos_of HN.out.i]; omega
        · have q3 : (z == 45) = false := by simp; omega
          rw [hA]
          have HF := Lib.hid (show dfB s.data.toList = false by
            cases hb : dfB s.data.toList with
            | false => rfl
            | true => exact absurd ((dfB_good h).1 hb p (by omega)) (by
              unfold okB; rw [if_pos hdash]; intro e; have := hzr (by omega); omega))
          have HB := Lib.hid R2.zero
          clear R2 R
          go_wp2_with fail
          refine bodyPost_ret (v := .tuple #[.agg #[.int .i64 0, .int .i64 0, .int .i64 0], .bool false]) (by simp [results, Tryd.results20, go_sem, HB.out.b.c30, HB.out.b.c31, HB.out.b.c32]) rfl ⟨0, 0, 0, ?_, (fun h => by rw [HF.out] at h; cases h), HB.out.l⟩
          rw [HF.out]

      · have q1 : (bt (⟨#[48, 48, 48, 48, 45, 48, 48, 45, 48, 48]⟩ : ByteArray) p == 45) = false := by
          have : p < 10 := by omega
          rcases p with _ | _ | _ | _ | _ | _ | _ | _ | _ | _ | p <;> first | rfl | omega
        have q2 : (bt (⟨#[48, 48, 48, 48, 45, 48, 48, 45, 48, 48]⟩ : ByteArray) p != 45) = true := by rw [bne, q1]; rfl
        by_cases hm : 48 ≤ z ∧ z ≤ 57
        · obtain ⟨e1, e2⟩ := hzr (by omega)
          subst e2
          have HZ := Lib.hid e1
          have HO2 := Lib.hid (show ∀ j, j < p + 1 → okB s j from fun j hj => by
            by_cases e : j = p
            · subst e; unfold okB; rw [if_neg hdash]; omega
            · exact HO.out j (by omega))
          have hb48 : 48 ≤ bt s p := by omega
          have g1 := hm.1; have g2 := hm.2
          clear hzr hm e1 hA hA2
          by_cases hv4 : p < 4
          · have hv := v_year hv4 hlt hb48
            obtain ⟨va1, va0, vy1, vm1, vd1⟩ := hv
            have HN := Lib.hid (R2.set0 (10 * y + (z - 48)))
            have HV2 := Lib.hid (show 10 * y + (z - 48) = vY s (p + 1) ∧ m = vM s (p + 1) ∧ d = vD s (p + 1) by rw [vy1, vm1, vd1, ← HZ.out, ← HV.out.1, ← HV.out.2.1, ← HV.out.2.2]; exact ⟨rfl, rfl, rfl⟩)
            have hw1 : IntKind.i64.wrap (10 * y) = 10 * y := IntWalk.i64_in _ (by omega)
            have hw2 : IntKind.i32.wrap (z - 48) = z - 48 := by rw [IntKind.wrap_i32]; omega
            have hw3 : IntKind.i64.wrap (z - 48) = z - 48 := IntWalk.i64_in _ (by omega)
            have hw4 : IntKind.i64.wrap (10 * y + (z - 48)) = 10 * y + (z - 48) := IntWalk.i64_in _ (by omega)
            have HA1 := Lib.hid va1
            rw [va0]
            clear va0 va1 vy1 vm1 vd1 R2
            clear R
            go_wp2_with fail
            refine ⟨⟨p + 1, 10 * y + (z - 48), m, d, val_int HA1.out.symm, by omega, HV2, HO2, HN⟩, ?_⟩
            rw [iterPos_of HN.out.i]; omega
          · by_cases hv7 : p < 7
            · have hv := v_month (by omega) hv7 hlt hb48
              obtain ⟨va1, va0, vy1, vm1, vd1⟩ := hv
              have HN := Lib.hid (R2.set1 (10 * m + (z - 48)))
              have HV2 := Lib.hid (show y = vY s (p + 1) ∧ 10 * m + (z - 48) = vM s (p + 1) ∧ d = vD s (p + 1) by rw [vy1, vm1, vd1, ← HZ.out, ← HV.out.1, ← HV.out.2.1, ← HV.out.2.2]; exact ⟨rfl, rfl, rfl⟩)
              have hw1 : IntKind.i64.wrap (10 * m) = 10 * m := IntWalk.i64_in _ (by omega)
              have hw2 : IntKind.i32.wrap (z - 48) = z - 48 := by rw [IntKind.wrap_i32]; omega
              have hw3 : IntKind.i64.wrap (z - 48) = z - 48 := IntWalk.i64_in _ (by omega)
              have hw4 : IntKind.i64.wrap (10 * m + (z - 48)) = 10 * m + (z - 48) := IntWalk.i64_in _ (by omega)
              have HA1 := Lib.hid va1
              rw [va0]
              clear va0 va1 vy1 vm1 vd1 R2
              clear hv7 R
              go_wp2_with fail
              refine ⟨⟨p + 1, y, 10 * m + (z - 48), d, val_int HA1.out.symm, by omega, HV2, HO2, HN⟩, ?_⟩
              rw [iterPos_of HN.out.i]; omega
            · have hv := v_day (by omega) hlt hb48
              obtain ⟨va1, va0, vy1, vm1, vd1⟩ := hv
              have HN := Lib.hid (R2.set2 (10 * d + (z - 48)))
              have HV2 := Lib.hid (show y = vY s (p + 1) ∧ m = vM s (p + 1) ∧ 10 * d + (z - 48) = vD s (p + 1) by rw [vy1, vm1, vd1, ← HZ.out, ← HV.out.1, ← HV.out.2.1, ← HV.out.2.2]; exact ⟨rfl, rfl, rfl⟩)
              have hw1 : IntKind.i64.wrap (10 * d) = 10 * d := IntWalk.i64_in _ (by omega)
              have hw2 : IntKind.i32.wrap (z - 48) = z - 48 := by rw [IntKind.wrap_i32]; omega
              have hw3 : IntKind.i64.wrap (z - 48) = z - 48 := IntWalk.i64_in _ (by omega)
              have hw4 : IntKind.i64.wrap (10 * d + (z - 48)) = 10 * d + (z - 48) := IntWalk.i64_in _ (by omega)
              have HA1 := Lib.hid va1
              rw [va0]
              clear va0 va1 vy1 vm1 vd1 R2
              clear hv7 R
              go_wp2_with fail
              refine ⟨⟨p + 1, y, m, 10 * d + (z - 48), val_int HA1.out.symm, by omega, HV2, HO2, HN⟩, ?_⟩
              rw [iterPos_of HN.out.i]; omega
        · by_cases g1 : 48 ≤ z
          · have g2 : ¬ z ≤ 57 := by omega
            rw [hA]
            have HF := Lib.hid (show dfB s.data.toList = false by
              cases hb : dfB s.data.toList with
              | false => rfl
              | true => exact absurd ((dfB_good h).1 hb p (by omega)) (by
                unfold okB; rw [if_neg hdash]; intro e; have := hzr (by omega); omega))
            have HB := Lib.hid R2.zero
            clear R2 R
            go_wp2_with fail
            refine bodyPost_ret (v := .tuple #[.agg #[.int .i64 0, .int .i64 0, .int .i64 0], .bool false]) (by simp [results, Tryd.results20, go_sem, HB.out.b.c30, HB.out.b.c31, HB.out.b.c32]) rfl ⟨0, 0, 0, ?_, (fun h => by rw [HF.out] at h; cases h), HB.out.l⟩
            rw [HF.out]
          · rw [hA]
            have HF := Lib.hid (show dfB s.data.toList = false by
              cases hb : dfB s.data.toList with
              | false => rfl
              | true => exact absurd ((dfB_good h).1 hb p (by omega)) (by
                unfold okB; rw [if_neg hdash]; intro e; have := hzr (by omega); omega))
            have HB := Lib.hid R2.zero
            clear R2 R
            go_wp2_with fail
            refine bodyPost_ret (v := .tuple #[.agg #[.int .i64 0, .int .i64 0, .int .i64 0], .bool false]) (by simp [results, Tryd.results20, go_sem, HB.out.b.c30, HB.out.b.c31, HB.out.b.c32]) rfl ⟨0, 0, 0, ?_, (fun h => by rw [HF.out] at h; cases h), HB.out.l⟩
            rw [HF.out]
    · have hp10 : p = 10 := by omega
      subst hp10
      have hnx : ∀ ty, (Instr.next (.pointer (some ⟨w.heap.size + 1, 0, none⟩)) true ty).run Tryd.prog wr = _ := fun ty => Lib.run_next_end_at wr (w.heap.size + 1) s 10 ty R.out.i hlt
      have c0 := R.out.b.c30; have c1 := R.out.b.c31; have c2 := R.out.b.c32
      have f0 := R.out.b.f 0; have f1 := R.out.b.f 1; have f2 := R.out.b.f 2
      have HF := Lib.hid (show dfB s.data.toList = true from (dfB_good h).2 HO.out)
      have HE := Lib.hid (show y = dfY s.data.toList ∧ m = dfM s.data.toList ∧ d = dfD s.data.toList by
        obtain ⟨a, b, c⟩ := v_end h
        rw [← a, ← b, ← c]; exact HV.out)
      have HB := Lib.hid (R.out.same)
      clear hpos HO HV
      go_wp2_with fail
      refine bodyPost_ret (v := .tuple #[.agg #[.int .i64 y, .int .i64 m, .int .i64 d], .bool true]) (by simp [results, Tryd.results20, go_sem, HB.out.b.c30, HB.out.b.c31, HB.out.b.c32]) rfl ⟨y, m, d, ?_, fun _ => HE.out, HB.out.l⟩
      rw [HF.out]
end Go.Proofs.YtmdmhookhkhdoaaDoor
