/- Contracts of corrodyref14: kept, Name. (Written by wip/gen/genlx2.py.) -/
import Derived.Test.YtfceoehfellpgaaGreatDoorLx1
namespace Go.Proofs.YtfceoehfellpgaaGreatDoor
set_option maxRecDepth 8000
open Go.RowKit Go.PlainAid Corr
set_option linter.unusedVariables false
set_option linter.unusedSimpArgs false
theorem kept_any (s : ByteArray) (w : World) : Calls Tryz.prog 20 #[.string s] w fun e w' => e = .returned (.bool (keptB s.data.toList)) ∧ w' = w := by
  by_cases h0 : s.data.toList = [116, 114, 117, 101]
  · have d0 : (s.toList == [116, 114, 117, 101]) = true := by rw [Lib.toList_data]; simpa using h0
    have HB := Lib.hid (show true = keptB s.data.toList by rw [h0]; decide)
    clear h0
    go_enter Tryz.func20, Tryz.ntmps20
    go_wp2_with fail
    go_ret
    exact ⟨by rw [← HB.out]; rfl, rfl⟩
  have d0 : (s.toList == [116, 114, 117, 101]) = false := by rw [Lib.toList_data]; simpa using h0
  by_cases h1 : s.data.toList = [102, 97, 108, 115, 101]
  · have d1 : (s.toList == [102, 97, 108, 115, 101]) = true := by rw [Lib.toList_data]; simpa using h1
    have HB := Lib.hid (show true = keptB s.data.toList by rw [h1]; decide)
    clear h0 h1
    go_enter Tryz.func20, Tryz.ntmps20
    go_wp2_with fail
    go_ret
    exact ⟨by rw [← HB.out]; rfl, rfl⟩
  have d1 : (s.toList == [102, 97, 108, 115, 101]) = false := by rw [Lib.toList_data]; simpa using h1
  by_cases h2 : s.data.toList = [97, 110, 100]
  · have d2 : (s.toList == [97, 110, 100]) = true := by rw [Lib.toList_data]; simpa using h2
    have HB := Lib.hid (show true = keptB s.data.toList by rw [h2]; decide)
    clear h0 h1 h2
    go_enter Tryz.func20, Tryz.ntmps20
    go_wp2_with fail
    go_ret
    exact ⟨by rw [← HB.out]; rfl, rfl⟩
  have d2 : (s.toList == [97, 110, 100]) = false := by rw [Lib.toList_data]; simpa using h2
  by_cases h3 : s.data.toList = [111, 114]
  · have d3 : (s.toList == [111, 114]) = true := by rw [Lib.toList_data]; simpa using h3
    have HB := Lib.hid (show true = keptB s.data.toList by rw [h3]; decide)
    clear h0 h1 h2 h3
    go_enter Tryz.func20, Tryz.ntmps20
    go_wp2_with fail
    go_ret
    exact ⟨by rw [← HB.out]; rfl, rfl⟩
  have d3 : (s.toList == [111, 114]) = false := by rw [Lib.toList_data]; simpa using h3
  by_cases h4 : s.data.toList = [110, 111, 116]
  · have d4 : (s.toList == [110, 111, 116]) = true := by rw [Lib.toList_data]; simpa using h4
    have HB := Lib.hid (show true = keptB s.data.toList by rw [h4]; decide)
    clear h0 h1 h2 h3 h4
    go_enter Tryz.func20, Tryz.ntmps20
    go_wp2_with fail
    go_ret
    exact ⟨by rw [← HB.out]; rfl, rfl⟩
  have d4 : (s.toList == [110, 111, 116]) = false := by rw [Lib.toList_data]; simpa using h4
  by_cases h5 : s.data.toList = [105, 102]
  · have d5 : (s.toList == [105, 102]) = true := by rw [Lib.toList_data]; simpa using h5
    have HB := Lib.hid (show true = keptB s.data.toList by rw [h5]; decide)
    clear h0 h1 h2 h3 h4 h5
    go_enter Tryz.func20, Tryz.ntmps20
    go_wp2_with fail
    go_ret
    exact ⟨by rw [← HB.out]; rfl, rfl⟩
  have d5 : (s.toList == [105, 102]) = false := by rw [Lib.toList_data]; simpa using h5
  by_cases h6 : s.data.toList = [109, 105, 110]
  · have d6 : (s.toList == [109, 105, 110]) = true := by rw [Lib.toList_data]; simpa using h6
    have HB := Lib.hid (show true = keptB s.data.toList by rw [h6]; decide)
    clear h0 h1 h2 h3 h4 h5 h6
    go_enter Tryz.func20, Tryz.ntmps20
    go_wp2_with fail
    go_ret
    exact ⟨by rw [← HB.out]; rfl, rfl⟩
  have d6 : (s.toList == [109, 105, 110]) = false := by rw [Lib.toList_data]; simpa using h6
  by_cases h7 : s.data.toList = [109, 97, 120]
  · have d7 : (s.toList == [109, 97, 120]) = true := by rw [Lib.toList_data]; simpa using h7
    have HB := Lib.hid (show true = keptB s.data.toList by rw [h7]; decide)
    clear h0 h1 h2 h3 h4 h5 h6 h7
    go_enter Tryz.func20, Tryz.ntmps20
    go_wp2_with fail
    go_ret
    exact ⟨by rw [← HB.out]; rfl, rfl⟩
  have d7 : (s.toList == [109, 97, 120]) = false := by rw [Lib.toList_data]; simpa using h7
  by_cases h8 : s.data.toList = [97, 98, 115]
  · have d8 : (s.toList == [97, 98, 115]) = true := by rw [Lib.toList_data]; simpa using h8
    have HB := Lib.hid (show true = keptB s.data.toList by rw [h8]; decide)
    clear h0 h1 h2 h3 h4 h5 h6 h7 h8
    go_enter Tryz.func20, Tryz.ntmps20
    go_wp2_with fail
    go_ret
    exact ⟨by rw [← HB.out]; rfl, rfl⟩
  have d8 : (s.toList == [97, 98, 115]) = false := by rw [Lib.toList_data]; simpa using h8
  by_cases h9 : s.data.toList = [114, 111, 117, 110, 100]
  · have d9 : (s.toList == [114, 111, 117, 110, 100]) = true := by rw [Lib.toList_data]; simpa using h9
    have HB := Lib.hid (show true = keptB s.data.toList by rw [h9]; decide)
    clear h0 h1 h2 h3 h4 h5 h6 h7 h8 h9
    go_enter Tryz.func20, Tryz.ntmps20
    go_wp2_with fail
    go_ret
    exact ⟨by rw [← HB.out]; rfl, rfl⟩
  have d9 : (s.toList == [114, 111, 117, 110, 100]) = false := by rw [Lib.toList_data]; simpa using h9
  by_cases h10 : s.data.toList = [104, 97, 115]
  · have d10 : (s.toList == [104, 97, 115]) = true := by rw [Lib.toList_data]; simpa using h10
    have HB := Lib.hid (show true = keptB s.data.toList by rw [h10]; decide)
    clear h0 h1 h2 h3 h4 h5 h6 h7 h8 h9 h10
    go_enter Tryz.func20, Tryz.ntmps20
    go_wp2_with fail
    go_ret
    exact ⟨by rw [← HB.out]; rfl, rfl⟩
  have d10 : (s.toList == [104, 97, 115]) = false := by rw [Lib.toList_data]; simpa using h10
  by_cases h11 : s.data.toList = [111, 114, 101, 108, 115, 101]
  · have d11 : (s.toList == [111, 114, 101, 108, 115, 101]) = true := by rw [Lib.toList_data]; simpa using h11
    have HB := Lib.hid (show true = keptB s.data.toList by rw [h11]; decide)
    clear h0 h1 h2 h3 h4 h5 h6 h7 h8 h9 h10 h11
    go_enter Tryz.func20, Tryz.ntmps20
    go_wp2_with fail
    go_ret
    exact ⟨by rw [← HB.out]; rfl, rfl⟩
  have d11 : (s.toList == [111, 114, 101, 108, 115, 101]) = false := by rw [Lib.toList_data]; simpa using h11
  by_cases h12 : s.data.toList = [108, 97, 103]
  · have d12 : (s.toList == [108, 97, 103]) = true := by rw [Lib.toList_data]; simpa using h12
    have HB := Lib.hid (show true = keptB s.data.toList by rw [h12]; decide)
    clear h0 h1 h2 h3 h4 h5 h6 h7 h8 h9 h10 h11 h12
    go_enter Tryz.func20, Tryz.ntmps20
    go_wp2_with fail
    go_ret
    exact ⟨by rw [← HB.out]; rfl, rfl⟩
  have d12 : (s.toList == [108, 97, 103]) = false := by rw [Lib.toList_data]; simpa using h12
  by_cases h13 : s.data.toList = [108, 101, 97, 115, 116]
  · have d13 : (s.toList == [108, 101, 97, 115, 116]) = true := by rw [Lib.toList_data]; simpa using h13
    have HB := Lib.hid (show true = keptB s.data.toList by rw [h13]; decide)
    clear h0 h1 h2 h3 h4 h5 h6 h7 h8 h9 h10 h11 h12 h13
    go_enter Tryz.func20, Tryz.ntmps20
    go_wp2_with fail
    go_ret
    exact ⟨by rw [← HB.out]; rfl, rfl⟩
  have d13 : (s.toList == [108, 101, 97, 115, 116]) = false := by rw [Lib.toList_data]; simpa using h13
  by_cases h14 : s.data.toList = [109, 111, 115, 116]
  · have d14 : (s.toList == [109, 111, 115, 116]) = true := by rw [Lib.toList_data]; simpa using h14
    have HB := Lib.hid (show true = keptB s.data.toList by rw [h14]; decide)
    clear h0 h1 h2 h3 h4 h5 h6 h7 h8 h9 h10 h11 h12 h13 h14
    go_enter Tryz.func20, Tryz.ntmps20
    go_wp2_with fail
    go_ret
    exact ⟨by rw [← HB.out]; rfl, rfl⟩
  have d14 : (s.toList == [109, 111, 115, 116]) = false := by rw [Lib.toList_data]; simpa using h14
  by_cases h15 : s.data.toList = [97, 110, 121]
  · have d15 : (s.toList == [97, 110, 121]) = true := by rw [Lib.toList_data]; simpa using h15
    have HB := Lib.hid (show true = keptB s.data.toList by rw [h15]; decide)
    clear h0 h1 h2 h3 h4 h5 h6 h7 h8 h9 h10 h11 h12 h13 h14 h15
    go_enter Tryz.func20, Tryz.ntmps20
    go_wp2_with fail
    go_ret
    exact ⟨by rw [← HB.out]; rfl, rfl⟩
  have d15 : (s.toList == [97, 110, 121]) = false := by rw [Lib.toList_data]; simpa using h15
  by_cases h16 : s.data.toList = [101, 118, 101, 114, 121]
  · have d16 : (s.toList == [101, 118, 101, 114, 121]) = true := by rw [Lib.toList_data]; simpa using h16
    have HB := Lib.hid (show true = keptB s.data.toList by rw [h16]; decide)
    clear h0 h1 h2 h3 h4 h5 h6 h7 h8 h9 h10 h11 h12 h13 h14 h15 h16
    go_enter Tryz.func20, Tryz.ntmps20
    go_wp2_with fail
    go_ret
    exact ⟨by rw [← HB.out]; rfl, rfl⟩
  have d16 : (s.toList == [101, 118, 101, 114, 121]) = false := by rw [Lib.toList_data]; simpa using h16
  have HB := Lib.hid (show false = keptB s.data.toList by unfold keptB keptL; simp [h0, h1, h2, h3, h4, h5, h6, h7, h8, h9, h10, h11, h12, h13, h14, h15, h16])
  clear h0 h1 h2 h3 h4 h5 h6 h7 h8 h9 h10 h11 h12 h13 h14 h15 h16
  go_enter Tryz.func20, Tryz.ntmps20
  go_wp2_with fail
  go_ret
  exact ⟨by rw [← HB.out]; rfl, rfl⟩
theorem small_is {x : Int} {b : Bool} (h : smallB x = b) (w : World) : Calls Tryz.prog 15 #[.int .u8 x] w fun e w' => e = .returned (.bool b) ∧ w' = w := by rw [← h]; exact small_any x w
theorem digit_is {x : Int} {b : Bool} (h : digB x = b) (w : World) : Calls Tryz.prog 16 #[.int .u8 x] w fun e w' => e = .returned (.bool b) ∧ w' = w := by rw [← h]; exact digit_any x w
theorem kept_is {s : ByteArray} {b : Bool} (h : keptB s.data.toList = b) (w : World) : Calls Tryz.prog 20 #[.string s] w fun e w' => e = .returned (.bool b) ∧ w' = w := by rw [← h]; exact kept_any s w
theorem name_any (s : ByteArray) (w : World) (hs : s.size ≤ 4000000) : Calls Tryz.prog 9 #[.string s] w fun e w' => e = .returned (.bool (nameB s)) ∧ w' = w := by
  have hb := get_bt s
  by_cases h0 : s.size = 0
  · have d0 : ((s.size : Int) == 0) = true := by simp [h0]
    have HB := Lib.hid (show false = nameB s by unfold nameB; simp [h0])
    clear h0
    go_enter Tryz.func9, Tryz.ntmps9
    go_wp2_with fail
    go_ret
    exact ⟨by rw [← HB.out]; rfl, rfl⟩
  have d0 : ((s.size : Int) == 0) = false := by simpa using h0
  have hp : 0 < s.size := by omega
  by_cases h12 : s.size ≤ 12
  case neg =>
    have d1 : decide ((s.size : Int) > 12) = true := decide_eq_true (by omega)
    have HB := Lib.hid (show false = nameB s by unfold nameB; simp [h12])
    clear h0 h12
    go_enter Tryz.func9, Tryz.ntmps9
    go_wp2_with fail
    go_ret
    exact ⟨by rw [← HB.out]; rfl, rfl⟩
  have d1 : decide ((s.size : Int) > 12) = false := decide_eq_false (by omega)
  cases q : smallB (bt s 0) with
  | false =>
    have HB := Lib.hid (show false = nameB s by unfold nameB; simp [q])
    have HQ := Lib.hid q
    clear h0 h12 q
    go_enter Tryz.func9, Tryz.ntmps9
    go_wp2_with fail
    refine (small_is HQ.out _).mono ?_
    rintro e w' ⟨rfl, hw'⟩
    obtain rfl := hw'.symm
    go_wp2_with fail
    go_ret
    exact ⟨by rw [← HB.out]; rfl, rfl⟩
  | true =>
    have HQ := Lib.hid q
    cases qk : keptB s.data.toList with
    | true =>
      have HB := Lib.hid (show false = nameB s by unfold nameB; simp [qk])
      have HK := Lib.hid qk
      clear h0 h12 q qk
      go_enter Tryz.func9, Tryz.ntmps9
      go_wp2_with fail
      refine (small_is HQ.out _).mono ?_
      rintro e w' ⟨rfl, hw'⟩
      obtain rfl := hw'.symm
      go_wp2_with fail
      refine (kept_is HK.out _).mono ?_
      rintro e w' ⟨rfl, hw'⟩
      obtain rfl := hw'.symm
      go_wp2_with fail
      go_ret
      exact ⟨by rw [← HB.out]; rfl, rfl⟩
    | false =>
      have HN := Lib.hid (show nameB s = decide (runTo wordB s 0 = s.size) by unfold nameB; simp [qk, q, hp, h12])
      have HK := Lib.hid qk
      clear h0 h12 q qk
      go_enter Tryz.func9, Tryz.ntmps9
      go_wp2_with fail
      refine (small_is HQ.out _).mono ?_
      rintro e w' ⟨rfl, hw'⟩
      obtain rfl := hw'.symm
      go_wp2_with fail
      refine (kept_is HK.out _).mono ?_
      rintro e w' ⟨rfl, hw'⟩
      obtain rfl := hw'.symm
      go_wp2_with fail
      go_loopw [3] (fun u wr => ∃ k : Nat, u = .int .i64 (k : Int) ∧ k ≤ s.size ∧ Hid (∀ j, j < k → wordB (bt s j) = true) ∧ wr = w) (fun u _ => (s.size - intOf u).toNat)
      case atStart => exact ⟨0, rfl, by omega, Lib.hid (fun j h => absurd h (by omega)), rfl⟩
      case round =>
        obtain ⟨k, rfl, hk, HD, rfl⟩ := hrel
        by_cases h1 : k < s.size
        · cases q1 : smallB (bt s k) with
          | true =>
            have HQ1 := Lib.hid q1
            have HD2 := Lib.hid (show ∀ j, j < k + 1 → wordB (bt s j) = true from fun j hj => by
              by_cases e : j = k
              · subst e; unfold wordB; rw [q1]; rfl
              · exact HD.out j (by omega))
            clear q1
            go_wp2_with fail
            refine (small_is HQ1.out _).mono ?_
            rintro e w' ⟨rfl, hw'⟩
            obtain rfl := hw'.symm
            go_wp2_with fail
            go_roundw
            case rel => exact ⟨k + 1, by go_num, by omega, HD2, by first | trivial | rfl⟩
            case measure => simp [intOf]; omega
          | false =>
            have HQ1 := Lib.hid q1
            cases q2 : digB (bt s k) with
            | true =>
              have HQ2 := Lib.hid q2
              have HD2 := Lib.hid (show ∀ j, j < k + 1 → wordB (bt s j) = true from fun j hj => by
                by_cases e : j = k
                · subst e; unfold wordB; rw [q2]; simp
                · exact HD.out j (by omega))
              clear q1 q2
              go_wp2_with fail
              refine (small_is HQ1.out _).mono ?_
              rintro e w' ⟨rfl, hw'⟩
              obtain rfl := hw'.symm
              go_wp2_with fail
              refine (digit_is HQ2.out _).mono ?_
              rintro e w' ⟨rfl, hw'⟩
              obtain rfl := hw'.symm
              go_wp2_with fail
              go_roundw
              case rel => exact ⟨k + 1, by go_num, by omega, HD2, by first | trivial | rfl⟩
              case measure => simp [intOf]; omega
            | false =>
              have HQ2 := Lib.hid q2
              have HB := Lib.hid (show false = nameB s by
                have h2 : runTo wordB s 0 = k := runTo_eq ⟨Nat.zero_le _, hk, fun j _ hj => HD.out j hj, fun _ => by unfold wordB; rw [q1, q2]; rfl⟩
                rw [HN.out, h2]; symm; exact decide_eq_false (by omega))
              clear q1 q2
              go_wp2_with fail
              refine (small_is HQ1.out _).mono ?_
              rintro e w' ⟨rfl, hw'⟩
              obtain rfl := hw'.symm
              go_wp2_with fail
              refine (digit_is HQ2.out _).mono ?_
              rintro e w' ⟨rfl, hw'⟩
              obtain rfl := hw'.symm
              go_wp2_with fail
              go_ret
              exact ⟨by rw [← HB.out]; rfl, rfl⟩
        · have HB := Lib.hid (show true = nameB s by
            have hks : k = s.size := by omega
            have h2 : runTo wordB s 0 = k := runTo_eq ⟨Nat.zero_le _, hk, fun j _ hj => HD.out j hj, fun h => absurd h h1⟩
            rw [HN.out, h2]; symm; exact decide_eq_true hks)
          go_wp2_with fail
          go_ret
          exact ⟨by rw [← HB.out]; rfl, rfl⟩
end Go.Proofs.YtfceoehfellpgaaGreatDoor
