/- Package lexer: which runes are signs (strings.IndexRune, in a text of small bytes, of a great rune: none). -/
import Derived.Test.YtfceoehfellpgaaDoorLw1
import Derived.Test.YtfceoehfellpgaaDoorShelfLw
import Derived.Laws.Runes
import Derived.Lib.IndexLaws
import Derived.Lib.IndexAny
import Derived.BigQuiet
import Derived.WalkMore
namespace Corr
set_option maxRecDepth 8000
set_option linter.unusedVariables false
open Go Go.RowKit Go.PlainAid
theorem idx_none {l : List UInt8} {c : UInt8} (h : ∀ b ∈ l, ¬ b = c) : Lib.indexByte l c = -1 := by
  have h1 := Lib.indexByte_ge l c
  rcases Int.lt_or_le (Lib.indexByte l c) 0 with h2 | h2
  · omega
  · obtain ⟨o, ho⟩ : ∃ o : Nat, Lib.indexByte l c = o := ⟨(Lib.indexByte l c).toNat, by omega⟩
    exact absurd rfl (h c (List.mem_of_getElem? (Lib.indexByte_some ho).1))
def signsS : ByteArray := ⟨#[61, 60, 62, 43, 45, 42, 47, 40, 41, 44]⟩
theorem sign1_is {r : Int} (h0 : 0 ≤ r) (h1 : r < 128) : decide (0 ≤ Lib.indexByte signsS.data.toList r.toNat.toUInt8) = sign1B r := by
  rw [← Lib.contains_iff_indexByte]
  obtain ⟨n, rfl⟩ : ∃ n : Nat, r = n := ⟨r.toNat, by omega⟩
  have : ∀ n : Fin 128, signsS.data.toList.contains ((n.val : Int).toNat.toUInt8) = sign1B (n.val : Int) := by decide +kernel
  exact this ⟨n, by omega⟩
theorem sign1_high {r : Int} (h : 128 ≤ r) : sign1B r = false := by unfold sign1B; simp; omega
end Corr
namespace Go.Proofs.YtfceoehfellpgaaDoor
set_option maxRecDepth 8000
open Go.RowKit Go.PlainAid Corr
set_option linter.unusedVariables false
set_option linter.unusedSimpArgs false
theorem lwirune_repl (s : ByteArray) (hs : ∀ k, bt s k < 128) (w : World) :
    Calls Tryd.prog 43 #[.string s, .int .i32 65533] w fun e w' => e = .returned (.int .i64 (-1)) ∧ Below w.heap.size w w' := by
  have HS := Lib.hid (ItW.start w s)
  have HK := Lib.hid hs
  clear hs
  go_enter Tryd.func43, Tryd.ntmps43
  go_wp2_with fail
  go_loopw [] (fun wr => ∃ k : Nat, Hid (ItW w wr s k)) (fun wr => s.size - wr.iterPos w.heap.size)
  case atStart => exact ⟨0, HS⟩
  case round =>
    obtain ⟨k, R⟩ := hrel
    have hpos := iterPos_of R.out.i
    by_cases hlt : k < s.size
    · obtain ⟨r, k2, hd, hrk⟩ := decL_at hlt
      have hnx : ∀ ty, (Instr.next (.pointer (some ⟨w.heap.size, 0, none⟩)) true ty).run Tryd.prog wr = _ := fun ty => Lib.run_next_any_at wr w.heap.size s k ty R.out.i hlt
      rw [hd] at hnx
      obtain ⟨z, hz⟩ : ∃ z : Int, (r : Int) = z := ⟨_, rfl⟩
      have hk := HK.out k
      have hzb := hrk (.inr hk)
      rw [hz] at hzb
      have hk2 := hzb.2
      have dz : (z == 65533) = false := by have := hzb.1; simp; omega
      simp only [hz] at hnx
      subst hk2
      clear hrk hz hd hzb hk
      obtain ⟨w2, hw2⟩ : ∃ w2, wr.iterAt w.heap.size s (k + 1) = w2 := ⟨_, rfl⟩
      have R2 := Lib.hid (R.out.next (k + 1))
      rw [hw2] at hnx R2
      clear hw2
      go_wp2_with fail
      go_roundw
      case rel => exact ⟨k + 1, R2⟩
      case measure => rw [iterPos_of R2.out.i]; omega
    · have hnx : ∀ ty, (Instr.next (.pointer (some ⟨w.heap.size, 0, none⟩)) true ty).run Tryd.prog wr = _ := fun ty => Lib.run_next_end_at wr w.heap.size s k ty R.out.i hlt
      go_wp2_with fail
      go_ret
      exact ⟨rfl, R.out.l⟩
theorem lwirune_none (s : ByteArray) (r : Int) (h1 : 128 ≤ r) (hr : ¬ r = 65533) (hv : Lib.validRune r = false) (w : World) :
    Calls Tryd.prog 43 #[.string s, .int .i32 r] w fun e w' => e = .returned (.int .i64 (-1)) ∧ Below w.heap.size w w' := by
  have d0 : decide (0 ≤ r) = true := decide_eq_true (by omega)
  have d1 : decide (r < 128) = false := decide_eq_false (by omega)
  have d2 : (r == 65533) = false := by simp; omega
  have HC := Lib.hid (fun w => Tryd.lw_utf8_ValidRune r w)
  rw [hv] at HC
  clear h1 hr hv
  go_enter Tryd.func43, Tryd.ntmps43
  go_wp2_with fail
  refine (HC.out _).mono ?_
  rintro e w' ⟨rfl, hw⟩
  obtain rfl := hw.symm
  go_wp2_with fail
  go_ret
  exact ⟨rfl, Below.refl _ _⟩
set_option maxHeartbeats 1000000 in
set_option maxRecDepth 100000 in
theorem lwirune_high (s : ByteArray) (hs : ∀ k, bt s k < 128) (hsz : s.size ≤ 4000000) (r : Int) (h1 : 128 ≤ r) (hr : ¬ r = 65533) (hv : Lib.validRune r = true) (w : World) :
    Calls Tryd.prog 43 #[.string s, .int .i32 r] w fun e w' => e = .returned (.int .i64 (-1)) ∧ Below w.heap.size w w' := by
  have d0 : decide (0 ≤ r) = true := decide_eq_true (by omega)
  have d1 : decide (r < 128) = false := decide_eq_false (by omega)
  have d2 : (r == 65533) = false := by simp; omega
  have HC := Lib.hid (fun w => Tryd.lw_utf8_ValidRune r w)
  rw [hv] at HC
  obtain ⟨e1, e2, e3⟩ := encode_facts r (by rw [validRune_eq]; exact hv) h1
  obtain ⟨E, hE⟩ : ∃ E, Utf8.encode r = E := ⟨_, rfl⟩
  rw [hE] at e1 e2 e3
  have hop := fun w => run_convert_int_string (P := Tryd.prog) w 21 9 .i32 r (by rw [Tryd.underlying21]; rfl) Tryd.underlying9
  rw [hE] at hop
  obtain ⟨m, hm⟩ : ∃ m, E.size = m + 1 := ⟨E.size - 1, by omega⟩
  have hlast : 128 ≤ bt E m := by
    have := e3 (by omega)
    rw [← get_bt E m (by omega)]
    have e4 : E.size - 1 = m := by omega
    simp only [e4] at this
    omega
  clear e3 h1 hr hv
  have q1 : IntKind.i64.wrap ((E.size : Int) - 1) = (m : Int) := by rw [hm]; exact (IntWalk.i64_in _ (by omega)).trans (by omega)
  have hbs := get_bt s
  have hbe := get_bt E
  by_cases hlt : m < s.size
  · have d3 : decide ((m : Int) < (s.size : Int)) = true := decide_eq_true (by omega)
    have hne : (bt s m != bt E m) = true := by have := hs m; simp; omega
    have hrun2 := fun w => run_slice_string (P := Tryd.prog) w 9 s .i64 .i64 ((m : Int) + 1) (s.size : Int) Tryd.underlying9 (by omega) (by omega) (by omega)
    have hX := Lib.hid (show ∀ w, Calls Tryd.prog 54 #[.string (s.extract (m + 1) s.size), .int .u8 (bt E m)] w fun e w' => e = .returned (.int .i64 (-1)) ∧ w' = w from fun w => by
      refine (Tryd.lw_strings_IndexByte _ _ w).mono ?_
      rintro e w' ⟨rfl, hw⟩
      refine ⟨?_, hw⟩
      rw [idx_none]
      intro b hb e
      have hb2 := mem_extract hb
      obtain ⟨i, hi⟩ := List.mem_iff_getElem?.1 hb2
      have h3 := hs i
      rw [bt_of hi, e] at h3
      have := bt_le E m
      have h4 : (bt E m).toNat.toUInt8.toNat = (bt E m).toNat := by
        simp [Nat.toUInt8]; omega
      omega)
    have q2 : IntKind.i64.wrap ((m : Int) + 1) = (m : Int) + 1 := IntWalk.i64_in _ (by omega)
    go_enter Tryd.func43, Tryd.ntmps43
    go_wp2_with fail
    refine (HC.out _).mono ?_
    rintro e w' ⟨rfl, hw⟩
    obtain rfl := hw.symm
    go_wp2_with fail
    go_step3
    go_wp2_with fail
    go_loopw [9, 10] (fun u v wr => u = .int .i64 (m : Int) ∧ v = .int .i64 0 ∧ wr = w) (fun _ _ _ => 0)
    case atStart => exact ⟨rfl, rfl, rfl⟩
    case round =>
      obtain ⟨rfl, rfl, rfl⟩ := hrel
      go_wp2_with fail
      go_step3
      go_upto_region 6 with fail
      go_quiet (fail)
      go_upto_region 7 with fail
      have HD1 := Lib.hid (Joins.below_draws wr.heap.size wr nq)
      generalize wr.drewN nq = wq2 at *
      go_quiet ((go_at_call 54; exact Calls.quiet_of_same (hX.out _)))
      have HD2 := Lib.hid (Joins.below_draws wr.heap.size wq2 nq)
      go_wp2_with fail
      rw [Exit.noGoto_ret]
      simp only [Exit.inBlock]
      show Exit.then _ (Exit.inBlock 1 (Exit.then _ (Exit.noGoto _))) Exit.ret _ _
      simp only [Exit.inBlock, Exit.then, Exit.noGoto_ret]
      go_ret
      exact ⟨rfl, HD1.out.trans HD2.out⟩
  · have d3 : decide ((m : Int) < (s.size : Int)) = false := decide_eq_false (by omega)
    go_enter Tryd.func43, Tryd.ntmps43
    go_wp2_with fail
    refine (HC.out _).mono ?_
    rintro e w' ⟨rfl, hw⟩
    obtain rfl := hw.symm
    go_wp2_with fail
    go_step3
    go_wp2_with fail
    go_loopw [9, 10] (fun u v wr => u = .int .i64 (m : Int) ∧ v = .int .i64 0 ∧ wr = w) (fun _ _ _ => 0)
    case atStart => exact ⟨rfl, rfl, rfl⟩
    case round =>
      obtain ⟨rfl, rfl, rfl⟩ := hrel
      go_wp2_with fail
      rw [Exit.noGoto_ret]
      go_ret
      exact ⟨rfl, Below.refl _ _⟩
theorem lwsign_any (r : Int) (h0 : 0 ≤ r) (w : World) : Calls Tryd.prog 40 #[.int .i32 r] w fun e w' => e = .returned (.bool (sign1B r)) ∧ Below w.heap.size w w' := by
  have key : ∀ w : World, Calls Tryd.prog 31 #[.string ⟨#[61, 60, 62, 43, 45, 42, 47, 40, 41, 44]⟩, .int .i32 r] w fun e w' => e = .returned (.bool (sign1B r)) ∧ Below w.heap.size w w' := fun w => by
    rcases Int.lt_or_le r 128 with h1 | h1
    · refine (Tryd.lw_strings_ContainsRune_ascii signsS r w h0 h1).mono ?_
      rintro e w' ⟨rfl, hw⟩
      obtain rfl := hw.symm
      exact ⟨by rw [sign1_is h0 h1], Below.refl _ _⟩
    · have HI : Calls Tryd.prog 43 #[.string ⟨#[61, 60, 62, 43, 45, 42, 47, 40, 41, 44]⟩, .int .i32 r] w fun e w' => e = .returned (.int .i64 (-1)) ∧ Below w.heap.size w w' := by
        have hS : ∀ k, bt signsS k < 128 := fun k => by
          rcases k with _ | _ | _ | _ | _ | _ | _ | _ | _ | _ | k
          all_goals first | decide | (rw [bt_end _ (by show 10 ≤ k + 10; omega)]; decide)
        by_cases hr : r = 65533
        · subst hr; exact lwirune_repl signsS hS w
        · cases hv : Lib.validRune r with
          | true => exact lwirune_high signsS hS (by decide) r h1 hr hv w
          | false => exact lwirune_none signsS r h1 hr hv w
      have HE := Lib.hid (sign1_high h1)
      clear h1 h0
      go_enter Tryd.func31, Tryd.ntmps31
      go_wp2_with fail
      refine HI.mono ?_
      rintro e w' ⟨rfl, hb⟩
      have HB := Lib.hid hb
      clear hb
      go_wp2_with fail
      go_ret
      exact ⟨by rw [HE.out]; rfl, HB.out⟩
  have HK := Lib.hid (key w)
  clear key
  go_enter Tryd.func40, Tryd.ntmps40
  go_wp2_with fail
  refine HK.out.mono ?_
  rintro e w' ⟨rfl, hb⟩
  have HB := Lib.hid hb
  clear hb
  go_wp2_with fail
  go_ret
  exact ⟨rfl, HB.out⟩
end Go.Proofs.YtfceoehfellpgaaDoor
