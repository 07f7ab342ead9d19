/- Package lexer: the name, the number's text that a text begins with. -/
import Derived.Test.YtfceoehfellpgaaDoorLwMath
import Derived.Test.YtfceoehfellpgaaDoorLw2
namespace Corr
set_option maxRecDepth 8000
set_option linter.unusedVariables false
open Go Go.RowKit Go.PlainAid
theorem ext_none (t : ByteArray) : t.extract 0 0 = ⟨#[]⟩ := by
  apply ByteArray.ext
  rw [ByteArray.data_extract]; simp
theorem blank_high {x : Int} (h : 128 ≤ x) : blankB x = false := by unfold blankB; simp; omega
theorem small_high {x : Int} (h : 128 ≤ x) : smallB x = false := by unfold smallB; simp; omega
theorem dig_high {x : Int} (h : 128 ≤ x) : digB x = false := by unfold digB; simp; omega
theorem word_high {x : Int} (h : 128 ≤ x) : wordB x = false := by unfold wordB; rw [small_high h, dig_high h]; rfl
theorem trim_point (s : ByteArray) : (⟨(Lib.trimPrefix s.data.toList [46]).toArray⟩ : ByteArray) = if 0 < s.size ∧ bt s 0 = 46 then s.extract 1 s.size else s := by
  unfold Lib.trimPrefix Lib.hasPrefix
  have h0 : ([46] : List UInt8).isPrefixOf s.data.toList = true ↔ 0 < s.size ∧ bt s 0 = 46 := by
    constructor
    · intro h
      have h1 : s.data.toList[0]? = some 46 := by
        cases hl : s.data.toList with
        | nil => rw [hl] at h; cases h
        | cons x r => rw [hl] at h; simp at h; rw [← h]; rfl
      have h2 := (List.getElem?_eq_some_iff.1 h1).1
      rw [size_len] at h2
      exact ⟨h2, bt_of h1⟩
    · rintro ⟨h1, h2⟩
      obtain ⟨b, hb, hb2⟩ := bt_at h1
      have : b = 46 := UInt8.toNat_inj.1 (by rw [h2] at hb2; exact Int.ofNat.inj hb2)
      subst this
      cases hl : s.data.toList with
      | nil => rw [hl] at hb; cases hb
      | cons x r => rw [hl] at hb; simp at hb; subst hb; simp
  by_cases h : 0 < s.size ∧ bt s 0 = 46
  · rw [if_pos (h0.2 h), if_pos h]
    apply ByteArray.ext
    rw [ByteArray.data_extract]
    apply Array.ext'
    rw [Array.toList_extract, List.extract_eq_take_drop]
    show s.data.toList.drop 1 = _
    rw [List.take_of_length_le (by rw [List.length_drop, size_len]; exact Nat.le_refl _)]
  · rw [if_neg (fun e => h (h0.1 e)), if_neg h]
theorem trim_places {t : ByteArray} {W : Nat} (hW : W ≤ t.size) : (⟨(Lib.trimPrefix (t.extract W t.size).data.toList [46]).toArray⟩ : ByteArray) = t.extract (placesT t W) t.size := by
  rw [trim_point, size_fr]
  unfold placesT
  by_cases h : W < t.size ∧ bt t W = 46
  · rw [if_pos h, if_pos ⟨by omega, by rw [bt_fr (by omega)]; exact h.2⟩]
    apply ByteArray.ext
    rw [ByteArray.data_extract, ByteArray.data_extract, ByteArray.data_extract]
    apply Array.ext'
    rw [Array.toList_extract, Array.toList_extract, Array.toList_extract, List.extract_eq_take_drop, List.extract_eq_take_drop, List.extract_eq_take_drop]
    rw [List.drop_take, List.drop_drop, List.take_take]
    rw [show min (t.size - W - 1) (t.size - W - 1) = t.size - (W + 1) by omega]
  · have hn : ¬ (0 < t.size - W ∧ bt (t.extract W t.size) 0 = 46) := fun e => h ⟨by have := e.1; omega, by have h2 := e.2; rw [bt_fr (by have := e.1; omega)] at h2; exact h2⟩
    rw [if_neg h, if_neg hn]
/-- Where there are places, a point is ahead of them. -/
theorem places_at {t : ByteArray} (h : ¬ runTo digB (t.extract (placesT t (runTo digB t 0)) t.size) 0 = 0) : runTo digB t 0 + 1 + runTo digB (t.extract (placesT t (runTo digB t 0)) t.size) 0 ≤ t.size := by
  have hr := runTo_to (p := digB) (s := t) (i := 0) (Nat.zero_le _)
  have hle := hr.2.1
  have hf := hr.2.2.2
  generalize runTo digB t 0 = W at *
  have h2 := (runTo_to (p := digB) (s := t.extract (placesT t W) t.size) (i := 0) (Nat.zero_le _)).2.1
  rw [size_fr] at h2
  by_cases hp : W < t.size ∧ bt t W = 46
  · have e : placesT t W = W + 1 := if_pos hp
    rw [e] at h2 ⊢; omega
  · exfalso
    have e : placesT t W = W := if_neg hp
    rw [e] at h h2
    by_cases hw : W < t.size
    · have e2 := runTo_fr (p := digB) (s := t) (a := W) (i := 0) (by omega)
      rw [Nat.add_zero, runTo_zero hw (hf hw)] at e2
      omega
    · omega
end Corr
namespace Go.Proofs.YtfceoehfellpgaaDoor
set_option maxRecDepth 8000
open Go.RowKit Go.PlainAid Corr
set_option linter.unusedVariables false
set_option linter.unusedSimpArgs false
abbrev RetRun (p : Int → Bool) (s : ByteArray) (w : World) (e : Ending) (w' : World) : Prop := e = .returned (.int .i64 (runTo p s 0 : Nat)) ∧ Below w.heap.size w w'
theorem lwrun_blank (s : ByteArray) (w : World) : Calls Tryd.prog 10 #[.string s, .func (.func 11) #[] #[]] w (RetRun blankB s w) :=
  lwrun_any blankB (fun _ => blank_high) _ (enters_of Tryd.func11 (by kernel_rfl) rfl) (fun r W _ _ => (lwblank_any r W).mono fun _ _ h => ⟨h.1, h.2 ▸ Below.refl _ _⟩) s w
theorem lwrun_small (s : ByteArray) (w : World) : Calls Tryd.prog 10 #[.string s, .func (.func 35) #[] #[]] w (RetRun smallB s w) :=
  lwrun_any smallB (fun _ => small_high) _ (enters_of Tryd.func35 (by kernel_rfl) rfl) (fun r W _ _ => (lwletter_any r W).mono fun _ _ h => ⟨h.1, h.2 ▸ Below.refl _ _⟩) s w
theorem lwrun_dig (s : ByteArray) (w : World) : Calls Tryd.prog 10 #[.string s, .func (.func 37) #[] #[]] w (RetRun digB s w) :=
  lwrun_any digB (fun _ => dig_high) _ (enters_of Tryd.func37 (by kernel_rfl) rfl) (fun r W _ _ => (lwdigit_any r W).mono fun _ _ h => ⟨h.1, h.2 ▸ Below.refl _ _⟩) s w
theorem lwrun_word (s : ByteArray) (w : World) : Calls Tryd.prog 10 #[.string s, .func (.func 36) #[] #[]] w (RetRun wordB s w) :=
  lwrun_any wordB (fun _ => word_high) _ (enters_of Tryd.func36 (by kernel_rfl) rfl) (fun r W _ _ => (lwword_any r W).mono fun _ _ h => ⟨h.1, h.2 ▸ Below.refl _ _⟩) s w
theorem lwrun_sign (s : ByteArray) (w : World) : Calls Tryd.prog 10 #[.string s, .func (.func 40) #[] #[]] w (RetRun sign1B s w) :=
  lwrun_any sign1B (fun _ => sign1_high) _ (enters_of Tryd.func40 (by kernel_rfl) rfl) (fun r W h0 _ => lwsign_any r h0 W) s w
theorem lwname_any (t : ByteArray) (w : World) (ht : t.size ≤ 4000000) : Calls Tryd.prog 23 #[.string t] w fun e w' => e = .returned (.string (t.extract 0 (nameE t))) ∧ Below w.heap.size w w' := by
  have HA := Lib.hid (fun w => lwrun_small t w)
  have HW := Lib.hid (fun w => lwrun_word t w)
  have hle := (runTo_to (p := wordB) (s := t) (i := 0) (Nat.zero_le _)).2.1
  have HN := Lib.hid (show nameE t = if runTo smallB t 0 = 0 then 0 else runTo wordB t 0 from rfl)
  unfold RetRun at HA HW
  generalize runTo smallB t 0 = n at *
  generalize runTo wordB t 0 = m at *
  by_cases h : n = 0
  · have d1 : ((n : Int) == 0) = true := by simp; omega
    have HE := Lib.hid (show t.extract 0 (nameE t) = ⟨#[]⟩ by rw [HN.out, if_pos h]; exact ext_none t)
    rw [HE.out]
    clear h HN
    go_enter Tryd.func23, Tryd.ntmps23
    go_wp2_with fail
    refine (HA.out _).mono ?_
    rintro e w1 ⟨rfl, hb⟩
    have HB := Lib.hid hb
    clear hb
    go_wp2_with fail
    go_ret
    exact ⟨rfl, HB.out⟩
  · have d1 : ((n : Int) == 0) = false := by simp; omega
    have HE := Lib.hid (show nameE t = m by rw [HN.out, if_neg h])
    rw [HE.out]
    have hrun := fun w => run_slice_string (P := Tryd.prog) w 9 t .i64 .i64 0 (m : Int) Tryd.underlying9 (by omega) (by omega) (by omega)
    have k2 : ((m : Int)).toNat = m := by omega
    simp only [k2, Int.toNat_zero] at hrun
    clear h HN
    go_enter Tryd.func23, Tryd.ntmps23
    go_wp2_with fail
    refine (HA.out _).mono ?_
    rintro e w1 ⟨rfl, hb⟩
    have HB := Lib.hid hb
    clear hb
    go_wp2_with fail
    refine (HW.out _).mono ?_
    rintro e w2 ⟨rfl, hb⟩
    have HB2 := Lib.hid (HB.out.trans (hb.mono HB.out.size))
    clear hb
    go_wp2_with fail
    go_ret
    exact ⟨rfl, HB2.out⟩
theorem lwnumber_any (t : ByteArray) (w : World) (ht : t.size ≤ 4000000) : Calls Tryd.prog 26 #[.string t] w fun e w' => e = .returned (.string (t.extract 0 (numE t))) ∧ Below w.heap.size w w' := by
  have HA := Lib.hid (fun w => lwrun_dig t w)
  have hle := (runTo_to (p := digB) (s := t) (i := 0) (Nat.zero_le _)).2.1
  obtain ⟨N, hNN⟩ : ∃ N, numE t = N := ⟨_, rfl⟩
  have HN := Lib.hid hNN
  unfold numE at HN
  rw [hNN]
  clear hNN
  have hpl := fun h => places_at (t := t) h
  unfold RetRun at HA
  have hT := Lib.hid (fun w => by have := Tryd.lw_strings_TrimPrefix (t.extract (runTo digB t 0) t.size) ⟨#[46]⟩ w; rw [trim_places hle] at this; exact this)
  have HP := Lib.hid (fun w => lwrun_dig (t.extract (placesT t (runTo digB t 0)) t.size) w)
  unfold RetRun at HP
  generalize runTo digB (t.extract (placesT t (runTo digB t 0)) t.size) 0 = m at *
  generalize t.extract (placesT t (runTo digB t 0)) t.size = p at *
  generalize runTo digB t 0 = n at *
  have hrun0 := fun w => run_slice_string (P := Tryd.prog) w 9 t .i64 .i64 (n : Int) (t.size : Int) Tryd.underlying9 (by omega) (by omega) (by omega)
  have k2 : ((n : Int)).toNat = n := by omega
  have k3 : ((t.size : Int)).toNat = t.size := by omega
  simp only [k2, k3] at hrun0
  by_cases h : n = 0 ∨ m = 0
  · rw [if_pos h] at HN
    have hrun := fun w => run_slice_string (P := Tryd.prog) w 9 t .i64 .i64 0 (n : Int) Tryd.underlying9 (by omega) (by omega) (by omega)
    simp only [k2, Int.toNat_zero] at hrun
    rw [← HN.out]
    by_cases h1 : n = 0
    · have d1 : ((n : Int) == 0) = true := by simp; omega
      clear h1 h HN k2 k3 hpl
      go_enter Tryd.func26, Tryd.ntmps26
      go_wp2_with fail
      refine (HA.out _).mono ?_
      rintro e w1 ⟨rfl, hb⟩
      have HB := Lib.hid hb
      clear hb
      go_wp2_with fail
      refine (hT.out _).mono ?_
      rintro e w' ⟨rfl, hw⟩
      obtain rfl := hw.symm
      go_wp2_with fail
      refine (HP.out _).mono ?_
      rintro e w2 ⟨rfl, hb⟩
      have HB2 := Lib.hid (HB.out.trans (hb.mono HB.out.size))
      clear hb
      go_wp2_with fail
      go_ret
      exact ⟨rfl, HB2.out⟩
    · have d1 : ((n : Int) == 0) = false := by simp; omega
      have d2 : ((m : Int) == 0) = true := by simp; omega
      clear h1 h HN k2 k3 hpl
      go_enter Tryd.func26, Tryd.ntmps26
      go_wp2_with fail
      refine (HA.out _).mono ?_
      rintro e w1 ⟨rfl, hb⟩
      have HB := Lib.hid hb
      clear hb
      go_wp2_with fail
      refine (hT.out _).mono ?_
      rintro e w' ⟨rfl, hw⟩
      obtain rfl := hw.symm
      go_wp2_with fail
      refine (HP.out _).mono ?_
      rintro e w2 ⟨rfl, hb⟩
      have HB2 := Lib.hid (HB.out.trans (hb.mono HB.out.size))
      clear hb
      go_wp2_with fail
      go_ret
      exact ⟨rfl, HB2.out⟩
  · rw [if_neg h] at HN
    have hm := hpl (fun e => h (.inr e))
    have hrun := fun w => run_slice_string (P := Tryd.prog) w 9 t .i64 .i64 0 ((n : Int) + 1 + (m : Int)) Tryd.underlying9 (by omega) (by omega) (by omega)
    have k4 : ((n : Int) + 1 + (m : Int)).toNat = n + 1 + m := by omega
    have q1 : IntKind.i64.wrap ((n : Int) + 1) = (n : Int) + 1 := IntWalk.i64_in _ (by omega)
    have q2 : IntKind.i64.wrap ((n : Int) + 1 + (m : Int)) = (n : Int) + 1 + (m : Int) := IntWalk.i64_in _ (by omega)
    simp only [k4, Int.toNat_zero] at hrun
    rw [← HN.out]
    have d1 : ((n : Int) == 0) = false := by simp; omega
    have d2 : ((m : Int) == 0) = false := by simp; omega
    clear h HN k2 k3 k4 hpl
    go_enter Tryd.func26, Tryd.ntmps26
    go_wp2_with fail
    refine (HA.out _).mono ?_
    rintro e w1 ⟨rfl, hb⟩
    have HB := Lib.hid hb
    clear hb
    go_wp2_with fail
    refine (hT.out _).mono ?_
    rintro e w' ⟨rfl, hw⟩
    obtain rfl := hw.symm
    go_wp2_with fail
    refine (HP.out _).mono ?_
    rintro e w2 ⟨rfl, hb⟩
    have HB2 := Lib.hid (HB.out.trans (hb.mono HB.out.size))
    clear hb
    go_wp2_with fail
    go_ret
    exact ⟨rfl, HB2.out⟩
end Go.Proofs.YtfceoehfellpgaaDoor
