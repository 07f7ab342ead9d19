/- The contract of corrodyref03.Parse. (Written by wip/gen/gentx5.py.) -/
import Derived.Test.YtfceoehfellpgaaGreatDoorTxScan
import Derived.Test.YtfceoehfellpgaaGreatDoorTxBytes
import Derived.Test.YtfceoehfellpgaaGreatDoorDec2
import Derived.Test.YtfceoehfellpgaaGreatDoorNat
import Derived.Deep.QuietTactic
import Derived.Deep.DeepCutAuto
import Derived.Deep.CutBlock
namespace Corr
set_option maxRecDepth 8000
open Go Go.PlainAid
theorem body_len (l : List UInt8) : (pB l).length = l.length - (if pN l = true then 1 else 0) := by unfold pB; simp
/-- A byte of the text behind its sign. -/
theorem body_at {s : ByteArray} {f i : Nat} (hf : (if pN s.data.toList = true then 1 else 0) = f) (h1 : f ≤ i) (h2 : i < s.size) :
    ∃ x : UInt8, bt s i = (x.toNat : Int) ∧ pB s.data.toList = (pB s.data.toList).take (i - f) ++ x :: (pB s.data.toList).drop (i - f + 1) ∧ (pB s.data.toList).take (i + 1 - f) = (pB s.data.toList).take (i - f) ++ [x] := by
  obtain ⟨x, hx, hb⟩ := bt_at h2
  have hx2 : (pB s.data.toList)[i - f]? = some x := by
    unfold pB; rw [hf, List.getElem?_drop, show f + (i - f) = i by omega]; exact hx
  refine ⟨x, hb.symm, ?_, ?_⟩
  · have := List.getElem?_eq_some_iff.1 hx2
    obtain ⟨hlt, he⟩ := this
    rw [← he, ← List.drop_eq_getElem_cons hlt, List.take_append_drop]
  · rw [show i + 1 - f = (i - f) + 1 by omega, List.take_add_one, hx2]; rfl
theorem pN_bt {s : ByteArray} : pN s.data.toList = (decide (0 < s.size) && (bt s 0 == 45)) := by
  unfold pN
  by_cases h : 0 < s.size
  · rw [Bool.eq_iff_iff]
    have := head_bt h 45
    simp only [beq_iff_eq, Bool.and_eq_true, decide_eq_true_eq]
    rw [this]
    exact ⟨fun e => ⟨h, e⟩, fun e => e.2⟩
  · have h0 : s.size = 0 := by omega
    have : s.data.toList = [] := by rw [← List.length_eq_zero_iff, size_len]; exact h0
    rw [this, h0]; rfl
end Corr
namespace Go.Proofs.YtfceoehfellpgaaGreatDoor
set_option maxRecDepth 8000
open Go.RowKit Go.PlainAid Corr
set_option linter.unusedVariables false
set_option linter.unusedSimpArgs false
theorem bad_ans {s : ByteArray} (h : s.size ≤ 21) (hok : pOk s.data.toList = false) : pC s.data.toList = 0 ∧ pS s.data.toList = 0 ∧ pE s.data.toList = 4 := by
  have e : pE s.data.toList = 4 := by unfold pE; rw [size_len, if_neg (by omega), hok, if_neg (by decide)]
  unfold pC pS
  rw [e]; exact ⟨rfl, rfl, rfl⟩
theorem over_ans {s : ByteArray} {z : Int} (h : s.size ≤ 21) (hok : pOk s.data.toList = true) (hv : pV s.data.toList = z) (hf : ¬ (-9223372036854775808 ≤ z ∧ z ≤ 9223372036854775807)) : pC s.data.toList = 0 ∧ pS s.data.toList = 0 ∧ pE s.data.toList = 11 := by
  have e : pE s.data.toList = 11 := by unfold pE; rw [size_len, if_neg (by omega), hok, if_pos rfl, hv, show fitsI z = false from decide_eq_false hf, if_neg (by decide)]
  unfold pC pS
  rw [e]; exact ⟨rfl, rfl, rfl⟩
theorem good_ans {s : ByteArray} {z : Int} {t : Nat} (h : s.size ≤ 21) (hok : pOk s.data.toList = true) (hv : pV s.data.toList = z) (ht : (pP s.data.toList).length = t) (hf : -9223372036854775808 ≤ z ∧ z ≤ 9223372036854775807) : pC s.data.toList = z ∧ pS s.data.toList = t ∧ pE s.data.toList = 0 := by
  have e : pE s.data.toList = 0 := by unfold pE; rw [size_len, if_neg (by omega), hok, if_pos rfl, hv, show fitsI z = true from decide_eq_true hf, if_pos rfl]
  unfold pC pS
  rw [e]; exact ⟨by rw [if_pos rfl, hv], by rw [if_pos rfl, ht], rfl⟩
theorem word_zero (w : World) : Calls Tryz.prog 25 #[.int .u64 0] w (RetN w false (digs 0)) := word_any 0 w (by decide)
theorem rparse_long (s : ByteArray) (w : World) (hs : s.size ≤ 4000000) (h : 21 < s.size) :
    Calls Tryz.prog 17 #[.string s] w fun e w' => e = .returned (.tuple #[.agg #[.int .i64 0, .int .i64 0], .int .i64 3]) ∧ Below w.heap.size w w' := by
  have h2 : (21 : Int) < (s.size : Int) := by omega
  go_enter Tryz.func17, Tryz.ntmps17
  go_wp2_with fail
  exact bodyPost_ret (v := .tuple #[.agg #[.int .i64 0, .int .i64 0], .int .i64 3]) (by simp [results, Tryz.results17, go_sem]) rfl ⟨rfl, (Below.refl _ _).alloc (Nat.le_refl _) _⟩
set_option maxHeartbeats 16000000 in
theorem rparse_short (s : ByteArray) (w : World) (hs : s.size ≤ 4000000) (h : s.size ≤ 21) :
    Calls Tryz.prog 17 #[.string s] w fun e w' => e = .returned (.tuple #[.agg #[.int .i64 (pC s.data.toList), .int .i64 (pS s.data.toList : Int)], .int .i64 (pE s.data.toList)]) ∧ Below w.heap.size w w' := by
  have hb := get_bt s
  have h21 : ¬ (21 : Int) < (s.size : Int) := by omega
  obtain ⟨nb, hnb⟩ : ∃ nb, pN s.data.toList = nb := ⟨_, rfl⟩
  have HN := Lib.hid hnb
  rw [pN_bt] at hnb
  obtain ⟨f, hf⟩ : ∃ f : Nat, (if nb = true then 1 else 0) = f := ⟨_, rfl⟩
  have HFF := Lib.hid hf
  have hfs : f ≤ s.size := by
    rw [← hf]
    cases nb with
    | false => exact Nat.zero_le _
    | true => simp at hnb; have := hnb.1; simp; omega
  have f01 : f ≤ 1 := by rw [← hf]; split <;> omega
  have S0 := ((Mem.start w).push #[.int .i64 0, .int .i64 0] 31)
  go_enter Tryz.func17, Tryz.ntmps17
  go_upto_region 4 with fail
  go_cut [6] (fun t wx => t = .bool nb ∧ Mem w wx [(w.heap.size, #[.int .i64 0, .int .i64 0])] [])
  case first =>
    by_cases g0 : 0 < s.size
    · by_cases g1 : bt s 0 = 45
      · have HT := Lib.hid (show true = nb by rw [← hnb]; simp [g0, g1])
        clear hnb
        go_wp2_with fail
        go_meet
        case rel => exact ⟨congrArg Value.bool HT.out, S0⟩
      · have HT := Lib.hid (show (bt s 0 == 45) = nb by rw [← hnb]; simp [g0])
        clear hnb
        go_wp2_with fail
        go_meet
        case rel => exact ⟨congrArg Value.bool HT.out, S0⟩
    · have HT := Lib.hid (show false = nb by rw [← hnb]; simp [g0])
      clear hnb
      go_wp2_with fail
      go_meet
      case rel => exact ⟨congrArg Value.bool HT.out, S0⟩
  case rest =>
  obtain ⟨rfl, S1⟩ := hcut
  clear S0 hnb
  go_upto_if 25 with fail
  go_cut [4] (fun t wx => t = .int .i64 (f : Int) ∧ Mem w wx [(w.heap.size, #[.int .i64 0, .int .i64 0])] [])
  case first =>
    cases nb with
    | true =>
      have e : f = 1 := by rw [← hf]; rfl
      subst e
      go_wp2_with fail
      go_meet
      case rel => exact ⟨rfl, S1⟩
    | false =>
      have e : f = 0 := by rw [← hf]; rfl
      subst e
      go_wp2_with fail
      go_meet
      case rel => exact ⟨rfl, S1⟩
  case rest =>
  obtain ⟨rfl, S2⟩ := hcut
  clear S1 hf
  go_wp2_with fail
  refine (word_zero _).mono ?_
  rintro e w1 ⟨A0, n0, c0, rfl, R0, hb0⟩
  have S3 := (((S2.keep hb0).add R0).push #[.bool false, .slice A0 n0 c0] 45)
  clear S2 hb0 R0
  obtain ⟨G, hG⟩ : ∃ G, w1.heap.size = G := ⟨_, rfl⟩
  rw [hG] at S3
  go_wp2_with fail
  go_loopw [4, 5] (fun t v wr => ∃ (i C n c : Nat) (A : Option Addr) (pt : Int), t = .int .i64 (i : Int) ∧ v = .int .i64 pt ∧ f ≤ i ∧ i ≤ s.size ∧ Hid (St ((pB s.data.toList).take (i - f)) pt f C) ∧ Mem w wr [(w.heap.size, #[.int .i64 0, .int .i64 0]), (G, #[.bool false, .slice A n c])] [(A, n, c, digs C)]) (fun t _ _ => s.size - (intOf t).toNat)
  case atStart => exact ⟨f, 0, n0, c0, A0, -1, rfl, rfl, Nat.le_refl _, hfs, Lib.hid (by rw [Nat.sub_self]; exact St.zero f), S3⟩
  case round =>
    obtain ⟨i, C, n, c, A, pt, rfl, rfl, hi1, hi2, HST, S⟩ := hrel
    clear S3
    have hCn : (digs C).length = n := (S.r 0 rfl).len
    have hn8 : n ≤ 8 := by
      have h1 := HST.out.lt
      have h2 : ((pB s.data.toList).take (i - f)).length ≤ 21 := by rw [List.length_take]; omega
      have h3 : 10 ^ ((pB s.data.toList).take (i - f)).length ≤ 10 ^ 21 := Nat.pow_le_pow_right (by omega) h2
      have := digs_len 7 C (Nat.lt_of_lt_of_le (Nat.lt_of_lt_of_le h1 h3) (by decide))
      omega
    have HC21 := Lib.hid (show C < 10 ^ 21 by
      have h1 := HST.out.lt
      have h2 : ((pB s.data.toList).take (i - f)).length ≤ 21 := by rw [List.length_take]; omega
      exact Nat.lt_of_lt_of_le h1 (Nat.pow_le_pow_right (by omega) h2))
    by_cases hlt : i < s.size
    · obtain ⟨x, hbx, hpre, htk⟩ := body_at (by rw [HN.out]; exact HFF.out) hi1 hlt
      have HPRE := Lib.hid hpre
      have HTK := Lib.hid htk
      have HBX := Lib.hid hbx
      clear hpre htk hbx
      have hneX := Lib.hid (show f < i → (pB s.data.toList).take (i - f) ≠ [] by
        intro hfi e
        have h1 := congrArg List.length e
        rw [List.length_take, body_len, size_len, HN.out, HFF.out] at h1
        simp at h1
        omega)
      have hbi := hb i hlt
      by_cases h46 : bt s i = 46
      · have HX := Lib.hid (show x = 46 from UInt8.toNat_inj.1 (by have := HBX.out; rw [h46] at this; have e : (46 : UInt8).toNat = 46 := rfl; omega))
        by_cases hpt : pt < 0
        · by_cases hfi : f < i
          · have hfi' : (f : Int) < (i : Int) := by omega
            have HNX := Lib.hid (show St ((pB s.data.toList).take (i + 1 - f)) (i : Int) f C by
              rw [HTK.out, HX.out]
              have h1 := HST.out.point hpt (hneX.out hfi)
              have h2 : f + ((pB s.data.toList).take (i - f)).length = i := by
                rw [List.length_take, body_len, size_len, HN.out, HFF.out]; omega
              rw [h2] at h1
              exact h1)
            have HS := Lib.hid S
            clear S
            go_wp2_with fail
            exact ⟨⟨i + 1, C, n, c, A, (i : Int), by simp, rfl, by omega, by omega, HNX, HS.out⟩, by simp [intOf]; omega⟩
          · have hfi' : ¬ (f : Int) < (i : Int) := by omega
            have e0 : i - f = 0 := by omega
            have HV := Lib.hid (bad_ans h (HST.out.bad HPRE.out (by rw [HX.out]; rfl) (fun q => q.2.2 (by rw [e0]; rfl))))
            have SO := S.only
            have za := SO.c 0 0 rfl rfl; have zb := SO.c 0 1 rfl rfl; have zc := SO.f 0 0 rfl; have zd := SO.f 0 1 rfl
            have HF := Lib.hid (SO.put20 0 rfl (.int .i64 0) (.int .i64 0))
            clear S SO
            go_wp2_with fail
            exact bodyPost_ret (v := .tuple #[.agg #[.int .i64 0, .int .i64 0], .int .i64 4]) (by simp [results, Tryz.results17, go_sem, za, zb]) rfl ⟨by rw [HV.out.1, HV.out.2.1, HV.out.2.2] <;> rfl, HF.out.bl⟩
        · have hpt' : 0 ≤ pt := by omega
          have HV := Lib.hid (bad_ans h (HST.out.bad HPRE.out (by rw [HX.out]; rfl) (fun q => hpt q.2.1)))
          have SO := S.only
          have za := SO.c 0 0 rfl rfl; have zb := SO.c 0 1 rfl rfl; have zc := SO.f 0 0 rfl; have zd := SO.f 0 1 rfl
          have HF := Lib.hid (SO.put20 0 rfl (.int .i64 0) (.int .i64 0))
          clear S SO
          go_wp2_with fail
          exact bodyPost_ret (v := .tuple #[.agg #[.int .i64 0, .int .i64 0], .int .i64 4]) (by simp [results, Tryz.results17, go_sem, za, zb]) rfl ⟨by rw [HV.out.1, HV.out.2.1, HV.out.2.2] <;> rfl, HF.out.bl⟩
      · have hx46 := Lib.hid (show ¬ x = 46 from fun e => h46 (by rw [HBX.out, e]; rfl))
        by_cases hlo : bt s i < 48
        · skip
          have HV := Lib.hid (bad_ans h (HST.out.bad HPRE.out (by unfold isDig; have := HBX.out; simp; omega) (fun q => hx46.out q.1)))
          have SO := S.only
          have za := SO.c 0 0 rfl rfl; have zb := SO.c 0 1 rfl rfl; have zc := SO.f 0 0 rfl; have zd := SO.f 0 1 rfl
          have HF := Lib.hid (SO.put20 0 rfl (.int .i64 0) (.int .i64 0))
          clear S SO
          go_wp2_with fail
          exact bodyPost_ret (v := .tuple #[.agg #[.int .i64 0, .int .i64 0], .int .i64 4]) (by simp [results, Tryz.results17, go_sem, za, zb]) rfl ⟨by rw [HV.out.1, HV.out.2.1, HV.out.2.2] <;> rfl, HF.out.bl⟩
        · by_cases hhi : bt s i ≤ 57
          · obtain ⟨d, hd⟩ : ∃ d : Nat, x.toNat - 48 = d := ⟨_, rfl⟩
            have hd9 : d ≤ 9 := by have := HBX.out; omega
            have hd64 : d < B64 := by unfold B64; omega
            have hw8 : IntKind.u8.wrap (d : Int) = (d : Int) := by rw [IntKind.wrap_u8]; omega
            have hw64 : IntKind.u64.wrap (d : Int) = (d : Int) := by rw [IntKind.wrap_u64]; omega
            have hsub : bt s i - 48 = (d : Int) := by have := HBX.out; omega
            have HNX := Lib.hid (show St ((pB s.data.toList).take (i + 1 - f)) pt f (C * 10 + d) by
              rw [HTK.out, ← hd]
              exact HST.out.dig (by unfold isDig; have := HBX.out; simp; omega))
            clear hd
            obtain ⟨k, rfl⟩ : ∃ k : Nat, k = i := ⟨i, rfl⟩
            have HM10 := Lib.hid (show (digs (C * 10)).length ≤ 8 from digs_len 8 _ (by have := HC21.out; rw [show (1000 : Nat) ^ 8 = 10 ^ 21 * 1000 by decide]; omega))
            go_upto_region 15 with fail
            refine wp_region_rel 10 (MemAt w wr.heap.size [(w.heap.size, #[.int .i64 0, .int .i64 0]), (G, #[.bool false, .slice A n c])] [(A, n, c, digs C)])
              (fun i => List.getD [VE (.agg #[.bool false, .slice A n c]), VN (false) (10), VN (false) (C * 10), VE (.string s), VE (.int .i64 (k : Int)), VE (.int .u8 (bt s k)), VE (.int .u8 (d : Int)), VE (.int .u64 (d : Int)), VN (false) (d), VN (false) (C * 10 + d)] i (fun _ _ => False)) [] [3, 4, 5, 6, 7] (by kernel_rfl) (by kernel_rfl) S.at (fun _ _ h hb => h.grow hb)
              (stays_all (stays_cons (stays_VE _) (stays_cons (stays_VN _ _) (stays_cons (stays_VN _ _) (stays_cons (stays_VE _) (stays_cons (stays_VE _) (stays_cons (stays_VE _) (stays_cons (stays_VE _) (stays_cons (stays_VE _) (stays_cons (stays_VN _ _) (stays_cons (stays_VN _ _) stays_nil))))))))))) ⟨?_, ?_, ?_, ?_, ?_, ?_, ?_, ?_, ?_, ?_, trivial⟩ ?_
            · intro ev wv hE hw hd
              refine ifw rfl (ifn rfl ?_)
              have v8 : ev (.tmp 8) = .pointer (some ⟨G, 0, none⟩) := hE.tmp 8 rfl
              have kx := hw.m.c 1 0 rfl rfl
              have ky := hw.m.c 1 1 rfl rfl
              refine rel_val (u := .agg #[.bool false, .slice A n c]) (w' := wv) ?_ (Below.refl _ _) ⟨rfl, fun h => by cases h⟩
              have e1 := hE.const; clear hE hd hw
              go_simp
            · intro ev wv hE hw hd
              refine ifw rfl (ifn rfl ?_)
              refine rel_call (f := 25) (args := #[.int .u64 10]) ?_ (word_ten _) ?_
              · have e0 := hE.func; have e1 := hE.const; clear hE hd hw
                go_simp
              · rintro e w' ⟨A, k, c, rfl, R, hb⟩
                exact ⟨_, rfl, hb, ⟨A, k, c, rfl, R⟩, fun h => by cases h⟩
            · intro ev wv hE hw hd
              refine ifw rfl (ifn rfl ?_)
              have v59 : ev (.tmp 59) = .agg #[.bool false, .slice A n c] := hd 0 (by decide)
              obtain ⟨yA1, yk1, yc1, v60, yR1⟩ : VN (false) (10) (ev (.tmp 60)) wv := hd 1 (by decide)
              refine rel_call (f := 27) (args := #[.agg #[.bool false, .slice A n c], .agg #[.bool (false), .slice yA1 yk1 yc1]]) ?_ (nmul_nat _ _ _ _ _ _ C 10 _ (hw.m.r 0 rfl) yR1 (by omega) (by have := row_le (k := 1) yR1 (by decide); omega)) ?_
              · have e0 := hE.func; have e1 := hE.const; clear hE hd hw
                go_simp
              · rintro e w' ⟨A, k, c, rfl, R, hb⟩
                exact ⟨_, rfl, hb, ⟨A, k, c, rfl, R⟩, fun h => by cases h⟩
            · intro ev wv hE hw hd
              refine ifw rfl (ifw rfl ?_)
              have v0 : ev (.tmp 0) = .string s := hE.tmp 0 rfl
              refine ⟨.string s, fun w => ?_, rfl⟩
              have e1 := hE.const; have e2 := hE.func; clear hE hd hw
              go_simp
            · intro ev wv hE hw hd
              refine ifw rfl (ifw rfl ?_)
              have v4 : ev (.tmp 4) = .int .i64 (k : Int) := hE.tmp 4 rfl
              refine ⟨.int .i64 (k : Int), fun w => ?_, rfl⟩
              have e1 := hE.const; have e2 := hE.func; clear hE hd hw
              go_simp
            · intro ev wv hE hw hd
              refine ifw rfl (ifw rfl ?_)
              have v62 : ev (.tmp 62) = .string s := hd 3 (by decide)
              have v63 : ev (.tmp 63) = .int .i64 (k : Int) := hd 4 (by decide)
              refine ⟨.int .u8 (bt s k), fun w => ?_, rfl⟩
              have e1 := hE.const; have e2 := hE.func; clear hE hd hw
              go_simp
            · intro ev wv hE hw hd
              refine ifw rfl (ifw rfl ?_)
              have v64 : ev (.tmp 64) = .int .u8 (bt s k) := hd 5 (by decide)
              refine ⟨.int .u8 (d : Int), fun w => ?_, rfl⟩
              have e1 := hE.const; have e2 := hE.func; clear hE hd hw
              go_simp
            · intro ev wv hE hw hd
              refine ifw rfl (ifw rfl ?_)
              have v65 : ev (.tmp 65) = .int .u8 (d : Int) := hd 6 (by decide)
              refine ⟨.int .u64 (d : Int), fun w => ?_, rfl⟩
              have e1 := hE.const; have e2 := hE.func; clear hE hd hw
              go_simp
            · intro ev wv hE hw hd
              refine ifw rfl (ifn rfl ?_)
              have v66 : ev (.tmp 66) = .int .u64 (d : Int) := hd 7 (by decide)
              refine rel_call (f := 25) (args := #[.int .u64 (d : Int)]) ?_ (word_any d _ hd64) ?_
              · have e0 := hE.func; have e1 := hE.const; clear hE hd hw
                go_simp
              · rintro e w' ⟨A, k, c, rfl, R, hb⟩
                exact ⟨_, rfl, hb, ⟨A, k, c, rfl, R⟩, fun h => by cases h⟩
            · intro ev wv hE hw hd
              refine ifw rfl (ifn rfl ?_)
              obtain ⟨yA2, yk2, yc2, v61, yR2⟩ : VN (false) (C * 10) (ev (.tmp 61)) wv := hd 2 (by decide)
              obtain ⟨yA8, yk8, yc8, v67, yR8⟩ : VN (false) (d) (ev (.tmp 67)) wv := hd 8 (by decide)
              refine rel_call (f := 26) (args := #[.agg #[.bool (false), .slice yA2 yk2 yc2], .agg #[.bool (false), .slice yA8 yk8 yc8]]) ?_ (nadd_nat _ _ _ _ _ _ (C * 10) d _ yR2 yR8 (by have := yR2.len; have := HM10.out; omega) (by have := row_le (k := 1) yR8 (by omega); omega)) ?_
              · have e0 := hE.func; have e1 := hE.const; clear hE hd hw
                go_simp
              · rintro e w' ⟨A, k, c, rfl, R, hb⟩
                exact ⟨_, rfl, hb, ⟨A, k, c, rfl, R⟩, fun h => by cases h⟩
            · intro w3 M3
              intro v0 h0 _ v1 h1 _ v2 h2 _ v3 h3 _ v4 h4 _ v5 h5 _ v6 h6 _ v7 h7 _ v8 h8 _ v9 h9 _
              simp only [Act.put, List.setIfInBounds_toArray, List.set_cons_zero, List.set_cons_succ, List.drop_succ_cons, List.drop_zero]
              obtain rfl : v0 = _ := h0
              obtain ⟨yA1, yk1, yc1, rfl, yR1⟩ : VN (false) (10) v1 w3 := h1
              obtain ⟨yA2, yk2, yc2, rfl, yR2⟩ : VN (false) (C * 10) v2 w3 := h2
              obtain rfl : v3 = _ := h3
              obtain rfl : v4 = _ := h4
              obtain rfl : v5 = _ := h5
              obtain rfl : v6 = _ := h6
              obtain rfl : v7 = _ := h7
              obtain ⟨yA8, yk8, yc8, rfl, yR8⟩ : VN (false) (d) v8 w3 := h8
              obtain ⟨yA9, yk9, yc9, rfl, yR9⟩ : VN (false) (C * 10 + d) v9 w3 := h9
              change wpList Tryz.prog _ _ _ _ w3
              have SF := M3.m.add yR9
              have f0 := SF.c 1 0 rfl rfl; have f1 := SF.c 1 1 rfl rfl; have f2 := SF.f 1 0 rfl; have f3 := SF.f 1 1 rfl
              have M4 := SF.put2 1 rfl rfl (.bool false) (.slice yA9 yk9 yc9) rfl
              have HM6 := Lib.hid ((M4.only).add (M4.r 1 rfl))
              clear SF yR1 yR2 yR8 yR9 M3 S M4
              go_wp2_with fail
              refine calm_normal ?_
              go_wp2_with fail
              exact ⟨⟨k + 1, _, _, _, _, _, by simp, rfl, by omega, by omega, HNX, HM6.out⟩, by simp [intOf]; omega⟩
          · skip
            have HV := Lib.hid (bad_ans h (HST.out.bad HPRE.out (by unfold isDig; have := HBX.out; simp; omega) (fun q => hx46.out q.1)))
            have SO := S.only
            have za := SO.c 0 0 rfl rfl; have zb := SO.c 0 1 rfl rfl; have zc := SO.f 0 0 rfl; have zd := SO.f 0 1 rfl
            have HF := Lib.hid (SO.put20 0 rfl (.int .i64 0) (.int .i64 0))
            clear S SO
            go_wp2_with fail
            exact bodyPost_ret (v := .tuple #[.agg #[.int .i64 0, .int .i64 0], .int .i64 4]) (by simp [results, Tryz.results17, go_sem, za, zb]) rfl ⟨by rw [HV.out.1, HV.out.2.1, HV.out.2.2] <;> rfl, HF.out.bl⟩
    · have hiz : i = s.size := by omega
      have hbl : (pB s.data.toList).length = s.size - f := by rw [body_len, size_len, HN.out, HFF.out]
      have HE := Lib.hid (show St (pB s.data.toList) pt f C by
        have := HST.out
        rw [List.take_of_length_le (by rw [hbl]; omega)] at this
        exact this)
      have HBL := Lib.hid hbl
      clear HST hbl
      by_cases hpt : pt < 0
      · obtain ⟨o1, o2, o3⟩ := HE.out.end0 hpt
        have HO := Lib.hid o1
        have HPV := Lib.hid o2
        have HPP := Lib.hid (show (pP s.data.toList).length = 0 by rw [o3]; rfl)
        have HD := Lib.hid (show allD (pB s.data.toList) = true by
          rcases HE.out with ⟨_, hd, _⟩ | ⟨a, d, _, _, _, _, e, _⟩
          · exact hd
          · omega)
        clear o1 o2 o3
        by_cases hf0 : f < s.size
        · obtain ⟨x, hbx, hpre, _⟩ := body_at (s := s) (f := f) (i := f) (by rw [HN.out]; exact HFF.out) (Nat.le_refl _) hf0
          rw [Nat.sub_self] at hpre
          have HX := Lib.hid (show pB s.data.toList = x :: (pB s.data.toList).drop 1 from hpre)
          have HBX := Lib.hid hbx
          have hbf := hb f hf0
          clear hpre hbx
          by_cases h48 : bt s f = 48
          · have HX48 := Lib.hid (show x = 48 from UInt8.toNat_inj.1 (by have := HBX.out; have e : (48 : UInt8).toNat = 48 := rfl; omega))
            by_cases hlong : f + 1 < s.size
            · have hl' : (f : Int) + 1 < (s.size : Int) := by omega
              have HV := Lib.hid (bad_ans h (by rw [HO.out, HX.out, HX48.out, isWh_long (fun e => by have h1 := HBL.out; rw [HX.out, e] at h1; simp at h1; omega)]; simp))
              have SO := S.only
              have za := SO.c 0 0 rfl rfl; have zb := SO.c 0 1 rfl rfl; have zc := SO.f 0 0 rfl; have zd := SO.f 0 1 rfl
              have HF := Lib.hid (SO.put20 0 rfl (.int .i64 0) (.int .i64 0))
              clear S SO
              go_wp2_with fail
              exact bodyPost_ret (v := .tuple #[.agg #[.int .i64 0, .int .i64 0], .int .i64 4]) (by simp [results, Tryz.results17, go_sem, za, zb]) rfl ⟨by rw [HV.out.1, HV.out.2.1, HV.out.2.2] <;> rfl, HF.out.bl⟩
            · have hl' : ¬ (f : Int) + 1 < (s.size : Int) := by omega
              have HB1 := Lib.hid (show pB s.data.toList = [48] by
                have h1 := HBL.out
                rw [HX.out] at h1 ⊢
                rw [HX48.out]
                have : ((pB s.data.toList).drop 1).length = 0 := by simp at h1 ⊢; omega
                rw [List.length_eq_zero_iff.1 this])
              cases nb with
              | true =>
                have hm : (s.toList == [45, 48]) = true := by
                  rw [Lib.toList_data, (body_sgn s.data.toList).1, HB1.out, HN.out]; rfl
                have HV := Lib.hid (bad_ans h (by rw [HO.out, ← Lib.toList_data, bne, hm]; rfl))
                have SO := S.only
                have za := SO.c 0 0 rfl rfl; have zb := SO.c 0 1 rfl rfl; have zc := SO.f 0 0 rfl; have zd := SO.f 0 1 rfl
                have HF := Lib.hid (SO.put20 0 rfl (.int .i64 0) (.int .i64 0))
                clear S SO
                go_wp2_with fail
                exact bodyPost_ret (v := .tuple #[.agg #[.int .i64 0, .int .i64 0], .int .i64 4]) (by simp [results, Tryz.results17, go_sem, za, zb]) rfl ⟨by rw [HV.out.1, HV.out.2.1, HV.out.2.2] <;> rfl, HF.out.bl⟩
              | false =>
                have hm : (s.toList == [45, 48]) = false := by
                  rw [Lib.toList_data, (body_sgn s.data.toList).1, HB1.out, HN.out]; rfl
                have HOK := Lib.hid (show pOk s.data.toList = true by
                  rw [HO.out, HB1.out, ← Lib.toList_data, bne, hm]; rfl)
                have hz := Lib.hid (show pV s.data.toList = (C : Int) by rw [HPV.out, HN.out]; rfl)
                by_cases hf : -9223372036854775808 ≤ (C : Int) ∧ (C : Int) ≤ 9223372036854775807
                · have HV := Lib.hid (good_ans h HOK.out hz.out HPP.out hf)
                  have x0 := S.c 1 0 rfl rfl; have x1 := S.c 1 1 rfl rfl
                  have HS6 := Lib.hid S
                  clear S
                  go_wp2_with fail
                  refine (nsmall_in false A n c (C : Int) _ (HS6.out.r 0 rfl) (by omega) (by unfold negB; simp) hf).mono ?_
                  rintro e w7 ⟨rfl, hb7⟩
                  have S7 := (HS6.out.keep hb7).only
                  clear HS6 hb7
                  have za := S7.c 0 0 rfl rfl; have zb := S7.c 0 1 rfl rfl; have zc := S7.f 0 0 rfl; have zd := S7.f 0 1 rfl
                  have HF := Lib.hid (S7.put20 0 rfl (.int .i64 (C : Int)) (.int .i64 0))
                  clear S7
                  go_wp2_with fail
                  exact bodyPost_ret (v := .tuple #[.agg #[.int .i64 (C : Int), .int .i64 0], .int .i64 0]) (by simp [results, Tryz.results17, go_sem, za, zb]) rfl ⟨by rw [HV.out.1, HV.out.2.1, HV.out.2.2] <;> rfl, HF.out.bl⟩
                · have HV := Lib.hid (over_ans h HOK.out hz.out hf)
                  have x0 := S.c 1 0 rfl rfl; have x1 := S.c 1 1 rfl rfl
                  have HS6 := Lib.hid S
                  clear S
                  go_wp2_with fail
                  refine (nsmall_out false A n c (C : Int) _ (HS6.out.r 0 rfl) (by omega) (by unfold negB; simp) hf).mono ?_
                  rintro e w7 ⟨rfl, hb7⟩
                  have S7 := (HS6.out.keep hb7).only
                  clear HS6 hb7
                  have za := S7.c 0 0 rfl rfl; have zb := S7.c 0 1 rfl rfl; have zc := S7.f 0 0 rfl; have zd := S7.f 0 1 rfl
                  have HF := Lib.hid (S7.put20 0 rfl (.int .i64 0) (.int .i64 0))
                  clear S7
                  go_wp2_with fail
                  exact bodyPost_ret (v := .tuple #[.agg #[.int .i64 0, .int .i64 0], .int .i64 11]) (by simp [results, Tryz.results17, go_sem, za, zb]) rfl ⟨by rw [HV.out.1, HV.out.2.1, HV.out.2.2] <;> rfl, HF.out.bl⟩
          · have HOKW := Lib.hid (show isWh (pB s.data.toList) = true by
              have h1 : (pB s.data.toList).isEmpty = false := by rw [HX.out]; rfl
              have h2 : ¬ (pB s.data.toList).head? = some 48 := by
                rw [HX.out]; intro e; simp at e; exact h48 (by rw [HBX.out, e]; rfl)
              unfold isWh
              rw [HD.out, h1]
              simp [h2])
            have hm : (s.toList == [45, 48]) = false := by
              rw [Lib.toList_data]
              rw [beq_eq_false_iff_ne]
              intro e
              have h1 := HX.out
              have e1 : pB s.data.toList = [48] := by rw [e]; rfl
              rw [e1] at h1
              simp at h1
              exact h48 (by rw [HBX.out, ← h1]; rfl)
            have HOK := Lib.hid (show pOk s.data.toList = true by
              rw [HO.out, HOKW.out, ← Lib.toList_data, bne, hm]; rfl)
            cases nb with
            | true =>
              have hz := Lib.hid (show pV s.data.toList = (-(C : Int)) by rw [HPV.out, HN.out]; rfl)
              by_cases hf : -9223372036854775808 ≤ (-(C : Int)) ∧ (-(C : Int)) ≤ 9223372036854775807
              · have HV := Lib.hid (good_ans h HOK.out hz.out HPP.out hf)
                have x0 := S.c 1 0 rfl rfl; have x1 := S.c 1 1 rfl rfl
                have hR := S.r 0 rfl
                go_wp2_with fail
                refine (nneg_any false A n c C (C : Int) _ hR (by omega) rfl).mono ?_
                rintro e w4 ⟨A4, n4, c4, rfl, R4, hb4⟩
                have hn4 : n4 ≤ 1000 := by have h1 := R4.len; rw [Int.natAbs_neg, Int.natAbs_natCast, hCn] at h1; omega
                have S4 := (S.keep hb4).add R4
                have f2 := S4.f 1 0 rfl; have f3 := S4.f 1 1 rfl; have f0 := S4.c 1 0 rfl rfl; have f1 := S4.c 1 1 rfl rfl
                have S5 := S4.put2 1 rfl rfl (.bool (negB (-(C : Int)))) (.slice A4 n4 c4) rfl
                have S6 := (S5.only).add (S5.r 1 rfl)
                have y0 := S6.c 1 0 rfl rfl; have y1 := S6.c 1 1 rfl rfl
                have HS6 := Lib.hid S6
                clear S S4 S5 S6 hR x0 x1 hb4 R4
                go_wp2_with fail
                refine (nsmall_in _ A4 n4 c4 (-(C : Int)) _ (HS6.out.r 0 rfl) hn4 rfl hf).mono ?_
                rintro e w7 ⟨rfl, hb7⟩
                have S7 := (HS6.out.keep hb7).only
                clear HS6 hb7
                have za := S7.c 0 0 rfl rfl; have zb := S7.c 0 1 rfl rfl; have zc := S7.f 0 0 rfl; have zd := S7.f 0 1 rfl
                have HF := Lib.hid (S7.put20 0 rfl (.int .i64 (-(C : Int))) (.int .i64 0))
                clear S7
                go_wp2_with fail
                exact bodyPost_ret (v := .tuple #[.agg #[.int .i64 (-(C : Int)), .int .i64 0], .int .i64 0]) (by simp [results, Tryz.results17, go_sem, za, zb]) rfl ⟨by rw [HV.out.1, HV.out.2.1, HV.out.2.2] <;> rfl, HF.out.bl⟩
              · have HV := Lib.hid (over_ans h HOK.out hz.out hf)
                have x0 := S.c 1 0 rfl rfl; have x1 := S.c 1 1 rfl rfl
                have hR := S.r 0 rfl
                go_wp2_with fail
                refine (nneg_any false A n c C (C : Int) _ hR (by omega) rfl).mono ?_
                rintro e w4 ⟨A4, n4, c4, rfl, R4, hb4⟩
                have hn4 : n4 ≤ 1000 := by have h1 := R4.len; rw [Int.natAbs_neg, Int.natAbs_natCast, hCn] at h1; omega
                have S4 := (S.keep hb4).add R4
                have f2 := S4.f 1 0 rfl; have f3 := S4.f 1 1 rfl; have f0 := S4.c 1 0 rfl rfl; have f1 := S4.c 1 1 rfl rfl
                have S5 := S4.put2 1 rfl rfl (.bool (negB (-(C : Int)))) (.slice A4 n4 c4) rfl
                have S6 := (S5.only).add (S5.r 1 rfl)
                have y0 := S6.c 1 0 rfl rfl; have y1 := S6.c 1 1 rfl rfl
                have HS6 := Lib.hid S6
                clear S S4 S5 S6 hR x0 x1 hb4 R4
                go_wp2_with fail
                refine (nsmall_out _ A4 n4 c4 (-(C : Int)) _ (HS6.out.r 0 rfl) hn4 rfl hf).mono ?_
                rintro e w7 ⟨rfl, hb7⟩
                have S7 := (HS6.out.keep hb7).only
                clear HS6 hb7
                have za := S7.c 0 0 rfl rfl; have zb := S7.c 0 1 rfl rfl; have zc := S7.f 0 0 rfl; have zd := S7.f 0 1 rfl
                have HF := Lib.hid (S7.put20 0 rfl (.int .i64 0) (.int .i64 0))
                clear S7
                go_wp2_with fail
                exact bodyPost_ret (v := .tuple #[.agg #[.int .i64 0, .int .i64 0], .int .i64 11]) (by simp [results, Tryz.results17, go_sem, za, zb]) rfl ⟨by rw [HV.out.1, HV.out.2.1, HV.out.2.2] <;> rfl, HF.out.bl⟩
            | false =>
              have hz := Lib.hid (show pV s.data.toList = (C : Int) by rw [HPV.out, HN.out]; rfl)
              by_cases hf : -9223372036854775808 ≤ (C : Int) ∧ (C : Int) ≤ 9223372036854775807
              · have HV := Lib.hid (good_ans h HOK.out hz.out HPP.out hf)
                have x0 := S.c 1 0 rfl rfl; have x1 := S.c 1 1 rfl rfl
                have HS6 := Lib.hid S
                clear S
                go_wp2_with fail
                refine (nsmall_in false A n c (C : Int) _ (HS6.out.r 0 rfl) (by omega) (by unfold negB; simp) hf).mono ?_
                rintro e w7 ⟨rfl, hb7⟩
                have S7 := (HS6.out.keep hb7).only
                clear HS6 hb7
                have za := S7.c 0 0 rfl rfl; have zb := S7.c 0 1 rfl rfl; have zc := S7.f 0 0 rfl; have zd := S7.f 0 1 rfl
                have HF := Lib.hid (S7.put20 0 rfl (.int .i64 (C : Int)) (.int .i64 0))
                clear S7
                go_wp2_with fail
                exact bodyPost_ret (v := .tuple #[.agg #[.int .i64 (C : Int), .int .i64 0], .int .i64 0]) (by simp [results, Tryz.results17, go_sem, za, zb]) rfl ⟨by rw [HV.out.1, HV.out.2.1, HV.out.2.2] <;> rfl, HF.out.bl⟩
              · have HV := Lib.hid (over_ans h HOK.out hz.out hf)
                have x0 := S.c 1 0 rfl rfl; have x1 := S.c 1 1 rfl rfl
                have HS6 := Lib.hid S
                clear S
                go_wp2_with fail
                refine (nsmall_out false A n c (C : Int) _ (HS6.out.r 0 rfl) (by omega) (by unfold negB; simp) hf).mono ?_
                rintro e w7 ⟨rfl, hb7⟩
                have S7 := (HS6.out.keep hb7).only
                clear HS6 hb7
                have za := S7.c 0 0 rfl rfl; have zb := S7.c 0 1 rfl rfl; have zc := S7.f 0 0 rfl; have zd := S7.f 0 1 rfl
                have HF := Lib.hid (S7.put20 0 rfl (.int .i64 0) (.int .i64 0))
                clear S7
                go_wp2_with fail
                exact bodyPost_ret (v := .tuple #[.agg #[.int .i64 0, .int .i64 0], .int .i64 11]) (by simp [results, Tryz.results17, go_sem, za, zb]) rfl ⟨by rw [HV.out.1, HV.out.2.1, HV.out.2.2] <;> rfl, HF.out.bl⟩
        · have hfe : s.size = f := by omega
          have hfe' : (s.size : Int) = (f : Int) := by omega
          have HV := Lib.hid (bad_ans h (by rw [HO.out, show pB s.data.toList = [] from List.length_eq_zero_iff.1 (by rw [HBL.out]; omega)]; simp [isWh]))
          have SO := S.only
          have za := SO.c 0 0 rfl rfl; have zb := SO.c 0 1 rfl rfl; have zc := SO.f 0 0 rfl; have zd := SO.f 0 1 rfl
          have HF := Lib.hid (SO.put20 0 rfl (.int .i64 0) (.int .i64 0))
          clear S SO
          go_wp2_with fail
          exact bodyPost_ret (v := .tuple #[.agg #[.int .i64 0, .int .i64 0], .int .i64 4]) (by simp [results, Tryz.results17, go_sem, za, zb]) rfl ⟨by rw [HV.out.1, HV.out.2.1, HV.out.2.2] <;> rfl, HF.out.bl⟩
      · obtain ⟨a, b, hab, had, hane, hbd, hpe, o1, o2, o3⟩ := HE.out.end1 (by omega)
        obtain ⟨T, hT⟩ : ∃ T, b.length = T := ⟨_, rfl⟩
        obtain ⟨P, hP⟩ : ∃ P, f + a.length = P := ⟨_, rfl⟩
        rw [hP] at hpe
        subst hpe
        have hal : 0 < a.length := by cases a with | nil => exact absurd rfl hane | cons _ _ => simp
        have hsz : s.size = P + 1 + T := by
          have h1 := HBL.out
          rw [hab] at h1
          simp at h1
          omega
        have HO := Lib.hid o1
        have HPV := Lib.hid o2
        have HPP := Lib.hid (show (pP s.data.toList).length = T by rw [o3]; exact hT)
        have HAB := Lib.hid hab
        have HT := Lib.hid hT
        have HAD := Lib.hid had
        have HBD := Lib.hid hbd
        have HAL := Lib.hid hP
        have HANE := Lib.hid hane
        have hPf : f < P := by omega
        have hPf' : (f : Int) < (P : Int) := by omega
        have hP0 : (0 : Int) ≤ (P : Int) := by omega
        have q1 : (s.size : Int) - (P : Int) - 1 = (T : Int) := by omega
        have q2 : (s.size : Int) - (P : Int) = (T : Int) + 1 := by omega
        have hf0 : f < s.size := by omega
        have HSZ := Lib.hid hsz
        clear hsz
        clear o1 o2 o3 hab hT had hbd hP hane hpt
        by_cases hT0 : T = 0
        · subst hT0
          have hb0 := Lib.hid (show b = [] from List.length_eq_zero_iff.1 HT.out)
          have HV := Lib.hid (bad_ans h (by rw [HO.out, hb0.out]; simp [isPl]))
          have SO := S.only
          have za := SO.c 0 0 rfl rfl; have zb := SO.c 0 1 rfl rfl; have zc := SO.f 0 0 rfl; have zd := SO.f 0 1 rfl
          have HF := Lib.hid (SO.put20 0 rfl (.int .i64 0) (.int .i64 0))
          clear S SO
          go_wp2_with fail
          exact bodyPost_ret (v := .tuple #[.agg #[.int .i64 0, .int .i64 0], .int .i64 4]) (by simp [results, Tryz.results17, go_sem, za, zb]) rfl ⟨by rw [HV.out.1, HV.out.2.1, HV.out.2.2] <;> rfl, HF.out.bl⟩
        · have hT0b : ((T : Int) == 0) = false := by rw [beq_eq_false_iff_ne]; omega
          by_cases hT9 : 9 < T
          · have hT9' : (9 : Int) < (T : Int) := by omega
            have HV := Lib.hid (bad_ans h (by rw [HO.out, isPl_long (by rw [HT.out]; omega)]; simp))
            have SO := S.only
            have za := SO.c 0 0 rfl rfl; have zb := SO.c 0 1 rfl rfl; have zc := SO.f 0 0 rfl; have zd := SO.f 0 1 rfl
            have HF := Lib.hid (SO.put20 0 rfl (.int .i64 0) (.int .i64 0))
            clear S SO
            go_wp2_with fail
            exact bodyPost_ret (v := .tuple #[.agg #[.int .i64 0, .int .i64 0], .int .i64 4]) (by simp [results, Tryz.results17, go_sem, za, zb]) rfl ⟨by rw [HV.out.1, HV.out.2.1, HV.out.2.2] <;> rfl, HF.out.bl⟩
          · have hT9' : ¬ (9 : Int) < (T : Int) := by omega
            obtain ⟨J, hJ⟩ : ∃ J, s.size - 1 = J := ⟨_, rfl⟩
            have hJl : J < s.size := by omega
            have hJ' : (s.size : Int) - 1 = (J : Int) := by omega
            have hbj := hb J hJl
            have HLB := Lib.hid (show (b.getLast? = some 48) ↔ bt s J = 48 by
              have h1 := last_bt (s := s) (by omega) 48
              rw [hJ] at h1
              have e48 : ((48 : UInt8).toNat : Int) = 48 := rfl
              rw [e48] at h1
              rw [← h1, (body_sgn s.data.toList).1, HAB.out]
              have hbne : b ≠ [] := fun e => hT0 (by rw [← HT.out, e]; rfl)
              have h2 : (sgnT (pN s.data.toList) ++ (a ++ 46 :: b)) = (sgnT (pN s.data.toList) ++ a ++ [46]) ++ b := by simp
              rw [h2, last_app hbne])
            clear hJ
            by_cases hl48 : bt s J = 48
            · skip
              have HV := Lib.hid (bad_ans h (by rw [HO.out, isPl_last (HLB.out.2 hl48)]; simp))
              have SO := S.only
              have za := SO.c 0 0 rfl rfl; have zb := SO.c 0 1 rfl rfl; have zc := SO.f 0 0 rfl; have zd := SO.f 0 1 rfl
              have HF := Lib.hid (SO.put20 0 rfl (.int .i64 0) (.int .i64 0))
              clear S SO
              go_wp2_with fail
              exact bodyPost_ret (v := .tuple #[.agg #[.int .i64 0, .int .i64 0], .int .i64 4]) (by simp [results, Tryz.results17, go_sem, za, zb]) rfl ⟨by rw [HV.out.1, HV.out.2.1, HV.out.2.2] <;> rfl, HF.out.bl⟩
            · have HPL := Lib.hid (show isPl b = true by
                have hbne : b.isEmpty = false := by
                  cases hbb : b with
                  | nil => exact absurd (by rw [← HT.out, hbb]; rfl) hT0
                  | cons _ _ => rfl
                have h2 : ¬ b.getLast? = some 48 := fun e => hl48 (HLB.out.1 e)
                have h3 : b.length ≤ 9 := by rw [HT.out]; omega
                unfold isPl
                rw [HBD.out, hbne]
                simp [h2, h3])
              have hm : (s.toList == [45, 48]) = false := by
                rw [Lib.toList_data, beq_eq_false_iff_ne]
                intro e
                have h1 : pB s.data.toList = [48] := by rw [e]; rfl
                rw [HAB.out] at h1
                have h2 := congrArg List.length h1
                simp at h2
                exact HANE.out (List.length_eq_zero_iff.1 (by omega))
              obtain ⟨x, hbx, hpre, _⟩ := body_at (s := s) (f := f) (i := f) (by rw [HN.out]; exact HFF.out) (Nat.le_refl _) hf0
              rw [Nat.sub_self] at hpre
              have HAX := Lib.hid (show ∃ r, a = x :: r by
                have h1 : pB s.data.toList = x :: (pB s.data.toList).drop 1 := hpre
                rw [HAB.out] at h1
                cases haa : a with
                | nil => exact absurd haa HANE.out
                | cons y r => rw [haa] at h1; simp at h1; exact ⟨r, by rw [h1]⟩)
              have HBX := Lib.hid hbx
              have hbf := hb f hf0
              clear hpre hbx
              by_cases h48 : bt s f = 48
              · have HX48 := Lib.hid (show x = 48 from UInt8.toNat_inj.1 (by have := HBX.out; have e : (48 : UInt8).toNat = 48 := rfl; omega))
                by_cases hlong : f + 1 < P
                · have hl' : (f : Int) + 1 < (P : Int) := by omega
                  have HV := Lib.hid (bad_ans h (by obtain ⟨r, hr⟩ := HAX.out; rw [HO.out, hr, HX48.out, isWh_long (fun e => by have h1 := HAL.out; rw [hr, e] at h1; simp at h1; omega)]; simp))
                  have SO := S.only
                  have za := SO.c 0 0 rfl rfl; have zb := SO.c 0 1 rfl rfl; have zc := SO.f 0 0 rfl; have zd := SO.f 0 1 rfl
                  have HF := Lib.hid (SO.put20 0 rfl (.int .i64 0) (.int .i64 0))
                  clear S SO
                  go_wp2_with fail
                  exact bodyPost_ret (v := .tuple #[.agg #[.int .i64 0, .int .i64 0], .int .i64 4]) (by simp [results, Tryz.results17, go_sem, za, zb]) rfl ⟨by rw [HV.out.1, HV.out.2.1, HV.out.2.2] <;> rfl, HF.out.bl⟩
                · have hl' : ¬ (f : Int) + 1 < (P : Int) := by omega
                  have HOK := Lib.hid (show pOk s.data.toList = true by
                    obtain ⟨r, hr⟩ := HAX.out
                    have h1 : r = [] := by
                      have := HAL.out
                      rw [hr] at this
                      simp at this
                      exact List.length_eq_zero_iff.1 (by omega)
                    rw [HO.out, HPL.out, ← Lib.toList_data, bne, hm, hr, h1, HX48.out]; rfl)
                  cases nb with
                  | true =>
                    have hz := Lib.hid (show pV s.data.toList = (-(C : Int)) by rw [HPV.out, HN.out]; rfl)
                    by_cases hf : -9223372036854775808 ≤ (-(C : Int)) ∧ (-(C : Int)) ≤ 9223372036854775807
                    · have HV := Lib.hid (good_ans h HOK.out hz.out HPP.out hf)
                      have x0 := S.c 1 0 rfl rfl; have x1 := S.c 1 1 rfl rfl
                      have hR := S.r 0 rfl
                      go_wp2_with fail
                      refine (nneg_any false A n c C (C : Int) _ hR (by omega) rfl).mono ?_
                      rintro e w4 ⟨A4, n4, c4, rfl, R4, hb4⟩
                      have hn4 : n4 ≤ 1000 := by have h1 := R4.len; rw [Int.natAbs_neg, Int.natAbs_natCast, hCn] at h1; omega
                      have S4 := (S.keep hb4).add R4
                      have f2 := S4.f 1 0 rfl; have f3 := S4.f 1 1 rfl; have f0 := S4.c 1 0 rfl rfl; have f1 := S4.c 1 1 rfl rfl
                      have S5 := S4.put2 1 rfl rfl (.bool (negB (-(C : Int)))) (.slice A4 n4 c4) rfl
                      have S6 := (S5.only).add (S5.r 1 rfl)
                      have y0 := S6.c 1 0 rfl rfl; have y1 := S6.c 1 1 rfl rfl
                      have HS6 := Lib.hid S6
                      clear S S4 S5 S6 hR x0 x1 hb4 R4
                      go_wp2_with fail
                      refine (nsmall_in _ A4 n4 c4 (-(C : Int)) _ (HS6.out.r 0 rfl) hn4 rfl hf).mono ?_
                      rintro e w7 ⟨rfl, hb7⟩
                      have S7 := (HS6.out.keep hb7).only
                      clear HS6 hb7
                      have za := S7.c 0 0 rfl rfl; have zb := S7.c 0 1 rfl rfl; have zc := S7.f 0 0 rfl; have zd := S7.f 0 1 rfl
                      have HF := Lib.hid (S7.put20 0 rfl (.int .i64 (-(C : Int))) (.int .i64 (T : Int)))
                      clear S7
                      go_wp2_with fail
                      exact bodyPost_ret (v := .tuple #[.agg #[.int .i64 (-(C : Int)), .int .i64 (T : Int)], .int .i64 0]) (by simp [results, Tryz.results17, go_sem, za, zb]) rfl ⟨by rw [HV.out.1, HV.out.2.1, HV.out.2.2] <;> rfl, HF.out.bl⟩
                    · have HV := Lib.hid (over_ans h HOK.out hz.out hf)
                      have x0 := S.c 1 0 rfl rfl; have x1 := S.c 1 1 rfl rfl
                      have hR := S.r 0 rfl
                      go_wp2_with fail
                      refine (nneg_any false A n c C (C : Int) _ hR (by omega) rfl).mono ?_
                      rintro e w4 ⟨A4, n4, c4, rfl, R4, hb4⟩
                      have hn4 : n4 ≤ 1000 := by have h1 := R4.len; rw [Int.natAbs_neg, Int.natAbs_natCast, hCn] at h1; omega
                      have S4 := (S.keep hb4).add R4
                      have f2 := S4.f 1 0 rfl; have f3 := S4.f 1 1 rfl; have f0 := S4.c 1 0 rfl rfl; have f1 := S4.c 1 1 rfl rfl
                      have S5 := S4.put2 1 rfl rfl (.bool (negB (-(C : Int)))) (.slice A4 n4 c4) rfl
                      have S6 := (S5.only).add (S5.r 1 rfl)
                      have y0 := S6.c 1 0 rfl rfl; have y1 := S6.c 1 1 rfl rfl
                      have HS6 := Lib.hid S6
                      clear S S4 S5 S6 hR x0 x1 hb4 R4
                      go_wp2_with fail
                      refine (nsmall_out _ A4 n4 c4 (-(C : Int)) _ (HS6.out.r 0 rfl) hn4 rfl hf).mono ?_
                      rintro e w7 ⟨rfl, hb7⟩
                      have S7 := (HS6.out.keep hb7).only
                      clear HS6 hb7
                      have za := S7.c 0 0 rfl rfl; have zb := S7.c 0 1 rfl rfl; have zc := S7.f 0 0 rfl; have zd := S7.f 0 1 rfl
                      have HF := Lib.hid (S7.put20 0 rfl (.int .i64 0) (.int .i64 0))
                      clear S7
                      go_wp2_with fail
                      exact bodyPost_ret (v := .tuple #[.agg #[.int .i64 0, .int .i64 0], .int .i64 11]) (by simp [results, Tryz.results17, go_sem, za, zb]) rfl ⟨by rw [HV.out.1, HV.out.2.1, HV.out.2.2] <;> rfl, HF.out.bl⟩
                  | false =>
                    have hz := Lib.hid (show pV s.data.toList = (C : Int) by rw [HPV.out, HN.out]; rfl)
                    by_cases hf : -9223372036854775808 ≤ (C : Int) ∧ (C : Int) ≤ 9223372036854775807
                    · have HV := Lib.hid (good_ans h HOK.out hz.out HPP.out hf)
                      have x0 := S.c 1 0 rfl rfl; have x1 := S.c 1 1 rfl rfl
                      have HS6 := Lib.hid S
                      clear S
                      go_wp2_with fail
                      refine (nsmall_in false A n c (C : Int) _ (HS6.out.r 0 rfl) (by omega) (by unfold negB; simp) hf).mono ?_
                      rintro e w7 ⟨rfl, hb7⟩
                      have S7 := (HS6.out.keep hb7).only
                      clear HS6 hb7
                      have za := S7.c 0 0 rfl rfl; have zb := S7.c 0 1 rfl rfl; have zc := S7.f 0 0 rfl; have zd := S7.f 0 1 rfl
                      have HF := Lib.hid (S7.put20 0 rfl (.int .i64 (C : Int)) (.int .i64 (T : Int)))
                      clear S7
                      go_wp2_with fail
                      exact bodyPost_ret (v := .tuple #[.agg #[.int .i64 (C : Int), .int .i64 (T : Int)], .int .i64 0]) (by simp [results, Tryz.results17, go_sem, za, zb]) rfl ⟨by rw [HV.out.1, HV.out.2.1, HV.out.2.2] <;> rfl, HF.out.bl⟩
                    · have HV := Lib.hid (over_ans h HOK.out hz.out hf)
                      have x0 := S.c 1 0 rfl rfl; have x1 := S.c 1 1 rfl rfl
                      have HS6 := Lib.hid S
                      clear S
                      go_wp2_with fail
                      refine (nsmall_out false A n c (C : Int) _ (HS6.out.r 0 rfl) (by omega) (by unfold negB; simp) hf).mono ?_
                      rintro e w7 ⟨rfl, hb7⟩
                      have S7 := (HS6.out.keep hb7).only
                      clear HS6 hb7
                      have za := S7.c 0 0 rfl rfl; have zb := S7.c 0 1 rfl rfl; have zc := S7.f 0 0 rfl; have zd := S7.f 0 1 rfl
                      have HF := Lib.hid (S7.put20 0 rfl (.int .i64 0) (.int .i64 0))
                      clear S7
                      go_wp2_with fail
                      exact bodyPost_ret (v := .tuple #[.agg #[.int .i64 0, .int .i64 0], .int .i64 11]) (by simp [results, Tryz.results17, go_sem, za, zb]) rfl ⟨by rw [HV.out.1, HV.out.2.1, HV.out.2.2] <;> rfl, HF.out.bl⟩
              · have HOK := Lib.hid (show pOk s.data.toList = true by
                  obtain ⟨r, hr⟩ := HAX.out
                  have h2 : ¬ a.head? = some 48 := by
                    rw [hr]; intro e; simp at e; exact h48 (by rw [HBX.out, e]; rfl)
                  have h3 : isWh a = true := by
                    have h4 : a.isEmpty = false := by rw [hr]; rfl
                    unfold isWh
                    rw [HAD.out, h4]
                    simp [h2]
                  rw [HO.out, HPL.out, ← Lib.toList_data, bne, hm, h3]; rfl)
                cases nb with
                | true =>
                  have hz := Lib.hid (show pV s.data.toList = (-(C : Int)) by rw [HPV.out, HN.out]; rfl)
                  by_cases hf : -9223372036854775808 ≤ (-(C : Int)) ∧ (-(C : Int)) ≤ 9223372036854775807
                  · have HV := Lib.hid (good_ans h HOK.out hz.out HPP.out hf)
                    have x0 := S.c 1 0 rfl rfl; have x1 := S.c 1 1 rfl rfl
                    have hR := S.r 0 rfl
                    go_wp2_with fail
                    refine (nneg_any false A n c C (C : Int) _ hR (by omega) rfl).mono ?_
                    rintro e w4 ⟨A4, n4, c4, rfl, R4, hb4⟩
                    have hn4 : n4 ≤ 1000 := by have h1 := R4.len; rw [Int.natAbs_neg, Int.natAbs_natCast, hCn] at h1; omega
                    have S4 := (S.keep hb4).add R4
                    have f2 := S4.f 1 0 rfl; have f3 := S4.f 1 1 rfl; have f0 := S4.c 1 0 rfl rfl; have f1 := S4.c 1 1 rfl rfl
                    have S5 := S4.put2 1 rfl rfl (.bool (negB (-(C : Int)))) (.slice A4 n4 c4) rfl
                    have S6 := (S5.only).add (S5.r 1 rfl)
                    have y0 := S6.c 1 0 rfl rfl; have y1 := S6.c 1 1 rfl rfl
                    have HS6 := Lib.hid S6
                    clear S S4 S5 S6 hR x0 x1 hb4 R4
                    go_wp2_with fail
                    refine (nsmall_in _ A4 n4 c4 (-(C : Int)) _ (HS6.out.r 0 rfl) hn4 rfl hf).mono ?_
                    rintro e w7 ⟨rfl, hb7⟩
                    have S7 := (HS6.out.keep hb7).only
                    clear HS6 hb7
                    have za := S7.c 0 0 rfl rfl; have zb := S7.c 0 1 rfl rfl; have zc := S7.f 0 0 rfl; have zd := S7.f 0 1 rfl
                    have HF := Lib.hid (S7.put20 0 rfl (.int .i64 (-(C : Int))) (.int .i64 (T : Int)))
                    clear S7
                    go_wp2_with fail
                    exact bodyPost_ret (v := .tuple #[.agg #[.int .i64 (-(C : Int)), .int .i64 (T : Int)], .int .i64 0]) (by simp [results, Tryz.results17, go_sem, za, zb]) rfl ⟨by rw [HV.out.1, HV.out.2.1, HV.out.2.2] <;> rfl, HF.out.bl⟩
                  · have HV := Lib.hid (over_ans h HOK.out hz.out hf)
                    have x0 := S.c 1 0 rfl rfl; have x1 := S.c 1 1 rfl rfl
                    have hR := S.r 0 rfl
                    go_wp2_with fail
                    refine (nneg_any false A n c C (C : Int) _ hR (by omega) rfl).mono ?_
                    rintro e w4 ⟨A4, n4, c4, rfl, R4, hb4⟩
                    have hn4 : n4 ≤ 1000 := by have h1 := R4.len; rw [Int.natAbs_neg, Int.natAbs_natCast, hCn] at h1; omega
                    have S4 := (S.keep hb4).add R4
                    have f2 := S4.f 1 0 rfl; have f3 := S4.f 1 1 rfl; have f0 := S4.c 1 0 rfl rfl; have f1 := S4.c 1 1 rfl rfl
                    have S5 := S4.put2 1 rfl rfl (.bool (negB (-(C : Int)))) (.slice A4 n4 c4) rfl
                    have S6 := (S5.only).add (S5.r 1 rfl)
                    have y0 := S6.c 1 0 rfl rfl; have y1 := S6.c 1 1 rfl rfl
                    have HS6 := Lib.hid S6
                    clear S S4 S5 S6 hR x0 x1 hb4 R4
                    go_wp2_with fail
                    refine (nsmall_out _ A4 n4 c4 (-(C : Int)) _ (HS6.out.r 0 rfl) hn4 rfl hf).mono ?_
                    rintro e w7 ⟨rfl, hb7⟩
                    have S7 := (HS6.out.keep hb7).only
                    clear HS6 hb7
                    have za := S7.c 0 0 rfl rfl; have zb := S7.c 0 1 rfl rfl; have zc := S7.f 0 0 rfl; have zd := S7.f 0 1 rfl
                    have HF := Lib.hid (S7.put20 0 rfl (.int .i64 0) (.int .i64 0))
                    clear S7
                    go_wp2_with fail
                    exact bodyPost_ret (v := .tuple #[.agg #[.int .i64 0, .int .i64 0], .int .i64 11]) (by simp [results, Tryz.results17, go_sem, za, zb]) rfl ⟨by rw [HV.out.1, HV.out.2.1, HV.out.2.2] <;> rfl, HF.out.bl⟩
                | false =>
                  have hz := Lib.hid (show pV s.data.toList = (C : Int) by rw [HPV.out, HN.out]; rfl)
                  by_cases hf : -9223372036854775808 ≤ (C : Int) ∧ (C : Int) ≤ 9223372036854775807
                  · have HV := Lib.hid (good_ans h HOK.out hz.out HPP.out hf)
                    have x0 := S.c 1 0 rfl rfl; have x1 := S.c 1 1 rfl rfl
                    have HS6 := Lib.hid S
                    clear S
                    go_wp2_with fail
                    refine (nsmall_in false A n c (C : Int) _ (HS6.out.r 0 rfl) (by omega) (by unfold negB; simp) hf).mono ?_
                    rintro e w7 ⟨rfl, hb7⟩
                    have S7 := (HS6.out.keep hb7).only
                    clear HS6 hb7
                    have za := S7.c 0 0 rfl rfl; have zb := S7.c 0 1 rfl rfl; have zc := S7.f 0 0 rfl; have zd := S7.f 0 1 rfl
                    have HF := Lib.hid (S7.put20 0 rfl (.int .i64 (C : Int)) (.int .i64 (T : Int)))
                    clear S7
                    go_wp2_with fail
                    exact bodyPost_ret (v := .tuple #[.agg #[.int .i64 (C : Int), .int .i64 (T : Int)], .int .i64 0]) (by simp [results, Tryz.results17, go_sem, za, zb]) rfl ⟨by rw [HV.out.1, HV.out.2.1, HV.out.2.2] <;> rfl, HF.out.bl⟩
                  · have HV := Lib.hid (over_ans h HOK.out hz.out hf)
                    have x0 := S.c 1 0 rfl rfl; have x1 := S.c 1 1 rfl rfl
                    have HS6 := Lib.hid S
                    clear S
                    go_wp2_with fail
                    refine (nsmall_out false A n c (C : Int) _ (HS6.out.r 0 rfl) (by omega) (by unfold negB; simp) hf).mono ?_
                    rintro e w7 ⟨rfl, hb7⟩
                    have S7 := (HS6.out.keep hb7).only
                    clear HS6 hb7
                    have za := S7.c 0 0 rfl rfl; have zb := S7.c 0 1 rfl rfl; have zc := S7.f 0 0 rfl; have zd := S7.f 0 1 rfl
                    have HF := Lib.hid (S7.put20 0 rfl (.int .i64 0) (.int .i64 0))
                    clear S7
                    go_wp2_with fail
                    exact bodyPost_ret (v := .tuple #[.agg #[.int .i64 0, .int .i64 0], .int .i64 11]) (by simp [results, Tryz.results17, go_sem, za, zb]) rfl ⟨by rw [HV.out.1, HV.out.2.1, HV.out.2.2] <;> rfl, HF.out.bl⟩
end Go.Proofs.YtfceoehfellpgaaGreatDoor
