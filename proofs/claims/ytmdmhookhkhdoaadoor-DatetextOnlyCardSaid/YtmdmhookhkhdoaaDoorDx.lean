/- Contracts of package datetext: Parse, Text, Span, ParseSpan. (Written by wip/gen/gendx.py.) -/
import Derived.Test.YtmdmhookhkhdoaaDoorDn2
import Derived.Test.YtmdmhookhkhdoaaDoorDnMath
import Derived.Test.YtmdmhookhkhdoaaDoorCv2
import Derived.Test.YtmdmhookhkhdoaaDoorRelMem
import Derived.Lib.AtoiErrMem
namespace Corr
set_option maxRecDepth 8000
open Go Go.RowKit Go.PlainAid
/-- The variables that are read: the months' lengths are whole, and the library's number of bytes is some int. -/
structure DVars (a b : Nat) (w : World) : Prop where
  l : LVars a w
  m : ∃ m, w.cell? ⟨b, 0, none⟩ = some (.int .i64 m)
theorem DVars.keep {a b : Nat} {w w' : World} (h : DVars a b w) (hb : Below w.heap.size w w') : DVars a b w' := by
  obtain ⟨hl, m, hm⟩ := h
  exact ⟨hl.keep hb, m, by rw [hb.cell (Lib.lt_of_cell hm)]; exact hm⟩
theorem ps_bd (l : List UInt8) : 0 ≤ psA l ∧ psA l ≤ 3652059 ∧ 0 ≤ psB l ∧ psB l ≤ 3652060 := by
  have k : ∀ l, 0 ≤ pdN l ∧ pdN l ≤ 3652059 := fun l => by
    by_cases h : pdE l = 0
    · have := pdN_ok h; omega
    · rw [pdN_no h]; omega
  have a := k (l.take 10); have b := k (l.drop 12)
  unfold psA psB
  split <;> omega
theorem dayL_none {n : Int} (h : n < 1 ∨ 3652059 < n) : mkS (dayL n) = ⟨#[]⟩ := by rw [dayL_no h]
theorem dayL_some {n : Int} (h1 : 1 ≤ n) (h2 : n ≤ 3652059) : ¬ (⟨#[]⟩ : ByteArray) = mkS (dayL n) := by
  intro e
  have := dayL_len h1 h2
  have e2 : (⟨#[]⟩ : ByteArray).data.toList = (mkS (dayL n)).data.toList := by rw [e]
  have e2 : [] = dayL n := e2
  rw [← e2] at this
  cases this
theorem fixd_some (k n : Nat) : ¬ (⟨#[]⟩ : ByteArray) = mkS (fixd (k + 1) n) := by
  intro e
  have := fixd_len (k + 1) n
  have e2 : (⟨#[]⟩ : ByteArray).data.toList = (mkS (fixd (k + 1) n)).data.toList := by rw [e]
  have e2 : [] = fixd (k + 1) n := e2
  rw [← e2] at this
  cases this
/-- Three cells of strings. -/
theorem cells3s {w : World} {k : Nat} {a b c : ByteArray} (h : Blk w k #[.string a, .string b, .string c]) : ∀ (j : Nat) x, [a, b, c][j]? = some x → w.cell? ⟨k, 0 + j, none⟩ = some (.string x) := by
  intro j x hx
  rw [Nat.zero_add]
  rcases j with _ | _ | _ | j
  · obtain rfl : a = x := by simpa using hx
    exact h.c30
  · obtain rfl : b = x := by simpa using hx
    exact h.c31
  · obtain rfl : c = x := by simpa using hx
    exact h.c32
  · simp at hx
theorem cells2s {w : World} {k : Nat} {a b : ByteArray} (h : Blk w k #[.string a, .string b]) : ∀ (j : Nat) x, [a, b][j]? = some x → w.cell? ⟨k, 0 + j, none⟩ = some (.string x) := by
  intro j x hx
  rw [Nat.zero_add]
  rcases j with _ | _ | j
  · obtain rfl : a = x := by simpa using hx
    exact h.get 0 rfl
  · obtain rfl : b = x := by simpa using hx
    exact h.get 1 rfl
  · simp at hx
end Corr
namespace Go.Proofs.YtmdmhookhkhdoaaDoor
set_option maxRecDepth 8000
open Go.RowKit Go.PlainAid Corr
set_option linter.unusedVariables false
set_option linter.unusedSimpArgs false
abbrev DV (w : World) : Prop := DVars 0 1 w
theorem xnum_any (s : ByteArray) (w : World) : Calls Tryd.prog 20 #[.string s] w (RetNum s w) := by
  by_cases h : s.size = 10
  · exact xnum_ten s w h
  · refine (xnum_long s w h).mono ?_
    rintro e w' ⟨rfl, hb⟩
    have hf : dfB s.data.toList = false := by
      cases hd : dfB s.data.toList with
      | false => rfl
      | true => exact absurd ((size_len s).symm.trans (dfB_iff.1 hd).1) h
    refine ⟨0, 0, 0, by rw [hf], (fun e => by rw [hf] at e; cases e), hb⟩
set_option maxHeartbeats 2000000 in
theorem pparse_any (s : ByteArray) (w : World) (g : DV w) (hs : s.size ≤ 100) : Calls Tryd.prog 10 #[.string s] w fun e w' => e = .returned (.tuple #[.int .i64 (pdN s.data.toList), .int .i64 (pdE s.data.toList)]) ∧ Below w.heap.size w w' := by
  have HN := Lib.hid (xnum_any s w)
  obtain ⟨F, hF⟩ : ∃ z, dfB s.data.toList = z := ⟨_, rfl⟩
  obtain ⟨N, hN⟩ : ∃ z, pdN s.data.toList = z := ⟨_, rfl⟩
  obtain ⟨E, hE⟩ : ∃ z, pdE s.data.toList = z := ⟨_, rfl⟩
  have HNE := Lib.hid (And.intro hN hE)
  have HF := Lib.hid hF
  have G := Lib.hid g
  rw [hN, hE]
  clear hN hE g
  unfold RetNum at HN
  rw [hF] at HN
  clear hF
  go_enter Tryd.func10, Tryd.ntmps10
  go_wp2_with fail
  refine HN.out.mono ?_
  rintro e w1 ⟨y, m, d, rfl, hv, b1⟩
  have HV := Lib.hid hv
  have HB := Lib.hid (b1.trans (((Below.refl w1.heap.size w1).alloc (Nat.le_refl _) (.cells #[.int .i64 y, .int .i64 m, .int .i64 d] 41)).mono b1.size))
  have HC := Lib.hid (Blk.new w1 #[.int .i64 y, .int .i64 m, .int .i64 d] 41)
  have x0 := HC.out.c30; have x1 := HC.out.c31; have x2 := HC.out.c32
  clear hv b1
  cases F with
  | false =>
    obtain ⟨z1, z2⟩ := pd_form HF.out
    have HZ := Lib.hid (And.intro (HNE.out.2.symm.trans z1) (HNE.out.1.symm.trans z2))
    clear z1 z2
    go_wp2_with fail
    refine bodyPost_ret (v := .tuple #[.int .i64 0, .int .i64 4]) (by simp [results, Tryd.results10, go_sem]) rfl ⟨?_, HB.out⟩
    rw [HZ.out.1, HZ.out.2]
  | true =>
    obtain ⟨v1, v2, v3⟩ := HV.out rfl
    have HV1 := Lib.hid v1
    have HV2 := Lib.hid v2
    have HV3 := Lib.hid v3
    by_cases hd : 1 ≤ d ∧ d ≤ lenI y m
    · have HD := Lib.hid (fun (w' : World) (b : Below w.heap.size w w') => cday_ok y m d w' (G.out.keep b).l hd.1 hd.2)
      obtain ⟨z1, z2⟩ := pd_day HF.out (by rw [← HV1.out, ← HV2.out, ← HV3.out]; exact hd)
      rw [HNE.out.2] at z1
      rw [HNE.out.1, ← HV1.out, ← HV2.out, ← HV3.out] at z2
      rw [← z2] at HD
      have HZ := Lib.hid z1
      clear v1 v2 v3 z1 z2 hd
      go_wp2_with fail
      refine (HD.out _ HB.out).mono ?_
      rintro e w2 ⟨rfl, rfl⟩
      go_wp2_with fail
      refine bodyPost_ret (v := .tuple #[.int .i64 N, .int .i64 0]) (by simp [results, Tryd.results10, go_sem]) rfl ⟨?_, HB.out⟩
      rw [HZ.out]
    · have HD := Lib.hid (fun (w' : World) (b : Below w.heap.size w w') => cday_no y m d w' (G.out.keep b).l (by omega))
      obtain ⟨z1, z2⟩ := pd_none HF.out (by rw [← HV1.out, ← HV2.out, ← HV3.out]; exact hd)
      have HZ := Lib.hid (And.intro (HNE.out.2.symm.trans z1) (HNE.out.1.symm.trans z2))
      clear v1 v2 v3 z1 z2 hd
      go_wp2_with fail
      refine (HD.out _ HB.out).mono ?_
      rintro e w2 ⟨rfl, rfl⟩
      go_wp2_with fail
      refine bodyPost_ret (v := .tuple #[.int .i64 0, .int .i64 15]) (by simp [results, Tryd.results10, go_sem]) rfl ⟨?_, HB.out⟩
      rw [HZ.out.1, HZ.out.2]
set_option maxHeartbeats 2000000 in
theorem ptext_any (n : Int) (w : World) (g : DV w) : Calls Tryd.prog 6 #[.int .i64 n] w fun e w' => e = .returned (.string (mkS (dayL n))) ∧ Below w.heap.size w w' := by
  by_cases h : 1 ≤ n ∧ n ≤ 3652059
  · have HD := Lib.hid (cdate_ok n w g.l h.1 h.2)
    clear h
    go_enter Tryd.func6, Tryd.ntmps6
    go_wp2_with fail
    refine HD.out.mono ?_
    rintro e w1 ⟨y, m, d, rfl, h1, rfl⟩
    obtain ⟨y1, y2, m1, m2⟩ := lenI_pos (show 1 ≤ lenI y m by have := h1.1; have := h1.2.1; omega)
    have hl := lenI_bd y m
    obtain ⟨Y, rfl⟩ : ∃ Y : Nat, y = (Y : Int) := ⟨y.toNat, by omega⟩
    obtain ⟨M, rfl⟩ : ∃ M : Nat, m = (M : Int) := ⟨m.toNat, by omega⟩
    obtain ⟨D, rfl⟩ : ∃ D : Nat, d = (D : Int) := ⟨d.toNat, by have := h1.1; omega⟩
    have HY := Lib.hid (fun w => xdig_any Y 4 w (by omega) (by omega))
    have HM := Lib.hid (fun w => xdig_any M 2 w (by omega) (by omega))
    have HDD := Lib.hid (fun w => xdig_any D 2 w (by have := h1.2.1; omega) (by omega))
    have HR := Lib.hid (show mkS (Lib.join ([mkS (fixd 4 Y), mkS (fixd 2 M), mkS (fixd 2 D)].map (·.data.toList)) (⟨#[45]⟩ : ByteArray).data.toList) = mkS (dayL n) by
      rw [dayL_eq h1]
      unfold dayT
      simp [Lib.join, List.intercalate])
    have HW := Lib.hid (Blk.new w #[.string (mkS (fixd 4 Y)), .string (mkS (fixd 2 M)), .string (mkS (fixd 2 D))] 9)
    have HJ := Lib.hid (xjoin_all ⟨#[45]⟩ w.heap.size 0 3 3 [mkS (fixd 4 Y), mkS (fixd 2 M), mkS (fixd 2 D)] (w.alloc (.cells #[.string (mkS (fixd 4 Y)), .string (mkS (fixd 2 M)), .string (mkS (fixd 2 D))] 9)) rfl (by omega) (by omega) HW.out.sz (cells3s HW.out) (by
        intro hm
        rcases List.mem_cons.1 hm with e | hm
        · exact fixd_some 3 Y e
        · rcases List.mem_cons.1 hm with e | hm
          · exact fixd_some 1 M e
          · exact fixd_some 1 D (List.mem_singleton.1 hm)) (by simp [Lib.join, List.intercalate, fixd_len]))
    rw [HR.out] at HJ
    have HBB := Lib.hid ((Below.refl w.heap.size w).alloc (Nat.le_refl _) (.cells #[.string (mkS (fixd 4 Y)), .string (mkS (fixd 2 M)), .string (mkS (fixd 2 D))] 9))
    clear h1 hl
    go_wp2_with fail
    refine (HY.out _).mono ?_
    rintro e w2 ⟨rfl, rfl⟩
    go_wp2_with fail
    refine (HM.out _).mono ?_
    rintro e w3 ⟨rfl, rfl⟩
    go_wp2_with fail
    refine (HDD.out _).mono ?_
    rintro e w4 ⟨rfl, rfl⟩
    go_wp2_with fail
    refine HJ.out.mono ?_
    rintro e w5 ⟨rfl, b5⟩
    have HB := Lib.hid (HBB.out.trans (b5.mono HBB.out.size))
    go_wp2_with fail
    go_ret
    exact ⟨rfl, HB.out⟩
  · have HD := Lib.hid (cdate_no n w (by omega))
    have HR := Lib.hid (dayL_none (n := n) (by omega))
    clear h
    go_enter Tryd.func6, Tryd.ntmps6
    go_wp2_with fail
    refine HD.out.mono ?_
    rintro e w1 ⟨rfl, rfl⟩
    go_wp2_with fail
    go_ret
    exact ⟨congrArg (fun x => Ending.returned (.string x)) HR.out.symm, Below.refl _ _⟩
theorem pspan_no (a b : Int) (w : World) (h : b ≤ a) : Calls Tryd.prog 7 #[.agg #[.int .i64 a, .int .i64 b]] w fun e w' => e = .returned (.string (mkS (spanL a b))) ∧ Below w.heap.size w w' := by
  have HR := Lib.hid (show (⟨#[]⟩ : ByteArray) = mkS (spanL a b) by unfold spanL; rw [if_pos (by omega)])
  have d1 : decide (a ≥ b) = true := decide_eq_true h
  clear h
  have S0 := (Mem.start w).push #[.int .i64 a, .int .i64 b] 23
  have x0_0 := S0.c 0 0 rfl rfl
  have x0_1 := S0.c 0 1 rfl rfl
  have HB := Lib.hid S0.bl
  clear S0
  go_enter Tryd.func7, Tryd.ntmps7
  go_wp2_with fail
  go_ret
  exact ⟨congrArg (fun x => Ending.returned (.string x)) HR.out, HB.out⟩
set_option maxHeartbeats 4000000 in
theorem pspan_yes (a b : Int) (w : World) (g : DV w) (q1 : -9223372036854775808 ≤ a) (q2 : b ≤ 9223372036854775807) (h2 : a < b) : Calls Tryd.prog 7 #[.agg #[.int .i64 a, .int .i64 b]] w fun e w' => e = .returned (.string (mkS (spanL a b))) ∧ Below w.heap.size w w' := by
  have HT := Lib.hid (fun n w g => ptext_any n w g)
  have d1 : decide (a ≥ b) = false := decide_eq_false (by omega)
  have hwb : IntKind.i64.wrap (b - 1) = b - 1 := IntWalk.i64_in _ (by omega)
  have HJ0 := Lib.hid (fun (k : Nat) (w : World) (B : Blk w k #[.string (mkS (dayL a)), .string (mkS (dayL (b - 1)))]) => show Calls Tryd.prog 16 #[.string ⟨#[46, 46]⟩, .slice (some ⟨k, 0, none⟩) 2 2] w fun e w' => e = .returned (.string (mkS (spanL a b))) ∧ Below w.heap.size w w' by
    by_cases hin : 1 ≤ a ∧ b ≤ 3652060
    · have hR : mkS (Lib.join ([mkS (dayL a), mkS (dayL (b - 1))].map (·.data.toList)) (⟨#[46, 46]⟩ : ByteArray).data.toList) = mkS (spanL a b) := by
        unfold spanL
        rw [if_neg (by omega)]
        simp [Lib.join, List.intercalate]
      have := xjoin_all ⟨#[46, 46]⟩ k 0 2 2 [mkS (dayL a), mkS (dayL (b - 1))] w rfl (by omega) (by omega) B.sz (cells2s B) (by
          intro hm
          rcases List.mem_cons.1 hm with e | hm
          · exact dayL_some (n := a) (by omega) (by omega) e
          · exact dayL_some (n := b - 1) (by omega) (by omega) (List.mem_singleton.1 hm)) (by
          have l1 := dayL_len (n := a) (by omega) (by omega); have l2 := dayL_len (n := b - 1) (by omega) (by omega)
          simp [Lib.join, List.intercalate, l1, l2])
      rw [hR] at this
      exact this
    · have hR : (⟨#[]⟩ : ByteArray) = mkS (spanL a b) := by unfold spanL; rw [if_pos (by omega)]
      have := xjoin_none ⟨#[46, 46]⟩ k 0 2 2 [mkS (dayL a), mkS (dayL (b - 1))] w rfl (by omega) (cells2s B) (by
          by_cases ha : 1 ≤ a
          · exact List.mem_cons_of_mem _ (List.mem_singleton.2 (dayL_none (n := b - 1) (by omega)).symm)
          · exact List.mem_cons.2 (.inl (dayL_none (n := a) (by omega)).symm))
      rw [hR] at this
      refine this.mono ?_
      rintro e w' ⟨rfl, rfl⟩
      exact ⟨rfl, Below.refl _ _⟩)
  obtain ⟨A, hA⟩ : ∃ A, mkS (dayL a) = A := ⟨_, rfl⟩
  obtain ⟨B, hB⟩ : ∃ B, mkS (dayL (b - 1)) = B := ⟨_, rfl⟩
  have HA := Lib.hid (fun (w' : World) (b : Below w.heap.size w w') => HT.out a w' (g.keep b))
  have HB := Lib.hid (fun (w' : World) (b0 : Below w.heap.size w w') => HT.out (b - 1) w' (g.keep b0))
  rw [hA] at HA HJ0
  rw [hB] at HB HJ0
  obtain ⟨C, hC⟩ : ∃ C, mkS (spanL a b) = C := ⟨_, rfl⟩
  rw [hC] at HJ0 ⊢
  clear HT hA hB hC g
  have S0 := (Mem.start w).push #[.int .i64 a, .int .i64 b] 23
  have x0_0 := S0.c 0 0 rfl rfl
  have x0_1 := S0.c 0 1 rfl rfl
  go_enter Tryd.func7, Tryd.ntmps7
  go_upto_region 3 with fail
  refine wp_region_rel 7 (MemAt w (w.alloc (.cells #[.int .i64 a, .int .i64 b] 23)).heap.size [(w.heap.size, #[.int .i64 a, .int .i64 b])] [])
    (fun i => List.getD [VE (.pointer (some ⟨w.heap.size, 0, none⟩)), VE (.int .i64 a), VE (.string A), VE (.pointer (some ⟨w.heap.size, 1, none⟩)), VE (.int .i64 b), VE (.int .i64 (b - 1)), VE (.string B)] i (fun _ _ => False)) [] [0, 3, 5] (by kernel_rfl) (by kernel_rfl) S0.at (fun _ _ h hb => h.grow hb)
    (stays_all (stays_cons (stays_VE _) (stays_cons (stays_VE _) (stays_cons (stays_VE _) (stays_cons (stays_VE _) (stays_cons (stays_VE _) (stays_cons (stays_VE _) (stays_cons (stays_VE _) stays_nil)))))))) ⟨?_, ?_, ?_, ?_, ?_, ?_, ?_, trivial⟩ ?_
  · intro ev wv hE hw hd
    refine ifw rfl (ifw rfl ?_)
    have v1 : ev (.tmp 1) = .pointer (some ⟨w.heap.size, 0, none⟩) := hE.tmp 1 rfl
    refine ⟨.pointer (some ⟨w.heap.size, 0, none⟩), fun w => ?_, rfl⟩
    have e1 := hE.const; have e2 := hE.func; clear hE hd hw
    go_simp
  · intro ev wv hE hw hd
    refine ifw rfl (ifn rfl ?_)
    have v8 : ev (.tmp 8) = .pointer (some ⟨w.heap.size, 0, none⟩) := hd 0 (by decide)
    have kx := hw.m.c 0 0 rfl rfl
    refine rel_val (u := .int .i64 a) (w' := wv) ?_ (Below.refl _ _) ⟨rfl, fun h => by cases h⟩
    have e1 := hE.const; clear hE hd hw
    go_simp
  · intro ev wv hE hw hd
    refine ifw rfl (ifn rfl ?_)
    have v9 : ev (.tmp 9) = .int .i64 a := hd 1 (by decide)
    refine rel_call (f := 6) (args := #[.int .i64 a]) ?_ (HA.out _ hw.m.bl) ?_
    · have e0 := hE.func; have e1 := hE.const; clear hE hd hw
      go_simp
    · rintro e w' ⟨rfl, hb⟩
      exact ⟨_, rfl, hb, rfl, fun h => by cases h⟩
  · intro ev wv hE hw hd
    refine ifw rfl (ifw rfl ?_)
    have v1 : ev (.tmp 1) = .pointer (some ⟨w.heap.size, 0, none⟩) := hE.tmp 1 rfl
    refine ⟨.pointer (some ⟨w.heap.size, 1, none⟩), fun w => ?_, rfl⟩
    have e1 := hE.const; have e2 := hE.func; clear hE hd hw
    go_simp
  · intro ev wv hE hw hd
    refine ifw rfl (ifn rfl ?_)
    have v11 : ev (.tmp 11) = .pointer (some ⟨w.heap.size, 1, none⟩) := hd 3 (by decide)
    have kx := hw.m.c 0 1 rfl rfl
    refine rel_val (u := .int .i64 b) (w' := wv) ?_ (Below.refl _ _) ⟨rfl, fun h => by cases h⟩
    have e1 := hE.const; clear hE hd hw
    go_simp
  · intro ev wv hE hw hd
    refine ifw rfl (ifw rfl ?_)
    have v12 : ev (.tmp 12) = .int .i64 b := hd 4 (by decide)
    refine ⟨.int .i64 (b - 1), fun w => ?_, rfl⟩
    have e1 := hE.const; have e2 := hE.func; clear hE hd hw
    go_simp
  · intro ev wv hE hw hd
    refine ifw rfl (ifn rfl ?_)
    have v13 : ev (.tmp 13) = .int .i64 (b - 1) := hd 5 (by decide)
    refine rel_call (f := 6) (args := #[.int .i64 (b - 1)]) ?_ (HB.out _ hw.m.bl) ?_
    · have e0 := hE.func; have e1 := hE.const; clear hE hd hw
      go_simp
    · rintro e w' ⟨rfl, hb⟩
      exact ⟨_, rfl, hb, rfl, fun h => by cases h⟩
  · intro wz hw
    intro v0 h0 _ v1 h1 _ v2 h2 _ v3 h3 _ v4 h4 _ v5 h5 _ v6 h6 _
    simp only [Act.put, List.setIfInBounds_toArray, List.set_cons_zero, List.set_cons_succ, List.drop_succ_cons, List.drop_zero]
    obtain rfl : v0 = _ := h0
    obtain rfl : v1 = _ := h1
    obtain rfl : v2 = _ := h2
    obtain rfl : v3 = _ := h3
    obtain rfl : v4 = _ := h4
    obtain rfl : v5 = _ := h5
    obtain rfl : v6 = _ := h6
    change wpList Tryd.prog _ _ _ _ wz
    have HBL := Lib.hid hw.m.bl
    clear hw S0 x0_0 x0_1
    have HK := Lib.hid (Blk.new wz #[.string A, .string B] 9)
    have HBB := Lib.hid (HBL.out.trans (((Below.refl wz.heap.size wz).alloc (Nat.le_refl _) (.cells #[.string A, .string B] 9)).mono HBL.out.size))
    go_wp2_with fail
    refine (HJ0.out _ _ HK.out).mono ?_
    rintro e w5 ⟨rfl, b5⟩
    have HB5 := Lib.hid (HBB.out.trans (b5.mono HBB.out.size))
    clear b5
    go_wp2_with fail
    refine calm_normal ?_
    go_wp2_with fail
    go_ret
    exact ⟨rfl, HB5.out⟩
theorem pspan_any (a b : Int) (w : World) (g : DV w) (q1 : -9223372036854775808 ≤ a) (q2 : b ≤ 9223372036854775807) : Calls Tryd.prog 7 #[.agg #[.int .i64 a, .int .i64 b]] w fun e w' => e = .returned (.string (mkS (spanL a b))) ∧ Below w.heap.size w w' := by
  by_cases h : b ≤ a
  · exact pspan_no a b w h
  · exact pspan_yes a b w g q1 q2 (by omega)
set_option maxHeartbeats 4000000 in
theorem pps_any (s : ByteArray) (w : World) (g : DV w) (hs : s.size ≤ 100) : Calls Tryd.prog 11 #[.string s] w fun e w' => e = .returned (.tuple #[.agg #[.int .i64 (psA s.data.toList), .int .i64 (psB s.data.toList)], .int .i64 (psE s.data.toList)]) ∧ Below w.heap.size w w' := by
  obtain ⟨a, b, f, hc⟩ : ∃ a b f, Lib.cut s.data.toList [46, 46] = (a, b, f) := ⟨_, _, _, rfl⟩
  have HP := Lib.hid (ps_cut hc)
  have hl := cut_len s.data.toList
  rw [hc, size_len] at hl
  have la : (mkS a).size ≤ 100 := by have : a.length ≤ s.size := hl.1; rw [← size_len, ba_data]; omega
  have lb : (mkS b).size ≤ 100 := by have : b.length ≤ s.size := hl.2; rw [← size_len, ba_data]; omega
  have HC := Lib.hid (fun (w : World) (g : DV w) => show Calls Tryd.prog 22 #[.string s, .string ⟨#[46, 46]⟩] w fun e w' => e = .returned (.tuple #[.string (mkS a), .string (mkS b), .bool f]) ∧ Below w.heap.size w w' by
    obtain ⟨m, hm⟩ := g.m
    have := Tryd.strings_Cut s ⟨#[46, 46]⟩ m w (by omega) hm
    rw [show (⟨#[46, 46]⟩ : ByteArray).data.toList = [46, 46] from rfl, hc] at this
    refine this.mono ?_
    rintro e w' ⟨rfl, n, rfl⟩
    exact ⟨rfl, Joins.below_draws _ _ _⟩)
  have HA := Lib.hid (fun w g => pparse_any (mkS a) w g la)
  have HB := Lib.hid (fun w g => pparse_any (mkS b) w g lb)
  rw [ba_data] at HA HB
  have kb : ∀ l, 0 ≤ pdN l ∧ pdN l ≤ 3652059 := fun l => by
    by_cases h : pdE l = 0
    · have := pdN_ok h; omega
    · rw [pdN_no h]; omega
  have n1 := kb a; have n2 := kb b
  obtain ⟨x, hx⟩ : ∃ z, pdN a = z := ⟨_, rfl⟩
  obtain ⟨y, hy⟩ : ∃ z, pdN b = z := ⟨_, rfl⟩
  obtain ⟨E, hE⟩ : ∃ z, pdE a = z := ⟨_, rfl⟩
  obtain ⟨F, hF⟩ : ∃ z, pdE b = z := ⟨_, rfl⟩
  obtain ⟨pa, hpa⟩ : ∃ z, psA s.data.toList = z := ⟨_, rfl⟩
  obtain ⟨pb, hpb⟩ : ∃ z, psB s.data.toList = z := ⟨_, rfl⟩
  obtain ⟨pe, hpe⟩ : ∃ z, psE s.data.toList = z := ⟨_, rfl⟩
  rw [hx, hE] at HA
  rw [hy, hF] at HB
  rw [hx, hy, hE, hF, hpa, hpb, hpe] at HP
  rw [hx] at n1; rw [hy] at n2
  rw [hpa, hpb, hpe]
  clear hx hy hE hF hpa hpb hpe kb hc hl la lb
  have hw1 : IntKind.i64.wrap (y + 1) = y + 1 := IntWalk.i64_in _ (by omega)
  have HG := Lib.hid (fun (w' : World) (b : Below w.heap.size w w') => g.keep b)
  have S0 := (Mem.start w).push #[.int .i64 0, .int .i64 0] 23
  clear g
  go_enter Tryd.func11, Tryd.ntmps11
  go_wp2_with fail
  refine (HC.out _ (HG.out _ S0.bl)).mono ?_
  rintro e w1 ⟨rfl, b1⟩
  have S1 := S0.keep b1
  clear b1 S0
  go_wp2_with fail
  refine (HA.out _ (HG.out _ S1.bl)).mono ?_
  rintro e w2 ⟨rfl, b2⟩
  have S2 := S1.keep b2
  clear b2 S1
  go_wp2_with fail
  refine (HB.out _ (HG.out _ S2.bl)).mono ?_
  rintro e w3 ⟨rfl, b3⟩
  have S3 := S2.keep b3
  clear b3 S2
  rcases HP.out with ⟨h1, e1, e2, e3⟩ | ⟨h1, h2, e1, e2, e3⟩ | ⟨h1, h2, h3, e1, e2, e3⟩
  · subst e1 e2 e3
    by_cases hE4 : E = 4
    · subst hE4
      have S4 := S3.put20 0 rfl (.int .i64 0) (.int .i64 0)
      have xa := S3.c 0 0 rfl rfl; have xb := S3.c 0 1 rfl rfl; have ya := S3.f 0 0 rfl; have yb := S3.f 0 1 rfl
      have za := S4.c 0 0 rfl rfl; have zb := S4.c 0 1 rfl rfl
      have HBL := Lib.hid S4.bl
      have HB3 := Lib.hid S3.bl
      clear S3 S4
      go_wp2_with fail
      exact bodyPost_ret (v := .tuple #[.agg #[.int .i64 0, .int .i64 0], .int .i64 4]) (by simp [results, Tryd.results11, go_sem, za, zb, xa, xb]) rfl ⟨rfl, by first | exact HBL.out | exact HB3.out⟩
    · have q1 : (E == 4) = false := by simp; omega
      obtain rfl : F = 4 := h1.resolve_left hE4
      have S4 := S3.put20 0 rfl (.int .i64 0) (.int .i64 0)
      have xa := S3.c 0 0 rfl rfl; have xb := S3.c 0 1 rfl rfl; have ya := S3.f 0 0 rfl; have yb := S3.f 0 1 rfl
      have za := S4.c 0 0 rfl rfl; have zb := S4.c 0 1 rfl rfl
      have HBL := Lib.hid S4.bl
      have HB3 := Lib.hid S3.bl
      clear S3 S4
      go_wp2_with fail
      exact bodyPost_ret (v := .tuple #[.agg #[.int .i64 0, .int .i64 0], .int .i64 4]) (by simp [results, Tryd.results11, go_sem, za, zb, xa, xb]) rfl ⟨rfl, by first | exact HBL.out | exact HB3.out⟩
  · subst e1 e2 e3
    have q1 : (E == 4) = false := by simp; omega
    have q2 : (F == 4) = false := by simp; omega
    by_cases k1 : E = 0
    · subst k1
      by_cases k2 : F = 0
      · subst k2
        have k3 : decide (y < x) = true := decide_eq_true (by omega)
        have S4 := S3.put20 0 rfl (.int .i64 0) (.int .i64 0)
        have xa := S3.c 0 0 rfl rfl; have xb := S3.c 0 1 rfl rfl; have ya := S3.f 0 0 rfl; have yb := S3.f 0 1 rfl
        have za := S4.c 0 0 rfl rfl; have zb := S4.c 0 1 rfl rfl
        have HBL := Lib.hid S4.bl
        have HB3 := Lib.hid S3.bl
        clear S3 S4
        go_wp2_with fail
        exact bodyPost_ret (v := .tuple #[.agg #[.int .i64 0, .int .i64 0], .int .i64 15]) (by simp [results, Tryd.results11, go_sem, za, zb, xa, xb]) rfl ⟨rfl, by first | exact HBL.out | exact HB3.out⟩
      · have k4 : (F != 0) = true := by simp; omega
        have S4 := S3.put20 0 rfl (.int .i64 0) (.int .i64 0)
        have xa := S3.c 0 0 rfl rfl; have xb := S3.c 0 1 rfl rfl; have ya := S3.f 0 0 rfl; have yb := S3.f 0 1 rfl
        have za := S4.c 0 0 rfl rfl; have zb := S4.c 0 1 rfl rfl
        have HBL := Lib.hid S4.bl
        have HB3 := Lib.hid S3.bl
        clear S3 S4
        go_wp2_with fail
        exact bodyPost_ret (v := .tuple #[.agg #[.int .i64 0, .int .i64 0], .int .i64 15]) (by simp [results, Tryd.results11, go_sem, za, zb, xa, xb]) rfl ⟨rfl, by first | exact HBL.out | exact HB3.out⟩
    · have k4 : (E != 0) = true := by simp; omega
      have S4 := S3.put20 0 rfl (.int .i64 0) (.int .i64 0)
      have xa := S3.c 0 0 rfl rfl; have xb := S3.c 0 1 rfl rfl; have ya := S3.f 0 0 rfl; have yb := S3.f 0 1 rfl
      have za := S4.c 0 0 rfl rfl; have zb := S4.c 0 1 rfl rfl
      have HBL := Lib.hid S4.bl
      have HB3 := Lib.hid S3.bl
      clear S3 S4
      go_wp2_with fail
      exact bodyPost_ret (v := .tuple #[.agg #[.int .i64 0, .int .i64 0], .int .i64 15]) (by simp [results, Tryd.results11, go_sem, za, zb, xa, xb]) rfl ⟨rfl, by first | exact HBL.out | exact HB3.out⟩
  · subst h1 h2 e1 e2 e3
    have k3 : decide (y < pa) = false := decide_eq_false (by omega)
    have S4 := S3.put20 0 rfl (.int .i64 pa) (.int .i64 (y + 1))
    have xa := S3.c 0 0 rfl rfl; have xb := S3.c 0 1 rfl rfl; have ya := S3.f 0 0 rfl; have yb := S3.f 0 1 rfl
    have za := S4.c 0 0 rfl rfl; have zb := S4.c 0 1 rfl rfl
    have HBL := Lib.hid S4.bl
    have HB3 := Lib.hid S3.bl
    clear S3 S4
    go_wp2_with fail
    exact bodyPost_ret (v := .tuple #[.agg #[.int .i64 pa, .int .i64 (y + 1)], .int .i64 0]) (by simp [results, Tryd.results11, go_sem, za, zb, xa, xb]) rfl ⟨rfl, by first | exact HBL.out | exact HB3.out⟩
end Go.Proofs.YtmdmhookhkhdoaaDoor
