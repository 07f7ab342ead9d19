/- Contracts of corrodyref06: Span, ParseSpan. (Written by wip/gen/gendt3.py.) -/
import Derived.Test.YtmdmhookhkhdoaaDoorDt2
import Derived.Test.YtmdmhookhkhdoaaDoorRelMem
namespace Go.Proofs.YtmdmhookhkhdoaaDoor
set_option maxRecDepth 8000
open Go.RowKit Go.PlainAid Corr
set_option linter.unusedVariables false
set_option linter.unusedSimpArgs false
theorem dps_size (s : ByteArray) (w : World) (hs : s.size ≤ 100) (h : ¬ s.size = 22) : Calls Tryd.prog 14 #[.string s] w fun e w' => e = .returned (.tuple #[.agg #[.int .i64 (psA s.data.toList), .int .i64 (psB s.data.toList)], .int .i64 (psE s.data.toList)]) ∧ Below w.heap.size w w' := by
  have hsl := size_len s
  have HX := ps_form (l := s.data.toList) (by unfold psF; rw [hsl]; simp [h])
  rw [HX.1, HX.2.1, HX.2.2]
  clear HX hsl
  have S0 := (Mem.start w).push #[.int .i64 0, .int .i64 0] 23
  go_enter Tryd.func14, Tryd.ntmps14
  have za := S0.c 0 0 rfl rfl; have zb := S0.c 0 1 rfl rfl; have zc := S0.f 0 0 rfl; have zd := S0.f 0 1 rfl
  have HF := Lib.hid (S0.put20 0 rfl (.int .i64 0) (.int .i64 0)).bl
  have HS := Lib.hid S0.bl
  clear S0
  go_wp2_with fail
  exact bodyPost_ret (v := .tuple #[.agg #[.int .i64 0, .int .i64 0], .int .i64 4]) (by simp [results, Tryd.results14, go_sem, za, zb]) rfl ⟨rfl, by first | exact HF.out | exact HS.out⟩
theorem dps_points (s : ByteArray) (w : World) (h : s.size = 22) (h2 : ¬ (s.extract 10 12).data.toList = [46, 46]) : Calls Tryd.prog 14 #[.string s] w fun e w' => e = .returned (.tuple #[.agg #[.int .i64 (psA s.data.toList), .int .i64 (psB s.data.toList)], .int .i64 (psE s.data.toList)]) ∧ Below w.heap.size w w' := by
  have hsl := size_len s
  have e1 : (s.extract 10 12).data.toList = (s.data.toList.drop 10).take 2 := by rw [Lib.extract_data]
  have HX := ps_form (l := s.data.toList) (by unfold psF; rw [← e1, beq_eq_false_iff_ne.2 h2, Bool.and_false])
  rw [HX.1, HX.2.1, HX.2.2]
  have hq : ((s.extract 10 12).toList == [46, 46]) = false := by rw [Lib.toList_data]; simpa using h2
  clear HX hsl e1 h2
  have S0 := (Mem.start w).push #[.int .i64 0, .int .i64 0] 23
  go_enter Tryd.func14, Tryd.ntmps14
  have za := S0.c 0 0 rfl rfl; have zb := S0.c 0 1 rfl rfl; have zc := S0.f 0 0 rfl; have zd := S0.f 0 1 rfl
  have HF := Lib.hid (S0.put20 0 rfl (.int .i64 0) (.int .i64 0)).bl
  have HS := Lib.hid S0.bl
  clear S0
  go_wp2_with fail
  exact bodyPost_ret (v := .tuple #[.agg #[.int .i64 0, .int .i64 0], .int .i64 4]) (by simp [results, Tryd.results14, go_sem, za, zb]) rfl ⟨rfl, by first | exact HF.out | exact HS.out⟩
set_option maxHeartbeats 4000000 in
theorem dps_both (s : ByteArray) (w : World) (h : s.size = 22) (h2 : (s.extract 10 12).data.toList = [46, 46]) : Calls Tryd.prog 14 #[.string s] w fun e w' => e = .returned (.tuple #[.agg #[.int .i64 (psA s.data.toList), .int .i64 (psB s.data.toList)], .int .i64 (psE s.data.toList)]) ∧ Below w.heap.size w w' := by
  have hsl := size_len s
  have e1 : (s.extract 10 12).data.toList = (s.data.toList.drop 10).take 2 := by rw [Lib.extract_data]
  have hq : ((s.extract 10 12).toList == [46, 46]) = true := by rw [Lib.toList_data]; simpa using h2
  have hF : psF s.data.toList = true := by unfold psF; rw [← e1, h2, hsl, h]; rfl
  have e2 : (s.extract 0 10).data.toList = s.data.toList.take 10 := by rw [Lib.extract_data]; simp
  have e3 : (s.extract 12 22).data.toList = s.data.toList.drop 12 := by rw [Lib.extract_data, List.take_of_length_le (by rw [List.length_drop, hsl]; omega)]
  have HA := Lib.hid (fun w => dparse_any (s.extract 0 10) w (by rw [ByteArray.size_extract]; omega))
  have HB := Lib.hid (fun w => dparse_any (s.extract 12 22) w (by rw [ByteArray.size_extract]; omega))
  rw [e2] at HA; rw [e3] at HB
  have K1 := Lib.hid (fun h => ps_bad hF h)
  have K2 := Lib.hid (fun h h' => ps_span hF h h')
  have K3 := Lib.hid (fun h => ps_ok hF h)
  have B1 := pdE_cases (s.data.toList.take 10)
  have B2 := pdE_cases (s.data.toList.drop 12)
  have B4 := Lib.hid (fun h => pdN_ok (l := s.data.toList.drop 12) h)
  generalize pdE (s.data.toList.take 10) = e at *
  generalize pdE (s.data.toList.drop 12) = f at *
  generalize pdN (s.data.toList.take 10) = a at *
  generalize pdN (s.data.toList.drop 12) = b at *
  generalize psA s.data.toList = ra at *
  generalize psB s.data.toList = rb at *
  generalize psE s.data.toList = re at *
  clear e1 e2 e3 h2 hsl hF
  by_cases p1 : e = 4
  · obtain ⟨r1, r2, r3⟩ := K1.out (.inl p1)
    rw [r1, r2, r3]
    subst p1
    clear K1 K2 K3 B4 r1 r2 r3 B1 B2
    have S0 := (Mem.start w).push #[.int .i64 0, .int .i64 0] 23
    go_enter Tryd.func14, Tryd.ntmps14
    go_wp2_with fail
    refine (HA.out _).mono ?_
    rintro e w1 ⟨rfl, hb⟩
    have S1 := S0.keep hb
    clear S0 hb
    go_wp2_with fail
    refine (HB.out _).mono ?_
    rintro e w2 ⟨rfl, hb⟩
    have S2 := S1.keep hb
    clear S1 hb
    have za := S2.c 0 0 rfl rfl; have zb := S2.c 0 1 rfl rfl; have zc := S2.f 0 0 rfl; have zd := S2.f 0 1 rfl
    have HF := Lib.hid (S2.put20 0 rfl (.int .i64 0) (.int .i64 0)).bl
    have HS := Lib.hid S2.bl
    clear S2
    go_wp2_with fail
    exact bodyPost_ret (v := .tuple #[.agg #[.int .i64 0, .int .i64 0], .int .i64 4]) (by simp [results, Tryd.results14, go_sem, za, zb]) rfl ⟨rfl, by first | exact HF.out | exact HS.out⟩
  by_cases p2 : f = 4
  · obtain ⟨r1, r2, r3⟩ := K1.out (.inr p2)
    rw [r1, r2, r3]
    have d1 : (e == 4) = false := by simpa using p1
    subst p2
    clear K1 K2 K3 B4 r1 r2 r3 B1 B2 p1
    have S0 := (Mem.start w).push #[.int .i64 0, .int .i64 0] 23
    go_enter Tryd.func14, Tryd.ntmps14
    go_wp2_with fail
    refine (HA.out _).mono ?_
    rintro e w1 ⟨rfl, hb⟩
    have S1 := S0.keep hb
    clear S0 hb
    go_wp2_with fail
    refine (HB.out _).mono ?_
    rintro e w2 ⟨rfl, hb⟩
    have S2 := S1.keep hb
    clear S1 hb
    have za := S2.c 0 0 rfl rfl; have zb := S2.c 0 1 rfl rfl; have zc := S2.f 0 0 rfl; have zd := S2.f 0 1 rfl
    have HF := Lib.hid (S2.put20 0 rfl (.int .i64 0) (.int .i64 0)).bl
    have HS := Lib.hid S2.bl
    clear S2
    go_wp2_with fail
    exact bodyPost_ret (v := .tuple #[.agg #[.int .i64 0, .int .i64 0], .int .i64 4]) (by simp [results, Tryd.results14, go_sem, za, zb]) rfl ⟨rfl, by first | exact HF.out | exact HS.out⟩
  have d1 : (e == 4) = false := by simpa using p1
  have d2 : (f == 4) = false := by simpa using p2
  by_cases p3 : e = 0
  case neg =>
    obtain ⟨r1, r2, r3⟩ := K2.out (by omega) (by omega)
    rw [r1, r2, r3]
    have d3 : (e != 0) = true := by simpa using p3
    clear K1 K2 K3 B4 r1 r2 r3 B1 B2 p1 p2 p3
    have S0 := (Mem.start w).push #[.int .i64 0, .int .i64 0] 23
    go_enter Tryd.func14, Tryd.ntmps14
    go_wp2_with fail
    refine (HA.out _).mono ?_
    rintro e w1 ⟨rfl, hb⟩
    have S1 := S0.keep hb
    clear S0 hb
    go_wp2_with fail
    refine (HB.out _).mono ?_
    rintro e w2 ⟨rfl, hb⟩
    have S2 := S1.keep hb
    clear S1 hb
    have za := S2.c 0 0 rfl rfl; have zb := S2.c 0 1 rfl rfl; have zc := S2.f 0 0 rfl; have zd := S2.f 0 1 rfl
    have HF := Lib.hid (S2.put20 0 rfl (.int .i64 0) (.int .i64 0)).bl
    have HS := Lib.hid S2.bl
    clear S2
    go_wp2_with fail
    exact bodyPost_ret (v := .tuple #[.agg #[.int .i64 0, .int .i64 0], .int .i64 15]) (by simp [results, Tryd.results14, go_sem, za, zb]) rfl ⟨rfl, by first | exact HF.out | exact HS.out⟩
  by_cases p4 : f = 0
  case neg =>
    obtain ⟨r1, r2, r3⟩ := K2.out (by omega) (by omega)
    rw [r1, r2, r3]
    have d3 : (e != 0) = false := by simpa using p3
    have d4 : (f != 0) = true := by simpa using p4
    clear K1 K2 K3 B4 r1 r2 r3 B1 B2 p1 p2 p3 p4
    have S0 := (Mem.start w).push #[.int .i64 0, .int .i64 0] 23
    go_enter Tryd.func14, Tryd.ntmps14
    go_wp2_with fail
    refine (HA.out _).mono ?_
    rintro e w1 ⟨rfl, hb⟩
    have S1 := S0.keep hb
    clear S0 hb
    go_wp2_with fail
    refine (HB.out _).mono ?_
    rintro e w2 ⟨rfl, hb⟩
    have S2 := S1.keep hb
    clear S1 hb
    have za := S2.c 0 0 rfl rfl; have zb := S2.c 0 1 rfl rfl; have zc := S2.f 0 0 rfl; have zd := S2.f 0 1 rfl
    have HF := Lib.hid (S2.put20 0 rfl (.int .i64 0) (.int .i64 0)).bl
    have HS := Lib.hid S2.bl
    clear S2
    go_wp2_with fail
    exact bodyPost_ret (v := .tuple #[.agg #[.int .i64 0, .int .i64 0], .int .i64 15]) (by simp [results, Tryd.results14, go_sem, za, zb]) rfl ⟨rfl, by first | exact HF.out | exact HS.out⟩
  have d3 : (e != 0) = false := by simpa using p3
  have d4 : (f != 0) = false := by simpa using p4
  have hbb := B4.out p4
  by_cases p5 : b < a
  · obtain ⟨r1, r2, r3⟩ := K2.out (by omega) (by omega)
    rw [r1, r2, r3]
    clear K1 K2 K3 B4 r1 r2 r3 B1 B2 p1 p2 p3 p4
    have S0 := (Mem.start w).push #[.int .i64 0, .int .i64 0] 23
    go_enter Tryd.func14, Tryd.ntmps14
    go_wp2_with fail
    refine (HA.out _).mono ?_
    rintro e w1 ⟨rfl, hb⟩
    have S1 := S0.keep hb
    clear S0 hb
    go_wp2_with fail
    refine (HB.out _).mono ?_
    rintro e w2 ⟨rfl, hb⟩
    have S2 := S1.keep hb
    clear S1 hb
    have za := S2.c 0 0 rfl rfl; have zb := S2.c 0 1 rfl rfl; have zc := S2.f 0 0 rfl; have zd := S2.f 0 1 rfl
    have HF := Lib.hid (S2.put20 0 rfl (.int .i64 0) (.int .i64 0)).bl
    have HS := Lib.hid S2.bl
    clear S2
    go_wp2_with fail
    exact bodyPost_ret (v := .tuple #[.agg #[.int .i64 0, .int .i64 0], .int .i64 15]) (by simp [results, Tryd.results14, go_sem, za, zb]) rfl ⟨rfl, by first | exact HF.out | exact HS.out⟩
  · obtain ⟨r1, r2, r3⟩ := K3.out ⟨p3, p4, by omega⟩
    rw [r1, r2, r3]
    clear K1 K2 K3 B4 r1 r2 r3 B1 B2 p1 p2 p3 p4
    have S0 := (Mem.start w).push #[.int .i64 0, .int .i64 0] 23
    go_enter Tryd.func14, Tryd.ntmps14
    go_wp2_with fail
    refine (HA.out _).mono ?_
    rintro e w1 ⟨rfl, hb⟩
    have S1 := S0.keep hb
    clear S0 hb
    go_wp2_with fail
    refine (HB.out _).mono ?_
    rintro e w2 ⟨rfl, hb⟩
    have S2 := S1.keep hb
    clear S1 hb
    have za := S2.c 0 0 rfl rfl; have zb := S2.c 0 1 rfl rfl; have zc := S2.f 0 0 rfl; have zd := S2.f 0 1 rfl
    have HF := Lib.hid (S2.put20 0 rfl (.int .i64 a) (.int .i64 (b + 1))).bl
    have HS := Lib.hid S2.bl
    clear S2
    go_wp2_with fail
    exact bodyPost_ret (v := .tuple #[.agg #[.int .i64 a, .int .i64 (b + 1)], .int .i64 0]) (by simp [results, Tryd.results14, go_sem, za, zb]) rfl ⟨rfl, by first | exact HF.out | exact HS.out⟩
theorem dps_any (s : ByteArray) (w : World) (hs : s.size ≤ 100) : Calls Tryd.prog 14 #[.string s] w fun e w' => e = .returned (.tuple #[.agg #[.int .i64 (psA s.data.toList), .int .i64 (psB s.data.toList)], .int .i64 (psE s.data.toList)]) ∧ Below w.heap.size w w' := by
  by_cases h : s.size = 22
  · by_cases h2 : (s.extract 10 12).data.toList = [46, 46]
    · exact dps_both s w h h2
    · exact dps_points s w h h2
  · exact dps_size s w hs h
end Go.Proofs.YtmdmhookhkhdoaaDoor
