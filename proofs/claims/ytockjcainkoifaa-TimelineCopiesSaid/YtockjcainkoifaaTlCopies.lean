/- The law TimelineCopies. (Written by wip/gen/gentlcopies.py.) -/
import Derived.Test.YtockjcainkoifaaTlPlays
namespace Go.Proofs.Ytockjcainkoifaa
set_option maxRecDepth 8000
open Go.RowKit Corr
set_option linter.unusedVariables false
set_option linter.unusedSimpArgs false
theorem tlcopies_long {Rep : RepL} (K : TlK Rep) (A : Option Addr) (N c : Nat) (l : ItL) (A2 : Option Addr) (N2 c2 : Nat) (l2 : ItL) (a b v : Int) (w : World) (Rl : Itm w A N c l) (Rm : Itm w A2 N2 c2 l2) (hN : ¬ N ≤ 40) : Calls Try.prog 4 #[.slice A N c, .slice A2 N2 c2, .agg #[.int .i64 a, .int .i64 b, .int .i64 v]] w fun e w' => e = .returned (.bool true) ∧ Below w.heap.size w w' := by
  have d0 : decide ((N : Int) > 40) = true := decide_eq_true (by omega)
  have HK := Lib.hid K
  have HB := Lib.hid ((Below.refl w.heap.size w).alloc (Nat.le_refl _) (.cells #[.int .i64 a, .int .i64 b, .int .i64 v] 33))
  clear K hN Rl Rm
  go_enter Try.func4, Try.ntmps4
  go_wp2_with fail
  refine (tlknown_any HK.out _).mono ?_
  rintro e w9 ⟨rfl, b9⟩
  have HB9 := Lib.hid (HB.out.trans (b9.mono HB.out.size))
  clear b9
  go_wp2_with fail
  go_ret
  exact ⟨rfl, HB9.out⟩
theorem tlcopies_long2 {Rep : RepL} (K : TlK Rep) (A : Option Addr) (N c : Nat) (l : ItL) (A2 : Option Addr) (N2 c2 : Nat) (l2 : ItL) (a b v : Int) (w : World) (Rl : Itm w A N c l) (Rm : Itm w A2 N2 c2 l2) (hN : N ≤ 40) (hN2 : ¬ N2 ≤ 40) : Calls Try.prog 4 #[.slice A N c, .slice A2 N2 c2, .agg #[.int .i64 a, .int .i64 b, .int .i64 v]] w fun e w' => e = .returned (.bool true) ∧ Below w.heap.size w w' := by
  have d0 : decide ((N : Int) > 40) = false := decide_eq_false (by omega)
  have d1 : decide ((N2 : Int) > 40) = true := decide_eq_true (by omega)
  have HK := Lib.hid K
  have HB := Lib.hid ((Below.refl w.heap.size w).alloc (Nat.le_refl _) (.cells #[.int .i64 a, .int .i64 b, .int .i64 v] 33))
  clear K hN Rl Rm
  go_enter Try.func4, Try.ntmps4
  go_wp2_with fail
  refine (tlknown_any HK.out _).mono ?_
  rintro e w9 ⟨rfl, b9⟩
  have HB9 := Lib.hid (HB.out.trans (b9.mono HB.out.size))
  clear b9
  go_wp2_with fail
  go_ret
  exact ⟨rfl, HB9.out⟩
set_option maxRecDepth 100000 in
set_option maxHeartbeats 16000000 in
theorem tlcopies_main {Rep : RepL} (K : TlK Rep) (A : Option Addr) (N c : Nat) (l : ItL) (A2 : Option Addr) (N2 c2 : Nat) (l2 : ItL) (a b v : Int) (w : World) (Rl : Itm w A N c l) (Rm : Itm w A2 N2 c2 l2) (hN : N ≤ 40) (hN2 : N2 ≤ 40) : Calls Try.prog 4 #[.slice A N c, .slice A2 N2 c2, .agg #[.int .i64 a, .int .i64 b, .int .i64 v]] w fun e w' => e = .returned (.bool true) ∧ Below w.heap.size w w' := by
  have d0 : decide ((N : Int) > 40) = false := decide_eq_false (by omega)
  have d1 : decide ((N2 : Int) > 40) = false := decide_eq_false (by omega)
  have HK := Lib.hid K
  have HR := Lib.hid Rl
  have HRm := Lib.hid Rm
  have HS0 := Lib.hid ((Sep.nil w).push #[.int .i64 a, .int .i64 b, .int .i64 v] 33)
  clear K Rl Rm
  go_enter Try.func4, Try.ntmps4
  go_wp2_with fail
  refine (sep_tmake HK.out HS0.out).mono ?_
  rintro e w1 ⟨qa, rfl, s1⟩
  have HSa := Lib.hid s1
  clear s1
  go_wp2_with fail
  refine (sep_tmake HK.out HSa.out).mono ?_
  rintro e w2 ⟨qb, rfl, s2⟩
  have s3 := s2.addDoc 45 31
  have s4 := s3.addDoc 45 31
  simp only [size_alloc, List.nil_append, List.cons_append] at s4
  obtain ⟨g, hg⟩ : ∃ g, w2.heap.size = g := ⟨_, rfl⟩
  have HSz := Lib.hid (show Sep w [blkT w.heap.size #[.int .i64 a, .int .i64 b, .int .i64 v], tlT HK.out.toTlOk (.pointer (some qa)) 0 (atL []), tlT HK.out.toTlOk (.pointer (some qb)) 0 (atL []), dT g [], dT (g + 1) []] ((w2.alloc (.cells #[.slice none 0 0] 31)).alloc (.cells #[.slice none 0 0] 31)) from by rw [← hg]; exact s4)
  clear s2 s3 s4
  go_wp2_with fail
  go_loopw [33] (fun u wr => ∃ (k : Nat) (m : ItL), u = .int .i64 (k : Int) ∧ k ≤ N ∧ Hid (m.length ≤ k) ∧ Hid (Sep w [blkT w.heap.size #[.int .i64 a, .int .i64 b, .int .i64 v], tlT HK.out.toTlOk (.pointer (some qa)) k (atL m), tlT HK.out.toTlOk (.pointer (some qb)) 0 (atL []), dT g m, dT (g + 1) []] wr)) (fun u _ => (N - intOf u).toNat)
  case atStart => exact ⟨0, [], rfl, by omega, Lib.hid (by simp), HSz⟩
  case round =>
    obtain ⟨k, m, rfl, hk, HM, HS⟩ := hrel
    clear HSz
    by_cases hlt : k < N
    · obtain ⟨ga, off, s, rfl, hs, hga, c0, c1, c2⟩ := Itm.get (HR.out.keep HS.out.bl) hlt
      obtain ⟨x1, x2, x3⟩ := s
      have HP := Lib.hid (HS.out.push #[.int .i64 x1, .int .i64 x2, .int .i64 x3] 33)
      have B9 := Blk.new wr #[.int .i64 x1, .int .i64 x2, .int .i64 x3] 33
      have y0 := B9.get 0 rfl; have y1 := B9.get 1 rfl; have y2 := B9.get 2 rfl
      clear hs B9
      go_wp2_with fail
      refine (sep_tputL HK.out HP.out (i := 1) rfl (by omega) x1 x2 x3).mono ?_
      rintro e w5 ⟨rfl, s5⟩
      have HS5 := Lib.hid s5
      have B9 := Sep.b s5 5 rfl
      have y0 := B9.get 0 rfl; have y1 := B9.get 1 rfl; have y2 := B9.get 2 rfl
      clear s5 B9
      go_wp2_with fail
      refine (sep_dput HS5.out (i := 3) rfl (by have := HM.out; omega) x1 x2 x3).mono ?_
      rintro e w6 ⟨rfl, s6⟩
      have HS6 := Lib.hid (show Sep w [blkT w.heap.size #[.int .i64 a, .int .i64 b, .int .i64 v], tlT HK.out.toTlOk (.pointer (some qa)) (k + 1) (atL (putL m x1 x2 x3)), tlT HK.out.toTlOk (.pointer (some qb)) 0 (atL []), dT g (putL m x1 x2 x3), dT (g + 1) []] w6 from s6.take 5)
      have HM6 := Lib.hid (show (putL m x1 x2 x3).length ≤ k + 1 by have := putL_len m x1 x2 x3; have := HM.out; omega)
      clear s6
      go_wp2_with fail
      go_roundw
      case rel => exact ⟨k + 1, _, by go_num, by omega, HM6, HS6⟩
      case measure => simp [intOf]; omega
    · have HM1 := HM
      have hk1 : k ≤ 40 := by omega
      have HS1 := HS
      generalize m = M at *
      generalize k = k1 at *
      clear HM HS hk
      go_wp2_with fail
      clear hlt
      go_loopw [52] (fun u wr => ∃ (k : Nat) (m : ItL), u = .int .i64 (k : Int) ∧ k ≤ N2 ∧ Hid (m.length ≤ k) ∧ Hid (Sep w [blkT w.heap.size #[.int .i64 a, .int .i64 b, .int .i64 v], tlT HK.out.toTlOk (.pointer (some qa)) k1 (atL M), tlT HK.out.toTlOk (.pointer (some qb)) k (atL m), dT g M, dT (g + 1) m] wr)) (fun u _ => (N2 - intOf u).toNat)
      case atStart => exact ⟨0, [], rfl, by omega, Lib.hid (by simp), HS1⟩
      case round =>
        obtain ⟨k, m, rfl, hk, HM, HS⟩ := hrel
        clear HS1
        by_cases hlt : k < N2
        · obtain ⟨ga, off, s, rfl, hs, hga, c0, c1, c2⟩ := Itm.get (HRm.out.keep HS.out.bl) hlt
          obtain ⟨x1, x2, x3⟩ := s
          have HP := Lib.hid (HS.out.push #[.int .i64 x1, .int .i64 x2, .int .i64 x3] 33)
          have B9 := Blk.new wr #[.int .i64 x1, .int .i64 x2, .int .i64 x3] 33
          have y0 := B9.get 0 rfl; have y1 := B9.get 1 rfl; have y2 := B9.get 2 rfl
          clear hs B9
          go_wp2_with fail
          refine (sep_tputL HK.out HP.out (i := 2) rfl (by omega) x1 x2 x3).mono ?_
          rintro e w5 ⟨rfl, s5⟩
          have HS5 := Lib.hid s5
          have B9 := Sep.b s5 5 rfl
          have y0 := B9.get 0 rfl; have y1 := B9.get 1 rfl; have y2 := B9.get 2 rfl
          clear s5 B9
          go_wp2_with fail
          refine (sep_dput HS5.out (i := 4) rfl (by have := HM.out; omega) x1 x2 x3).mono ?_
          rintro e w6 ⟨rfl, s6⟩
          have HS6 := Lib.hid (show Sep w [blkT w.heap.size #[.int .i64 a, .int .i64 b, .int .i64 v], tlT HK.out.toTlOk (.pointer (some qa)) k1 (atL M), tlT HK.out.toTlOk (.pointer (some qb)) (k + 1) (atL (putL m x1 x2 x3)), dT g M, dT (g + 1) (putL m x1 x2 x3)] w6 from s6.take 5)
          have HM6 := Lib.hid (show (putL m x1 x2 x3).length ≤ k + 1 by have := putL_len m x1 x2 x3; have := HM.out; omega)
          clear s6
          go_wp2_with fail
          go_roundw
          case rel => exact ⟨k + 1, _, by go_num, by omega, HM6, HS6⟩
          case measure => simp [intOf]; omega
        · have hk9 : k ≤ 900 := by omega
          go_wp2_with fail
          refine (sep_tcopy HK.out HS.out (i := 1) rfl (by omega)).mono ?_
          rintro e w7 ⟨qc, rfl, s7⟩
          have HS7 := Lib.hid s7
          clear s7
          go_wp2_with fail
          refine (sep_tsame HK.out HS7.out (i := 1) rfl (j := 2) rfl (by omega) (by omega)).mono ?_
          rintro e w8 ⟨la, lb, hla, hlb, rfl, b8⟩
          have HS8 := Lib.hid (HS7.out.keep b8)
          have HLA := Lib.hid hla
          have HLB := Lib.hid hlb
          clear b8 hla hlb
          go_wp2_with fail
          refine (sep_dsame HS8.out (i := 3) rfl (j := 4) rfl (by have := HM1.out; omega) (by have := HM.out; omega)).mono ?_
          rintro e w9 ⟨lc, ld, hlc, hld, rfl, b9⟩
          obtain rfl := segF_one HLA.out hlc
          obtain rfl := segF_one HLB.out hld
          have HS9 := Lib.hid (HS8.out.keep b9)
          clear b9 hlc hld
          go_wp2_with fail
          refine (sep_tsame HK.out HS9.out (i := 1) rfl (j := 5) rfl (by omega) (by omega)).mono ?_
          rintro e w10 ⟨le, lf, hle, hlf, rfl, b10⟩
          obtain rfl := segF_one hle hlf
          rw [decide_eq_true rfl]
          have HS10 := Lib.hid (HS9.out.keep b10)
          clear b10 hle hlf
          go_wp2_with fail
          refine (sep_tsame HK.out HS10.out (i := 5) rfl (j := 1) rfl (by omega) (by omega)).mono ?_
          rintro e w11 ⟨lg, lh, hlg, hlh, rfl, b11⟩
          obtain rfl := segF_one hlg hlh
          rw [decide_eq_true rfl]
          have HS11 := Lib.hid (HS10.out.keep b11)
          have B0 := HS11.out.b 0 rfl
          have y0 := B0.get 0 rfl; have y1 := B0.get 1 rfl; have y2 := B0.get 2 rfl
          clear b11 hlg hlh B0
          go_wp2_with fail
          refine (sep_tput HK.out HS11.out (i := 5) rfl (by omega) a b v).mono ?_
          rintro e w12 ⟨rfl, s12⟩
          have HS12 := Lib.hid s12
          clear s12
          go_wp2_with fail
          refine (all11_any _).mono ?_
          rintro e w13 ⟨rfl, b13⟩
          have HS13 := Lib.hid (HS12.out.keep b13)
          clear b13
          go_wp2_with fail
          refine (sep_tsegs HK.out HS13.out (i := 1) rfl (by omega) 1 3652060).mono ?_
          rintro e w14 ⟨out, A14, n14, c14, rfl, hs14, o14, b14⟩
          have HS14 := Lib.hid (HS13.out.keep b14)
          have HO14 := Lib.hid (own_lies o14)
          have HG14 := Lib.hid hs14
          clear b14 o14 hs14
          go_wp2_with fail
          refine (all11_any _).mono ?_
          rintro e w15 ⟨rfl, b15⟩
          have HS15 := Lib.hid (HS14.out.keep b15)
          have HO15 := Lib.hid (HO14.out.keep b15)
          clear b15
          go_wp2_with fail
          refine (sep_dsegs HS15.out (i := 3) rfl (by have := HM1.out; omega) 1 3652060).mono ?_
          rintro e w16 ⟨out2, A16, n16, c16, rfl, hs16, o16, b16⟩
          obtain rfl := segF_one HG14.out hs16
          have HS16 := Lib.hid (HS15.out.keep b16)
          have HO16 := Lib.hid (HO15.out.keep b16)
          have HD16 := Lib.hid (own_lies o16)
          clear b16 o16 hs16
          go_wp2_with fail
          refine (tsame_yes HO16.out HD16.out (by have := segF_len HG14.out; omega)).mono ?_
          rintro e w17 ⟨rfl, b17⟩
          have HB17 := Lib.hid ((HS16.out.keep b17).bl)
          clear b17
          go_wp2_with fail
          refine (tlknown_any HK.out _).mono ?_
          rintro e w18 ⟨rfl, b9⟩
          have HB9 := Lib.hid (HB17.out.trans (b9.mono HB17.out.size))
          clear b9
          go_wp2_with fail
          go_ret
          exact ⟨rfl, HB9.out⟩
theorem tlcopies_any {Rep : RepL} (K : TlK Rep) (A : Option Addr) (N c : Nat) (l : ItL) (A2 : Option Addr) (N2 c2 : Nat) (l2 : ItL) (a b v : Int) (w : World) (Rl : Itm w A N c l) (Rm : Itm w A2 N2 c2 l2) : Calls Try.prog 4 #[.slice A N c, .slice A2 N2 c2, .agg #[.int .i64 a, .int .i64 b, .int .i64 v]] w fun e w' => e = .returned (.bool true) ∧ Below w.heap.size w w' := by
  by_cases hN : N ≤ 40
  · by_cases hN2 : N2 ≤ 40
    · exact tlcopies_main K A N c l A2 N2 c2 l2 a b v w Rl Rm hN hN2
    · exact tlcopies_long2 K A N c l A2 N2 c2 l2 a b v w Rl Rm hN hN2
  · exact tlcopies_long K A N c l A2 N2 c2 l2 a b v w Rl Rm hN
end Go.Proofs.Ytockjcainkoifaa
