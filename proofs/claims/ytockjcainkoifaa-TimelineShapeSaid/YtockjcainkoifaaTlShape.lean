/- The law TimelineShape. (Written by wip/gen/gentlshape.py.) -/
import Derived.Test.YtockjcainkoifaaTlKnown
import Derived.Test.YtockjcainkoifaaRowRel
namespace Corr
set_option maxRecDepth 8000
open Go
/-- Where a list of segments has come to behind so many. -/
def endAt (a : Int) : ItL → Nat → Int
  | _, 0 => a
  | [], _ + 1 => a
  | s :: r, k + 1 => endAt s.2.1 r k
theorem endAt_more : ∀ {l : ItL} {a : Int} {i : Nat} {y : It}, l[i]? = some y → endAt a l (i + 1) = y.2.1
  | [], _, _, _, h => by simp at h
  | s :: r, a, 0, y, h => by
    obtain rfl : s = y := by simpa using h
    cases r <;> rfl
  | s :: r, a, i + 1, y, h => by
    have := endAt_more (l := r) (a := s.2.1) (i := i) (by simpa using h)
    exact this
theorem cov_get {f : Int → Int} : ∀ {l : ItL} {a b : Int} {i : Nat} {y : It}, covP f a b l → l[i]? = some y → y.1 = endAt a l i ∧ y.1 < y.2.1 ∧ (∀ d, y.1 ≤ d → d < y.2.1 → f d = y.2.2) ∧ ∀ z, 0 < i → l[i - 1]? = some z → ¬ z.2.2 = y.2.2
  | [], _, _, _, _, _, h => by simp at h
  | s :: r, a, b, 0, y, hc, h => by
    obtain rfl : s = y := by simpa using h
    obtain ⟨h1, h2, h3, _, _⟩ := hc
    exact ⟨h1, h2, h3, fun _ hp => absurd hp (by omega)⟩
  | s :: r, a, b, i + 1, y, hc, h => by
    obtain ⟨h1, h2, h3, h4, h5⟩ := hc
    have hr : r[i]? = some y := by simpa using h
    obtain ⟨e1, e2, e3, e4⟩ := cov_get h5 hr
    refine ⟨e1, e2, e3, fun z _ hz => ?_⟩
    cases i with
    | zero =>
      obtain rfl : s = z := by simpa using hz
      intro e
      refine h4 y ?_ e.symm
      cases r with
      | nil => simp at hr
      | cons t q => simpa using hr
    | succ j => exact e4 z (by omega) (by simpa using hz)
theorem cov_bd {f : Int → Int} : ∀ {l : ItL} {a b : Int} {i : Nat} {y : It}, covP f a b l → l[i]? = some y → a ≤ y.1 ∧ y.2.1 ≤ b
  | [], _, _, _, _, _, h => by simp at h
  | s :: r, a, b, 0, y, hc, h => by
    obtain rfl : s = y := by simpa using h
    obtain ⟨h1, h2, _, _, h5⟩ := hc
    have := covP_le h5
    omega
  | s :: r, a, b, i + 1, y, hc, h => by
    obtain ⟨h1, h2, _, _, h5⟩ := hc
    have := cov_bd h5 (i := i) (y := y) (by simpa using h)
    omega
theorem cov_end {f : Int → Int} : ∀ {l : ItL} {a b : Int}, covP f a b l → endAt a l l.length = b
  | [], _, _, h => h
  | s :: r, a, b, h => by
    obtain ⟨_, _, _, _, h5⟩ := h
    have := cov_end h5
    exact this
end Corr
namespace Go.Proofs.Ytockjcainkoifaa
set_option maxRecDepth 8000
open Go.RowKit Corr
set_option linter.unusedVariables false
set_option linter.unusedSimpArgs false
theorem tlshape_long {Rep : RepL} (K : TlK Rep) (A : Option Addr) (N c : Nat) (l : ItL) (a b : Int) (w : World) (Rl : Itm w A N c l) (hN : ¬ N ≤ 60) : Calls Try.prog 5 #[.slice A N c, .agg #[.int .i64 a, .int .i64 b]] w fun e w' => e = .returned (.bool true) ∧ Below w.heap.size w w' := by
  have d0 : decide ((N : Int) > 60) = true := decide_eq_true (by omega)
  have HK := Lib.hid K
  have HB := Lib.hid ((Below.refl w.heap.size w).alloc (Nat.le_refl _) (.cells #[.int .i64 a, .int .i64 b] 24))
  clear K hN Rl
  go_enter Try.func5, Try.ntmps5
  go_wp2_with fail
  refine (tlknown_any HK.out _).mono ?_
  rintro e w9 ⟨rfl, b9⟩
  have HB9 := Lib.hid (HB.out.trans (b9.mono HB.out.size))
  clear b9
  go_wp2_with fail
  go_ret
  exact ⟨rfl, HB9.out⟩
set_option maxRecDepth 100000 in
set_option maxHeartbeats 8000000 in
theorem tlshape_main {Rep : RepL} (K : TlK Rep) (A : Option Addr) (N c : Nat) (l : ItL) (a b : Int) (w : World) (Rl : Itm w A N c l) (hN : N ≤ 60) : Calls Try.prog 5 #[.slice A N c, .agg #[.int .i64 a, .int .i64 b]] w fun e w' => e = .returned (.bool true) ∧ Below w.heap.size w w' := by
  have d0 : decide ((N : Int) > 60) = false := decide_eq_false (by omega)
  have HK := Lib.hid K
  have HR := Lib.hid Rl
  have HS0 := Lib.hid ((Sep.nil w).push #[.int .i64 a, .int .i64 b] 24)
  clear K Rl
  go_enter Try.func5, Try.ntmps5
  go_wp2_with fail
  refine (sep_tmake HK.out HS0.out).mono ?_
  rintro e w1 ⟨q, rfl, s1⟩
  have HS1 := Lib.hid (show Sep w [blkT w.heap.size #[.int .i64 a, .int .i64 b], tlT HK.out.toTlOk (.pointer (some q)) 0 (fun _ => 0)] w1 from s1)
  clear s1
  go_wp2_with fail
  go_loopw [21] (fun u wr => ∃ (k : Nat) (f : Int → Int), u = .int .i64 (k : Int) ∧ k ≤ N ∧ Hid (Sep w [blkT w.heap.size #[.int .i64 a, .int .i64 b], tlT HK.out.toTlOk (.pointer (some q)) k f] wr)) (fun u _ => (N - intOf u).toNat)
  case atStart => exact ⟨0, _, rfl, by omega, HS1⟩
  case round =>
    obtain ⟨k, f, rfl, hk, HS⟩ := hrel
    by_cases hlt : k < N
    · obtain ⟨ga, off, s, rfl, hs, hga, c0, c1, c2⟩ := Itm.get (HR.out.keep HS.out.bl) hlt
      obtain ⟨x1, x2, x3⟩ := s
      have HP := Lib.hid (HS.out.push #[.int .i64 x1, .int .i64 x2, .int .i64 x3] 33)
      have B9 := Blk.new wr #[.int .i64 x1, .int .i64 x2, .int .i64 x3] 33
      have y0 := B9.get 0 rfl; have y1 := B9.get 1 rfl; have y2 := B9.get 2 rfl
      clear hs B9
      go_wp2_with fail
      refine (sep_tput HK.out HP.out (i := 1) rfl (by omega) x1 x2 x3).mono ?_
      rintro e w5 ⟨rfl, s5⟩
      have HS5 := Lib.hid (show Sep w [blkT w.heap.size #[.int .i64 a, .int .i64 b], tlT HK.out.toTlOk (.pointer (some q)) (k + 1) (putF f x1 x2 x3)] w5 from s5.take 2)
      clear s5
      go_wp2_with fail
      go_roundw
      case rel => exact ⟨k + 1, _, by go_num, by omega, HS5⟩
      case measure => simp [intOf]; omega
    · have hk9 : k ≤ 900 := by omega
      have B0 := HS.out.b 0 rfl
      have y0 := B0.get 0 rfl; have y1 := B0.get 1 rfl
      clear B0
      go_wp2_with fail
      refine (sep_tsegs HK.out HS.out (i := 1) rfl (by omega) a b).mono ?_
      rintro e w8 ⟨out, A8, n8, c8, rfl, hsg, o8, b8⟩
      have HS8 := Lib.hid (HS.out.keep b8)
      have HO := Lib.hid (own_lies o8)
      have HN8 := Lib.hid (Itm.count (own_lies o8))
      have HL8 := Lib.hid (segF_len hsg)
      have B0 := HS8.out.b 0 rfl
      have y0 := B0.get 0 rfl; have y1 := B0.get 1 rfl
      have y0l := B0.sz
      clear o8 b8 B0
      by_cases hm : mayB a b = true
      · obtain ⟨m1, m2, m3⟩ := mayB_iff.1 hm
        have e1 : decide (a < 1) = false := decide_eq_false (by omega)
        have e2 : decide (a ≥ b) = false := decide_eq_false (by omega)
        have e3 : decide (b > 3652060) = false := decide_eq_false (by omega)
        have HC := Lib.hid (show covP f a b out by unfold segF at hsg; rw [if_pos hm] at hsg; exact hsg)
        clear hsg
        go_wp2_with fail
        go_loopw [65, 9] (fun u v wr => ∃ i : Nat, u = .int .i64 (i : Int) ∧ i ≤ n8 ∧ v = .int .i64 (endAt a out i) ∧ Below w8.heap.size w8 wr) (fun u _ _ => (n8 - intOf u).toNat)
        case atStart => exact ⟨0, rfl, by omega, by cases out <;> rfl, Below.refl _ _⟩
        case round =>
          obtain ⟨i, rfl, hi, rfl, hb⟩ := hrel
          have HB := Lib.hid hb
          clear hb
          by_cases hl8 : i < n8
          · obtain ⟨g8, off8, s, rfl, hs, hg8, c0, c1, c2⟩ := Itm.get (HO.out.keep HB.out) hl8
            obtain ⟨y1, y2, y3⟩ := s
            obtain ⟨k1, k2, k3, k4⟩ := cov_get HC.out hs
            have k1 : y1 = endAt a out i := k1
            have k2 : y1 < y2 := k2
            have k3 : ∀ d, y1 ≤ d → d < y2 → f d = y3 := k3
            have HE := Lib.hid (show Value.int .i64 y2 = .int .i64 (endAt a out (i + 1)) by rw [endAt_more hs])
            have hyb := cov_bd HC.out hs
            have hyb1 : 1 ≤ y1 := by have : a ≤ y1 := hyb.1; omega
            have hyb2 : y2 ≤ 3652060 := by have : y2 ≤ b := hyb.2; omega
            obtain ⟨y2', hy2'⟩ : ∃ z, y2 - 1 = z := ⟨_, rfl⟩
            have hw2 : IntKind.i64.wrap y2' = y2' := IntWalk.i64_in _ (by omega)
            have hf1 : f y1 = y3 := k3 y1 (by omega) k2
            have hf2 : f y2' = y3 := k3 y2' (by omega) (by omega)
            rw [← k1]
            have q1 : decide (y2 ≤ y1) = false := decide_eq_false (by omega)
            have B9 := Blk.new wr #[.int .i64 y1, .int .i64 y2, .int .i64 y3] 46
            have b0 := B9.get 0 rfl; have b1 := B9.get 1 rfl; have b2 := B9.get 2 rfl; have hbl := B9.sz
            have hba := (Below.refl wr.heap.size wr).alloc (Nat.le_refl _) (.cells #[.int .i64 y1, .int .i64 y2, .int .i64 y3] 46)
            have HW := Lib.hid ((HS8.out.keep HB.out).keep hba)
            have HBW := Lib.hid (HB.out.trans (hba.mono HB.out.size))
            have hgl := Nat.lt_of_lt_of_le hg8 hba.size
            clear B9 hba
            have hn8 : n8 ≤ 3652060 := by have := HL8.out; have := HN8.out; omega
            rcases i with _ | j
            · clear k1 k2 k3 k4 hs
              simp only [Nat.zero_mul, Nat.add_zero] at c0 c1 c2
              go_upto_region 18 with fail
              refine wp_region_rel 45 (Ext (wr.alloc (.cells #[.int .i64 y1, .int .i64 y2, .int .i64 y3] 46)))
                (fun i => List.getD [VE (.pointer (some ⟨wr.heap.size, 0, none⟩)), VE (.int .i64 y1), VE (.int .i64 y1), VE (.bool false), VE (.bool false), VE (.pointer (some ⟨wr.heap.size, 1, none⟩)), VE (.int .i64 y2), VE (.pointer (some ⟨wr.heap.size, 0, none⟩)), VE (.int .i64 y1), VE (.bool false), VE (.bool false), VE (.bool false), VE (.pointer (some q)), VE (.pointer (some ⟨wr.heap.size, 0, none⟩)), VE (.int .i64 y1), VE (.int .i64 y3), VE (.pointer (some ⟨wr.heap.size, 2, none⟩)), VE (.int .i64 y3), VE (.bool false), VE (.bool false), VE (.bool false), VE (.pointer (some q)), VE (.pointer (some ⟨wr.heap.size, 1, none⟩)), VE (.int .i64 y2), VE (.int .i64 y2'), VE (.int .i64 y3), VE (.pointer (some ⟨wr.heap.size, 2, none⟩)), VE (.int .i64 y3), VE (.bool false), VE (.bool false), VE (.bool false), VE (.int .i64 0), VE (.bool false), VE (.bool false), VE (undef), VE (undef), VE (undef), VE (undef), VE (undef), VE (undef), VE (undef), VE (undef), VE (undef), VE (.bool false), VE (.bool false)] i (fun _ _ => False)) [] [0, 2, 3, 4, 5, 7, 9, 10, 11, 12, 13, 16, 18, 19, 20, 21, 22, 24, 26, 28, 29, 30, 31, 32, 33, 34, 35, 36, 37, 38, 39, 40, 41, 42, 43, 44] (by kernel_rfl) (by kernel_rfl) (Ext.start (wr.alloc (.cells #[.int .i64 y1, .int .i64 y2, .int .i64 y3] 46))) (fun _ _ h hb => h.grow hb)
                (stays_all (stays_cons (stays_VE _) (stays_cons (stays_VE _) (stays_cons (stays_VE _) (stays_cons (stays_VE _) (stays_cons (stays_VE _) (stays_cons (stays_VE _) (stays_cons (stays_VE _) (stays_cons (stays_VE _) (stays_cons (stays_VE _) (stays_cons (stays_VE _) (stays_cons (stays_VE _) (stays_cons (stays_VE _) (stays_cons (stays_VE _) (stays_cons (stays_VE _) (stays_cons (stays_VE _) (stays_cons (stays_VE _) (stays_cons (stays_VE _) (stays_cons (stays_VE _) (stays_cons (stays_VE _) (stays_cons (stays_VE _) (stays_cons (stays_VE _) (stays_cons (stays_VE _) (stays_cons (stays_VE _) (stays_cons (stays_VE _) (stays_cons (stays_VE _) (stays_cons (stays_VE _) (stays_cons (stays_VE _) (stays_cons (stays_VE _) (stays_cons (stays_VE _) (stays_cons (stays_VE _) (stays_cons (stays_VE _) (stays_cons (stays_VE _) (stays_cons (stays_VE _) (stays_cons (stays_VE _) (stays_cons (stays_VE _) (stays_cons (stays_VE _) (stays_cons (stays_VE _) (stays_cons (stays_VE _) (stays_cons (stays_VE _) (stays_cons (stays_VE _) (stays_cons (stays_VE _) (stays_cons (stays_VE _) (stays_cons (stays_VE _) (stays_cons (stays_VE _) (stays_cons (stays_VE _) stays_nil)))))))))))))))))))))))))))))))))))))))))))))) ⟨?_, ?_, ?_, ?_, ?_, ?_, ?_, ?_, ?_, ?_, ?_, ?_, ?_, ?_, ?_, ?_, ?_, ?_, ?_, ?_, ?_, ?_, ?_, ?_, ?_, ?_, ?_, ?_, ?_, ?_, ?_, ?_, ?_, ?_, ?_, ?_, ?_, ?_, ?_, ?_, ?_, ?_, ?_, ?_, ?_, trivial⟩ ?_
              · intro ev wv hE hw hd
                refine ifw rfl (ifw rfl ?_)
                have v11 : ev (.tmp 11) = .pointer (some ⟨wr.heap.size, 0, none⟩) := hE.tmp 11 rfl
                refine ⟨.pointer (some ⟨wr.heap.size, 0, none⟩), fun w => ?_, rfl⟩
                have e1 := hE.const; have e2 := hE.func; clear hE hd hw
                go_simp
              · intro ev wv hE hw hd
                refine ifw rfl (ifn rfl ?_)
                have v70 : ev (.tmp 70) = .pointer (some ⟨wr.heap.size, 0, none⟩) := hd 0 (by decide)
                have kx := (Below.cell (p := ⟨wr.heap.size, 0, none⟩) hw hbl).trans b0
                refine rel_val (u := .int .i64 y1) (w' := wv) ?_ (Below.refl _ _) ⟨rfl, fun h => by cases h⟩
                have e1 := hE.const; clear hE hd hw
                go_simp
              · intro ev wv hE hw hd
                refine ifw rfl (ifw rfl ?_)
                have v9 : ev (.tmp 9) = .int .i64 y1 := hE.tmp 9 rfl
                refine ⟨.int .i64 y1, fun w => ?_, rfl⟩
                have e1 := hE.const; have e2 := hE.func; clear hE hd hw
                go_simp
              · intro ev wv hE hw hd
                refine ifw rfl (ifw rfl ?_)
                have v71 : ev (.tmp 71) = .int .i64 y1 := hd 1 (by decide)
                have v72 : ev (.tmp 72) = .int .i64 y1 := hd 2 (by decide)
                refine ⟨.bool false, fun w => ?_, rfl⟩
                have e1 := hE.const; have e2 := hE.func; clear hE hd hw
                go_simp
              · intro ev wv hE hw hd
                refine ifw rfl (ifw rfl ?_)
                have v73 : ev (.tmp 73) = .bool false := hd 3 (by decide)
                refine ⟨.bool false, fun w => ?_, rfl⟩
                have e1 := hE.const; have e2 := hE.func; clear hE hd hw
                go_simp
              · intro ev wv hE hw hd
                have vg : ev (.tmp 74) = .bool false := hd 4 (by decide)
                refine ifw (by show (yv (ev (.tmp 74)) == some false) = true; rw [vg]; rfl) (ifw rfl ?_)
                clear vg
                have v11 : ev (.tmp 11) = .pointer (some ⟨wr.heap.size, 0, none⟩) := hE.tmp 11 rfl
                refine ⟨.pointer (some ⟨wr.heap.size, 1, none⟩), fun w => ?_, rfl⟩
                have e1 := hE.const; have e2 := hE.func; clear hE hd hw
                go_simp
              · intro ev wv hE hw hd
                have vg : ev (.tmp 74) = .bool false := hd 4 (by decide)
                refine ifw (by show (yv (ev (.tmp 74)) == some false) = true; rw [vg]; rfl) (ifn rfl ?_)
                clear vg
                have v75 : ev (.tmp 75) = .pointer (some ⟨wr.heap.size, 1, none⟩) := hd 5 (by decide)
                have kx := (Below.cell (p := ⟨wr.heap.size, 1, none⟩) hw hbl).trans b1
                refine rel_val (u := .int .i64 y2) (w' := wv) ?_ (Below.refl _ _) ⟨rfl, fun h => by cases h⟩
                have e1 := hE.const; clear hE hd hw
                go_simp
              · intro ev wv hE hw hd
                have vg : ev (.tmp 74) = .bool false := hd 4 (by decide)
                refine ifw (by show (yv (ev (.tmp 74)) == some false) = true; rw [vg]; rfl) (ifw rfl ?_)
                clear vg
                have v11 : ev (.tmp 11) = .pointer (some ⟨wr.heap.size, 0, none⟩) := hE.tmp 11 rfl
                refine ⟨.pointer (some ⟨wr.heap.size, 0, none⟩), fun w => ?_, rfl⟩
                have e1 := hE.const; have e2 := hE.func; clear hE hd hw
                go_simp
              · intro ev wv hE hw hd
                have vg : ev (.tmp 74) = .bool false := hd 4 (by decide)
                refine ifw (by show (yv (ev (.tmp 74)) == some false) = true; rw [vg]; rfl) (ifn rfl ?_)
                clear vg
                have v77 : ev (.tmp 77) = .pointer (some ⟨wr.heap.size, 0, none⟩) := hd 7 (by decide)
                have kx := (Below.cell (p := ⟨wr.heap.size, 0, none⟩) hw hbl).trans b0
                refine rel_val (u := .int .i64 y1) (w' := wv) ?_ (Below.refl _ _) ⟨rfl, fun h => by cases h⟩
                have e1 := hE.const; clear hE hd hw
                go_simp
              · intro ev wv hE hw hd
                have vg : ev (.tmp 74) = .bool false := hd 4 (by decide)
                refine ifw (by show (yv (ev (.tmp 74)) == some false) = true; rw [vg]; rfl) (ifw rfl ?_)
                clear vg
                have v76 : ev (.tmp 76) = .int .i64 y2 := hd 6 (by decide)
                have v78 : ev (.tmp 78) = .int .i64 y1 := hd 8 (by decide)
                refine ⟨.bool false, fun w => ?_, rfl⟩
                have e1 := hE.const; have e2 := hE.func; clear hE hd hw
                go_simp
              · intro ev wv hE hw hd
                refine ifw rfl (ifw rfl ?_)
                have v74 : ev (.tmp 74) = .bool false := hd 4 (by decide)
                have v79 : ev (.tmp 79) = .bool false := hd 9 (by decide)
                refine ⟨.bool false, fun w => ?_, rfl⟩
                have e1 := hE.const; have e2 := hE.func; clear hE hd hw
                go_simp
              · intro ev wv hE hw hd
                refine ifw rfl (ifw rfl ?_)
                have v80 : ev (.tmp 80) = .bool false := hd 10 (by decide)
                refine ⟨.bool false, fun w => ?_, rfl⟩
                have e1 := hE.const; have e2 := hE.func; clear hE hd hw
                go_simp
              · intro ev wv hE hw hd
                have vg : ev (.tmp 81) = .bool false := hd 11 (by decide)
                refine ifw (by show (yv (ev (.tmp 81)) == some false) = true; rw [vg]; rfl) (ifw rfl ?_)
                clear vg
                have v5 : ev (.tmp 5) = .pointer (some q) := hE.tmp 5 rfl
                refine ⟨.pointer (some q), fun w => ?_, rfl⟩
                have e1 := hE.const; have e2 := hE.func; clear hE hd hw
                go_simp
              · intro ev wv hE hw hd
                have vg : ev (.tmp 81) = .bool false := hd 11 (by decide)
                refine ifw (by show (yv (ev (.tmp 81)) == some false) = true; rw [vg]; rfl) (ifw rfl ?_)
                clear vg
                have v11 : ev (.tmp 11) = .pointer (some ⟨wr.heap.size, 0, none⟩) := hE.tmp 11 rfl
                refine ⟨.pointer (some ⟨wr.heap.size, 0, none⟩), fun w => ?_, rfl⟩
                have e1 := hE.const; have e2 := hE.func; clear hE hd hw
                go_simp
              · intro ev wv hE hw hd
                have vg : ev (.tmp 81) = .bool false := hd 11 (by decide)
                refine ifw (by show (yv (ev (.tmp 81)) == some false) = true; rw [vg]; rfl) (ifn rfl ?_)
                clear vg
                have v83 : ev (.tmp 83) = .pointer (some ⟨wr.heap.size, 0, none⟩) := hd 13 (by decide)
                have kx := (Below.cell (p := ⟨wr.heap.size, 0, none⟩) hw hbl).trans b0
                refine rel_val (u := .int .i64 y1) (w' := wv) ?_ (Below.refl _ _) ⟨rfl, fun h => by cases h⟩
                have e1 := hE.const; clear hE hd hw
                go_simp
              · intro ev wv hE hw hd
                have vg : ev (.tmp 81) = .bool false := hd 11 (by decide)
                refine ifw (by show (yv (ev (.tmp 81)) == some false) = true; rw [vg]; rfl) (ifn rfl ?_)
                clear vg
                have v82 : ev (.tmp 82) = .pointer (some q) := hd 12 (by decide)
                have v84 : ev (.tmp 84) = .int .i64 y1 := hd 14 (by decide)
                refine rel_call (f := 16) (args := #[.pointer (some q), .int .i64 y1]) ?_ (sep_tat HK.out (HW.out.keep hw) (i := 1) rfl (by omega) y1 hf1) ?_
                · have e0 := hE.func; have e1 := hE.const; clear hE hd hw
                  go_simp
                · rintro e w' ⟨rfl, hb⟩
                  exact ⟨_, rfl, hb, rfl, fun h => by cases h⟩
              · intro ev wv hE hw hd
                have vg : ev (.tmp 81) = .bool false := hd 11 (by decide)
                refine ifw (by show (yv (ev (.tmp 81)) == some false) = true; rw [vg]; rfl) (ifw rfl ?_)
                clear vg
                have v11 : ev (.tmp 11) = .pointer (some ⟨wr.heap.size, 0, none⟩) := hE.tmp 11 rfl
                refine ⟨.pointer (some ⟨wr.heap.size, 2, none⟩), fun w => ?_, rfl⟩
                have e1 := hE.const; have e2 := hE.func; clear hE hd hw
                go_simp
              · intro ev wv hE hw hd
                have vg : ev (.tmp 81) = .bool false := hd 11 (by decide)
                refine ifw (by show (yv (ev (.tmp 81)) == some false) = true; rw [vg]; rfl) (ifn rfl ?_)
                clear vg
                have v86 : ev (.tmp 86) = .pointer (some ⟨wr.heap.size, 2, none⟩) := hd 16 (by decide)
                have kx := (Below.cell (p := ⟨wr.heap.size, 2, none⟩) hw hbl).trans b2
                refine rel_val (u := .int .i64 y3) (w' := wv) ?_ (Below.refl _ _) ⟨rfl, fun h => by cases h⟩
                have e1 := hE.const; clear hE hd hw
                go_simp
              · intro ev wv hE hw hd
                have vg : ev (.tmp 81) = .bool false := hd 11 (by decide)
                refine ifw (by show (yv (ev (.tmp 81)) == some false) = true; rw [vg]; rfl) (ifw rfl ?_)
                clear vg
                have v85 : ev (.tmp 85) = .int .i64 y3 := hd 15 (by decide)
                have v87 : ev (.tmp 87) = .int .i64 y3 := hd 17 (by decide)
                refine ⟨.bool false, fun w => ?_, rfl⟩
                have e1 := hE.const; have e2 := hE.func; clear hE hd hw
                go_simp
              · intro ev wv hE hw hd
                refine ifw rfl (ifw rfl ?_)
                have v81 : ev (.tmp 81) = .bool false := hd 11 (by decide)
                have v88 : ev (.tmp 88) = .bool false := hd 18 (by decide)
                refine ⟨.bool false, fun w => ?_, rfl⟩
                have e1 := hE.const; have e2 := hE.func; clear hE hd hw
                go_simp
              · intro ev wv hE hw hd
                refine ifw rfl (ifw rfl ?_)
                have v89 : ev (.tmp 89) = .bool false := hd 19 (by decide)
                refine ⟨.bool false, fun w => ?_, rfl⟩
                have e1 := hE.const; have e2 := hE.func; clear hE hd hw
                go_simp
              · intro ev wv hE hw hd
                have vg : ev (.tmp 90) = .bool false := hd 20 (by decide)
                refine ifw (by show (yv (ev (.tmp 90)) == some false) = true; rw [vg]; rfl) (ifw rfl ?_)
                clear vg
                have v5 : ev (.tmp 5) = .pointer (some q) := hE.tmp 5 rfl
                refine ⟨.pointer (some q), fun w => ?_, rfl⟩
                have e1 := hE.const; have e2 := hE.func; clear hE hd hw
                go_simp
              · intro ev wv hE hw hd
                have vg : ev (.tmp 90) = .bool false := hd 20 (by decide)
                refine ifw (by show (yv (ev (.tmp 90)) == some false) = true; rw [vg]; rfl) (ifw rfl ?_)
                clear vg
                have v11 : ev (.tmp 11) = .pointer (some ⟨wr.heap.size, 0, none⟩) := hE.tmp 11 rfl
                refine ⟨.pointer (some ⟨wr.heap.size, 1, none⟩), fun w => ?_, rfl⟩
                have e1 := hE.const; have e2 := hE.func; clear hE hd hw
                go_simp
              · intro ev wv hE hw hd
                have vg : ev (.tmp 90) = .bool false := hd 20 (by decide)
                refine ifw (by show (yv (ev (.tmp 90)) == some false) = true; rw [vg]; rfl) (ifn rfl ?_)
                clear vg
                have v92 : ev (.tmp 92) = .pointer (some ⟨wr.heap.size, 1, none⟩) := hd 22 (by decide)
                have kx := (Below.cell (p := ⟨wr.heap.size, 1, none⟩) hw hbl).trans b1
                refine rel_val (u := .int .i64 y2) (w' := wv) ?_ (Below.refl _ _) ⟨rfl, fun h => by cases h⟩
                have e1 := hE.const; clear hE hd hw
                go_simp
              · intro ev wv hE hw hd
                have vg : ev (.tmp 90) = .bool false := hd 20 (by decide)
                refine ifw (by show (yv (ev (.tmp 90)) == some false) = true; rw [vg]; rfl) (ifw rfl ?_)
                clear vg
                have v93 : ev (.tmp 93) = .int .i64 y2 := hd 23 (by decide)
                refine ⟨.int .i64 y2', fun w => ?_, rfl⟩
                have e1 := hE.const; have e2 := hE.func; clear hE hd hw
                go_simp
              · intro ev wv hE hw hd
                have vg : ev (.tmp 90) = .bool false := hd 20 (by decide)
                refine ifw (by show (yv (ev (.tmp 90)) == some false) = true; rw [vg]; rfl) (ifn rfl ?_)
                clear vg
                have v91 : ev (.tmp 91) = .pointer (some q) := hd 21 (by decide)
                have v94 : ev (.tmp 94) = .int .i64 y2' := hd 24 (by decide)
                refine rel_call (f := 16) (args := #[.pointer (some q), .int .i64 y2']) ?_ (sep_tat HK.out (HW.out.keep hw) (i := 1) rfl (by omega) y2' hf2) ?_
                · have e0 := hE.func; have e1 := hE.const; clear hE hd hw
                  go_simp
                · rintro e w' ⟨rfl, hb⟩
                  exact ⟨_, rfl, hb, rfl, fun h => by cases h⟩
              · intro ev wv hE hw hd
                have vg : ev (.tmp 90) = .bool false := hd 20 (by decide)
                refine ifw (by show (yv (ev (.tmp 90)) == some false) = true; rw [vg]; rfl) (ifw rfl ?_)
                clear vg
                have v11 : ev (.tmp 11) = .pointer (some ⟨wr.heap.size, 0, none⟩) := hE.tmp 11 rfl
                refine ⟨.pointer (some ⟨wr.heap.size, 2, none⟩), fun w => ?_, rfl⟩
                have e1 := hE.const; have e2 := hE.func; clear hE hd hw
                go_simp
              · intro ev wv hE hw hd
                have vg : ev (.tmp 90) = .bool false := hd 20 (by decide)
                refine ifw (by show (yv (ev (.tmp 90)) == some false) = true; rw [vg]; rfl) (ifn rfl ?_)
                clear vg
                have v96 : ev (.tmp 96) = .pointer (some ⟨wr.heap.size, 2, none⟩) := hd 26 (by decide)
                have kx := (Below.cell (p := ⟨wr.heap.size, 2, none⟩) hw hbl).trans b2
                refine rel_val (u := .int .i64 y3) (w' := wv) ?_ (Below.refl _ _) ⟨rfl, fun h => by cases h⟩
                have e1 := hE.const; clear hE hd hw
                go_simp
              · intro ev wv hE hw hd
                have vg : ev (.tmp 90) = .bool false := hd 20 (by decide)
                refine ifw (by show (yv (ev (.tmp 90)) == some false) = true; rw [vg]; rfl) (ifw rfl ?_)
                clear vg
                have v95 : ev (.tmp 95) = .int .i64 y3 := hd 25 (by decide)
                have v97 : ev (.tmp 97) = .int .i64 y3 := hd 27 (by decide)
                refine ⟨.bool false, fun w => ?_, rfl⟩
                have e1 := hE.const; have e2 := hE.func; clear hE hd hw
                go_simp
              · intro ev wv hE hw hd
                refine ifw rfl (ifw rfl ?_)
                have v90 : ev (.tmp 90) = .bool false := hd 20 (by decide)
                have v98 : ev (.tmp 98) = .bool false := hd 28 (by decide)
                refine ⟨.bool false, fun w => ?_, rfl⟩
                have e1 := hE.const; have e2 := hE.func; clear hE hd hw
                go_simp
              · intro ev wv hE hw hd
                refine ifw rfl (ifw rfl ?_)
                have v99 : ev (.tmp 99) = .bool false := hd 29 (by decide)
                refine ⟨.bool false, fun w => ?_, rfl⟩
                have e1 := hE.const; have e2 := hE.func; clear hE hd hw
                go_simp
              · intro ev wv hE hw hd
                have vg : ev (.tmp 100) = .bool false := hd 30 (by decide)
                refine ifw (by show (yv (ev (.tmp 100)) == some false) = true; rw [vg]; rfl) (ifw rfl ?_)
                clear vg
                have v10 : ev (.tmp 10) = .int .i64 0 := hE.tmp 10 rfl
                refine ⟨.int .i64 0, fun w => ?_, rfl⟩
                have e1 := hE.const; have e2 := hE.func; clear hE hd hw
                go_simp
              · intro ev wv hE hw hd
                have vg : ev (.tmp 100) = .bool false := hd 30 (by decide)
                refine ifw (by show (yv (ev (.tmp 100)) == some false) = true; rw [vg]; rfl) (ifw rfl ?_)
                clear vg
                have v101 : ev (.tmp 101) = .int .i64 0 := hd 31 (by decide)
                refine ⟨.bool false, fun w => ?_, rfl⟩
                have e1 := hE.const; have e2 := hE.func; clear hE hd hw
                go_simp
              · intro ev wv hE hw hd
                have vg : ev (.tmp 100) = .bool false := hd 30 (by decide)
                refine ifw (by show (yv (ev (.tmp 100)) == some false) = true; rw [vg]; rfl) (ifw rfl ?_)
                clear vg
                have v102 : ev (.tmp 102) = .bool false := hd 32 (by decide)
                refine ⟨.bool false, fun w => ?_, rfl⟩
                have e1 := hE.const; have e2 := hE.func; clear hE hd hw
                go_simp
              · intro ev wv hE hw hd
                have vg : ev (.tmp 103) = .bool false := hd 33 (by decide)
                exact ifn (by show (yv (ev (.tmp 103)) == some true) = false; rw [vg]; rfl) rfl
              · intro ev wv hE hw hd
                have vg : ev (.tmp 103) = .bool false := hd 33 (by decide)
                exact ifn (by show (yv (ev (.tmp 103)) == some true) = false; rw [vg]; rfl) rfl
              · intro ev wv hE hw hd
                have vg : ev (.tmp 103) = .bool false := hd 33 (by decide)
                exact ifn (by show (yv (ev (.tmp 103)) == some true) = false; rw [vg]; rfl) rfl
              · intro ev wv hE hw hd
                have vg : ev (.tmp 103) = .bool false := hd 33 (by decide)
                exact ifn (by show (yv (ev (.tmp 103)) == some true) = false; rw [vg]; rfl) rfl
              · intro ev wv hE hw hd
                have vg : ev (.tmp 103) = .bool false := hd 33 (by decide)
                exact ifn (by show (yv (ev (.tmp 103)) == some true) = false; rw [vg]; rfl) rfl
              · intro ev wv hE hw hd
                have vg : ev (.tmp 103) = .bool false := hd 33 (by decide)
                exact ifn (by show (yv (ev (.tmp 103)) == some true) = false; rw [vg]; rfl) rfl
              · intro ev wv hE hw hd
                have vg : ev (.tmp 103) = .bool false := hd 33 (by decide)
                exact ifn (by show (yv (ev (.tmp 103)) == some true) = false; rw [vg]; rfl) rfl
              · intro ev wv hE hw hd
                have vg : ev (.tmp 103) = .bool false := hd 33 (by decide)
                exact ifn (by show (yv (ev (.tmp 103)) == some true) = false; rw [vg]; rfl) rfl
              · intro ev wv hE hw hd
                have vg : ev (.tmp 103) = .bool false := hd 33 (by decide)
                exact ifn (by show (yv (ev (.tmp 103)) == some true) = false; rw [vg]; rfl) rfl
              · intro ev wv hE hw hd
                have vg : ev (.tmp 100) = .bool false := hd 30 (by decide)
                refine ifw (by show (yv (ev (.tmp 100)) == some false) = true; rw [vg]; rfl) (ifw rfl ?_)
                clear vg
                have v103 : ev (.tmp 103) = .bool false := hd 33 (by decide)
                have v112 : ev (.tmp 112) = undef := hd 42 (by decide)
                refine ⟨.bool false, fun w => ?_, rfl⟩
                have e1 := hE.const; have e2 := hE.func; clear hE hd hw
                go_simp
              · intro ev wv hE hw hd
                refine ifw rfl (ifw rfl ?_)
                have v100 : ev (.tmp 100) = .bool false := hd 30 (by decide)
                have v113 : ev (.tmp 113) = .bool false := hd 43 (by decide)
                refine ⟨.bool false, fun w => ?_, rfl⟩
                have e1 := hE.const; have e2 := hE.func; clear hE hd hw
                go_simp
              · intro wz hw
                intro v0 h0 _ v1 h1 _ v2 h2 _ v3 h3 _ v4 h4 _ v5 h5 _ v6 h6 _ v7 h7 _ v8 h8 _ v9 h9 _ v10 h10 _ v11 h11 _ v12 h12 _ v13 h13 _ v14 h14 _ v15 h15 _ v16 h16 _ v17 h17 _ v18 h18 _ v19 h19 _ v20 h20 _ v21 h21 _ v22 h22 _ v23 h23 _ v24 h24 _ v25 h25 _ v26 h26 _ v27 h27 _ v28 h28 _ v29 h29 _ v30 h30 _ v31 h31 _ v32 h32 _ v33 h33 _ v34 h34 _ v35 h35 _ v36 h36 _ v37 h37 _ v38 h38 _ v39 h39 _ v40 h40 _ v41 h41 _ v42 h42 _ v43 h43 _ v44 h44 _
                simp only [Act.put, List.setIfInBounds_toArray, List.set_cons_zero, List.set_cons_succ, List.drop_succ_cons, List.drop_zero]
                obtain rfl : v0 = _ := h0
                obtain rfl : v1 = _ := h1
                obtain rfl : v2 = _ := h2
                obtain rfl : v3 = _ := h3
                obtain rfl : v4 = _ := h4
                obtain rfl : v5 = _ := h5
                obtain rfl : v6 = _ := h6
                obtain rfl : v7 = _ := h7
                obtain rfl : v8 = _ := h8
                obtain rfl : v9 = _ := h9
                obtain rfl : v10 = _ := h10
                obtain rfl : v11 = _ := h11
                obtain rfl : v12 = _ := h12
                obtain rfl : v13 = _ := h13
                obtain rfl : v14 = _ := h14
                obtain rfl : v15 = _ := h15
                obtain rfl : v16 = _ := h16
                obtain rfl : v17 = _ := h17
                obtain rfl : v18 = _ := h18
                obtain rfl : v19 = _ := h19
                obtain rfl : v20 = _ := h20
                obtain rfl : v21 = _ := h21
                obtain rfl : v22 = _ := h22
                obtain rfl : v23 = _ := h23
                obtain rfl : v24 = _ := h24
                obtain rfl : v25 = _ := h25
                obtain rfl : v26 = _ := h26
                obtain rfl : v27 = _ := h27
                obtain rfl : v28 = _ := h28
                obtain rfl : v29 = _ := h29
                obtain rfl : v30 = _ := h30
                obtain rfl : v31 = _ := h31
                obtain rfl : v32 = _ := h32
                obtain rfl : v33 = _ := h33
                obtain rfl : v34 = _ := h34
                obtain rfl : v35 = _ := h35
                obtain rfl : v36 = _ := h36
                obtain rfl : v37 = _ := h37
                obtain rfl : v38 = _ := h38
                obtain rfl : v39 = _ := h39
                obtain rfl : v40 = _ := h40
                obtain rfl : v41 = _ := h41
                obtain rfl : v42 = _ := h42
                obtain rfl : v43 = _ := h43
                obtain rfl : v44 = _ := h44
                change wpList Try.prog _ _ _ _ wz
                have HBZ := Lib.hid (HBW.out.trans (Below.mono hw HBW.out.size))
                have b1 := (Below.cell (p := ⟨wr.heap.size, 1, none⟩) hw hbl).trans b1
                clear hw HW HBW b0 b2 hbl
                go_wp2_with fail
                refine calm_normal ?_
                go_wp2_with fail
                go_roundw
                case rel => exact ⟨1, by go_num, by omega, HE.out, HBZ.out⟩
                case measure => simp [intOf]; omega
            · obtain ⟨z, hz⟩ : ∃ z, out[j]? = some z := by
                have := HN8.out
                exact ⟨_, List.getElem?_eq_getElem (by omega)⟩
              have hzz := k4 z (by omega) hz
              obtain ⟨z1, z2, z3⟩ := z
              have q2 : (z3 == y3) = false := by simpa using hzz
              obtain ⟨g8', off8', s', hA', hs', _, _, _, p2⟩ := Itm.get ((HO.out.keep HB.out).keep ((Below.refl wr.heap.size wr).alloc (Nat.le_refl _) (.cells #[.int .i64 y1, .int .i64 y2, .int .i64 y3] 46))) (show j < n8 by omega)
              injection hA' with hA'
              injection hA' with e1 e2 _
              subst e1 e2
              rw [hz] at hs'
              obtain rfl := Option.some.inj hs'
              have pz := p2
              have hjn : j < n8 := by omega
              have hwj : IntKind.i64.wrap (j : Int) = (j : Int) := IntWalk.i64_in _ (by omega)
              clear k1 k2 k3 k4 hs hz hzz hs' p2
              go_upto_region 18 with fail
              refine wp_region_rel 45 (Ext (wr.alloc (.cells #[.int .i64 y1, .int .i64 y2, .int .i64 y3] 46)))
                (fun i => List.getD [VE (.pointer (some ⟨wr.heap.size, 0, none⟩)), VE (.int .i64 y1), VE (.int .i64 y1), VE (.bool false), VE (.bool false), VE (.pointer (some ⟨wr.heap.size, 1, none⟩)), VE (.int .i64 y2), VE (.pointer (some ⟨wr.heap.size, 0, none⟩)), VE (.int .i64 y1), VE (.bool false), VE (.bool false), VE (.bool false), VE (.pointer (some q)), VE (.pointer (some ⟨wr.heap.size, 0, none⟩)), VE (.int .i64 y1), VE (.int .i64 y3), VE (.pointer (some ⟨wr.heap.size, 2, none⟩)), VE (.int .i64 y3), VE (.bool false), VE (.bool false), VE (.bool false), VE (.pointer (some q)), VE (.pointer (some ⟨wr.heap.size, 1, none⟩)), VE (.int .i64 y2), VE (.int .i64 y2'), VE (.int .i64 y3), VE (.pointer (some ⟨wr.heap.size, 2, none⟩)), VE (.int .i64 y3), VE (.bool false), VE (.bool false), VE (.bool false), VE (.int .i64 ((j : Int) + 1)), VE (.bool true), VE (.bool true), VE (.slice (some ⟨g8, off8, none⟩) n8 c8), VE (.int .i64 ((j : Int) + 1)), VE (.int .i64 (j : Int)), VE (.pointer (some ⟨g8, off8 + j * 3, none⟩)), VE (.pointer (some ⟨g8, off8 + j * 3 + 2, none⟩)), VE (.int .i64 z3), VE (.pointer (some ⟨wr.heap.size, 2, none⟩)), VE (.int .i64 y3), VE (.bool false), VE (.bool false), VE (.bool false)] i (fun _ _ => False)) [] [0, 2, 3, 4, 5, 7, 9, 10, 11, 12, 13, 16, 18, 19, 20, 21, 22, 24, 26, 28, 29, 30, 31, 32, 33, 34, 35, 36, 37, 38, 40, 42, 43, 44] (by kernel_rfl) (by kernel_rfl) (Ext.start (wr.alloc (.cells #[.int .i64 y1, .int .i64 y2, .int .i64 y3] 46))) (fun _ _ h hb => h.grow hb)
                (stays_all (stays_cons (stays_VE _) (stays_cons (stays_VE _) (stays_cons (stays_VE _) (stays_cons (stays_VE _) (stays_cons (stays_VE _) (stays_cons (stays_VE _) (stays_cons (stays_VE _) (stays_cons (stays_VE _) (stays_cons (stays_VE _) (stays_cons (stays_VE _) (stays_cons (stays_VE _) (stays_cons (stays_VE _) (stays_cons (stays_VE _) (stays_cons (stays_VE _) (stays_cons (stays_VE _) (stays_cons (stays_VE _) (stays_cons (stays_VE _) (stays_cons (stays_VE _) (stays_cons (stays_VE _) (stays_cons (stays_VE _) (stays_cons (stays_VE _) (stays_cons (stays_VE _) (stays_cons (stays_VE _) (stays_cons (stays_VE _) (stays_cons (stays_VE _) (stays_cons (stays_VE _) (stays_cons (stays_VE _) (stays_cons (stays_VE _) (stays_cons (stays_VE _) (stays_cons (stays_VE _) (stays_cons (stays_VE _) (stays_cons (stays_VE _) (stays_cons (stays_VE _) (stays_cons (stays_VE _) (stays_cons (stays_VE _) (stays_cons (stays_VE _) (stays_cons (stays_VE _) (stays_cons (stays_VE _) (stays_cons (stays_VE _) (stays_cons (stays_VE _) (stays_cons (stays_VE _) (stays_cons (stays_VE _) (stays_cons (stays_VE _) (stays_cons (stays_VE _) (stays_cons (stays_VE _) stays_nil)))))))))))))))))))))))))))))))))))))))))))))) ⟨?_, ?_, ?_, ?_, ?_, ?_, ?_, ?_, ?_, ?_, ?_, ?_, ?_, ?_, ?_, ?_, ?_, ?_, ?_, ?_, ?_, ?_, ?_, ?_, ?_, ?_, ?_, ?_, ?_, ?_, ?_, ?_, ?_, ?_, ?_, ?_, ?_, ?_, ?_, ?_, ?_, ?_, ?_, ?_, ?_, trivial⟩ ?_
              · intro ev wv hE hw hd
                refine ifw rfl (ifw rfl ?_)
                have v11 : ev (.tmp 11) = .pointer (some ⟨wr.heap.size, 0, none⟩) := hE.tmp 11 rfl
                refine ⟨.pointer (some ⟨wr.heap.size, 0, none⟩), fun w => ?_, rfl⟩
                have e1 := hE.const; have e2 := hE.func; clear hE hd hw
                go_simp
              · intro ev wv hE hw hd
                refine ifw rfl (ifn rfl ?_)
                have v70 : ev (.tmp 70) = .pointer (some ⟨wr.heap.size, 0, none⟩) := hd 0 (by decide)
                have kx := (Below.cell (p := ⟨wr.heap.size, 0, none⟩) hw hbl).trans b0
                refine rel_val (u := .int .i64 y1) (w' := wv) ?_ (Below.refl _ _) ⟨rfl, fun h => by cases h⟩
                have e1 := hE.const; clear hE hd hw
                go_simp
              · intro ev wv hE hw hd
                refine ifw rfl (ifw rfl ?_)
                have v9 : ev (.tmp 9) = .int .i64 y1 := hE.tmp 9 rfl
                refine ⟨.int .i64 y1, fun w => ?_, rfl⟩
                have e1 := hE.const; have e2 := hE.func; clear hE hd hw
                go_simp
              · intro ev wv hE hw hd
                refine ifw rfl (ifw rfl ?_)
                have v71 : ev (.tmp 71) = .int .i64 y1 := hd 1 (by decide)
                have v72 : ev (.tmp 72) = .int .i64 y1 := hd 2 (by decide)
                refine ⟨.bool false, fun w => ?_, rfl⟩
                have e1 := hE.const; have e2 := hE.func; clear hE hd hw
                go_simp
              · intro ev wv hE hw hd
                refine ifw rfl (ifw rfl ?_)
                have v73 : ev (.tmp 73) = .bool false := hd 3 (by decide)
                refine ⟨.bool false, fun w => ?_, rfl⟩
                have e1 := hE.const; have e2 := hE.func; clear hE hd hw
                go_simp
              · intro ev wv hE hw hd
                have vg : ev (.tmp 74) = .bool false := hd 4 (by decide)
                refine ifw (by show (yv (ev (.tmp 74)) == some false) = true; rw [vg]; rfl) (ifw rfl ?_)
                clear vg
                have v11 : ev (.tmp 11) = .pointer (some ⟨wr.heap.size, 0, none⟩) := hE.tmp 11 rfl
                refine ⟨.pointer (some ⟨wr.heap.size, 1, none⟩), fun w => ?_, rfl⟩
                have e1 := hE.const; have e2 := hE.func; clear hE hd hw
                go_simp
              · intro ev wv hE hw hd
                have vg : ev (.tmp 74) = .bool false := hd 4 (by decide)
                refine ifw (by show (yv (ev (.tmp 74)) == some false) = true; rw [vg]; rfl) (ifn rfl ?_)
                clear vg
                have v75 : ev (.tmp 75) = .pointer (some ⟨wr.heap.size, 1, none⟩) := hd 5 (by decide)
                have kx := (Below.cell (p := ⟨wr.heap.size, 1, none⟩) hw hbl).trans b1
                refine rel_val (u := .int .i64 y2) (w' := wv) ?_ (Below.refl _ _) ⟨rfl, fun h => by cases h⟩
                have e1 := hE.const; clear hE hd hw
                go_simp
              · intro ev wv hE hw hd
                have vg : ev (.tmp 74) = .bool false := hd 4 (by decide)
                refine ifw (by show (yv (ev (.tmp 74)) == some false) = true; rw [vg]; rfl) (ifw rfl ?_)
                clear vg
                have v11 : ev (.tmp 11) = .pointer (some ⟨wr.heap.size, 0, none⟩) := hE.tmp 11 rfl
                refine ⟨.pointer (some ⟨wr.heap.size, 0, none⟩), fun w => ?_, rfl⟩
                have e1 := hE.const; have e2 := hE.func; clear hE hd hw
                go_simp
              · intro ev wv hE hw hd
                have vg : ev (.tmp 74) = .bool false := hd 4 (by decide)
                refine ifw (by show (yv (ev (.tmp 74)) == some false) = true; rw [vg]; rfl) (ifn rfl ?_)
                clear vg
                have v77 : ev (.tmp 77) = .pointer (some ⟨wr.heap.size, 0, none⟩) := hd 7 (by decide)
                have kx := (Below.cell (p := ⟨wr.heap.size, 0, none⟩) hw hbl).trans b0
                refine rel_val (u := .int .i64 y1) (w' := wv) ?_ (Below.refl _ _) ⟨rfl, fun h => by cases h⟩
                have e1 := hE.const; clear hE hd hw
                go_simp
              · intro ev wv hE hw hd
                have vg : ev (.tmp 74) = .bool false := hd 4 (by decide)
                refine ifw (by show (yv (ev (.tmp 74)) == some false) = true; rw [vg]; rfl) (ifw rfl ?_)
                clear vg
                have v76 : ev (.tmp 76) = .int .i64 y2 := hd 6 (by decide)
                have v78 : ev (.tmp 78) = .int .i64 y1 := hd 8 (by decide)
                refine ⟨.bool false, fun w => ?_, rfl⟩
                have e1 := hE.const; have e2 := hE.func; clear hE hd hw
                go_simp
              · intro ev wv hE hw hd
                refine ifw rfl (ifw rfl ?_)
                have v74 : ev (.tmp 74) = .bool false := hd 4 (by decide)
                have v79 : ev (.tmp 79) = .bool false := hd 9 (by decide)
                refine ⟨.bool false, fun w => ?_, rfl⟩
                have e1 := hE.const; have e2 := hE.func; clear hE hd hw
                go_simp
              · intro ev wv hE hw hd
                refine ifw rfl (ifw rfl ?_)
                have v80 : ev (.tmp 80) = .bool false := hd 10 (by decide)
                refine ⟨.bool false, fun w => ?_, rfl⟩
                have e1 := hE.const; have e2 := hE.func; clear hE hd hw
                go_simp
              · intro ev wv hE hw hd
                have vg : ev (.tmp 81) = .bool false := hd 11 (by decide)
                refine ifw (by show (yv (ev (.tmp 81)) == some false) = true; rw [vg]; rfl) (ifw rfl ?_)
                clear vg
                have v5 : ev (.tmp 5) = .pointer (some q) := hE.tmp 5 rfl
                refine ⟨.pointer (some q), fun w => ?_, rfl⟩
                have e1 := hE.const; have e2 := hE.func; clear hE hd hw
                go_simp
              · intro ev wv hE hw hd
                have vg : ev (.tmp 81) = .bool false := hd 11 (by decide)
                refine ifw (by show (yv (ev (.tmp 81)) == some false) = true; rw [vg]; rfl) (ifw rfl ?_)
                clear vg
                have v11 : ev (.tmp 11) = .pointer (some ⟨wr.heap.size, 0, none⟩) := hE.tmp 11 rfl
                refine ⟨.pointer (some ⟨wr.heap.size, 0, none⟩), fun w => ?_, rfl⟩
                have e1 := hE.const; have e2 := hE.func; clear hE hd hw
                go_simp
              · intro ev wv hE hw hd
                have vg : ev (.tmp 81) = .bool false := hd 11 (by decide)
                refine ifw (by show (yv (ev (.tmp 81)) == some false) = true; rw [vg]; rfl) (ifn rfl ?_)
                clear vg
                have v83 : ev (.tmp 83) = .pointer (some ⟨wr.heap.size, 0, none⟩) := hd 13 (by decide)
                have kx := (Below.cell (p := ⟨wr.heap.size, 0, none⟩) hw hbl).trans b0
                refine rel_val (u := .int .i64 y1) (w' := wv) ?_ (Below.refl _ _) ⟨rfl, fun h => by cases h⟩
                have e1 := hE.const; clear hE hd hw
                go_simp
              · intro ev wv hE hw hd
                have vg : ev (.tmp 81) = .bool false := hd 11 (by decide)
                refine ifw (by show (yv (ev (.tmp 81)) == some false) = true; rw [vg]; rfl) (ifn rfl ?_)
                clear vg
                have v82 : ev (.tmp 82) = .pointer (some q) := hd 12 (by decide)
                have v84 : ev (.tmp 84) = .int .i64 y1 := hd 14 (by decide)
                refine rel_call (f := 16) (args := #[.pointer (some q), .int .i64 y1]) ?_ (sep_tat HK.out (HW.out.keep hw) (i := 1) rfl (by omega) y1 hf1) ?_
                · have e0 := hE.func; have e1 := hE.const; clear hE hd hw
                  go_simp
                · rintro e w' ⟨rfl, hb⟩
                  exact ⟨_, rfl, hb, rfl, fun h => by cases h⟩
              · intro ev wv hE hw hd
                have vg : ev (.tmp 81) = .bool false := hd 11 (by decide)
                refine ifw (by show (yv (ev (.tmp 81)) == some false) = true; rw [vg]; rfl) (ifw rfl ?_)
                clear vg
                have v11 : ev (.tmp 11) = .pointer (some ⟨wr.heap.size, 0, none⟩) := hE.tmp 11 rfl
                refine ⟨.pointer (some ⟨wr.heap.size, 2, none⟩), fun w => ?_, rfl⟩
                have e1 := hE.const; have e2 := hE.func; clear hE hd hw
                go_simp
              · intro ev wv hE hw hd
                have vg : ev (.tmp 81) = .bool false := hd 11 (by decide)
                refine ifw (by show (yv (ev (.tmp 81)) == some false) = true; rw [vg]; rfl) (ifn rfl ?_)
                clear vg
                have v86 : ev (.tmp 86) = .pointer (some ⟨wr.heap.size, 2, none⟩) := hd 16 (by decide)
                have kx := (Below.cell (p := ⟨wr.heap.size, 2, none⟩) hw hbl).trans b2
                refine rel_val (u := .int .i64 y3) (w' := wv) ?_ (Below.refl _ _) ⟨rfl, fun h => by cases h⟩
                have e1 := hE.const; clear hE hd hw
                go_simp
              · intro ev wv hE hw hd
                have vg : ev (.tmp 81) = .bool false := hd 11 (by decide)
                refine ifw (by show (yv (ev (.tmp 81)) == some false) = true; rw [vg]; rfl) (ifw rfl ?_)
                clear vg
                have v85 : ev (.tmp 85) = .int .i64 y3 := hd 15 (by decide)
                have v87 : ev (.tmp 87) = .int .i64 y3 := hd 17 (by decide)
                refine ⟨.bool false, fun w => ?_, rfl⟩
                have e1 := hE.const; have e2 := hE.func; clear hE hd hw
                go_simp
              · intro ev wv hE hw hd
                refine ifw rfl (ifw rfl ?_)
                have v81 : ev (.tmp 81) = .bool false := hd 11 (by decide)
                have v88 : ev (.tmp 88) = .bool false := hd 18 (by decide)
                refine ⟨.bool false, fun w => ?_, rfl⟩
                have e1 := hE.const; have e2 := hE.func; clear hE hd hw
                go_simp
              · intro ev wv hE hw hd
                refine ifw rfl (ifw rfl ?_)
                have v89 : ev (.tmp 89) = .bool false := hd 19 (by decide)
                refine ⟨.bool false, fun w => ?_, rfl⟩
                have e1 := hE.const; have e2 := hE.func; clear hE hd hw
                go_simp
              · intro ev wv hE hw hd
                have vg : ev (.tmp 90) = .bool false := hd 20 (by decide)
                refine ifw (by show (yv (ev (.tmp 90)) == some false) = true; rw [vg]; rfl) (ifw rfl ?_)
                clear vg
                have v5 : ev (.tmp 5) = .pointer (some q) := hE.tmp 5 rfl
                refine ⟨.pointer (some q), fun w => ?_, rfl⟩
                have e1 := hE.const; have e2 := hE.func; clear hE hd hw
                go_simp
              · intro ev wv hE hw hd
                have vg : ev (.tmp 90) = .bool false := hd 20 (by decide)
                refine ifw (by show (yv (ev (.tmp 90)) == some false) = true; rw [vg]; rfl) (ifw rfl ?_)
                clear vg
                have v11 : ev (.tmp 11) = .pointer (some ⟨wr.heap.size, 0, none⟩) := hE.tmp 11 rfl
                refine ⟨.pointer (some ⟨wr.heap.size, 1, none⟩), fun w => ?_, rfl⟩
                have e1 := hE.const; have e2 := hE.func; clear hE hd hw
                go_simp
              · intro ev wv hE hw hd
                have vg : ev (.tmp 90) = .bool false := hd 20 (by decide)
                refine ifw (by show (yv (ev (.tmp 90)) == some false) = true; rw [vg]; rfl) (ifn rfl ?_)
                clear vg
                have v92 : ev (.tmp 92) = .pointer (some ⟨wr.heap.size, 1, none⟩) := hd 22 (by decide)
                have kx := (Below.cell (p := ⟨wr.heap.size, 1, none⟩) hw hbl).trans b1
                refine rel_val (u := .int .i64 y2) (w' := wv) ?_ (Below.refl _ _) ⟨rfl, fun h => by cases h⟩
                have e1 := hE.const; clear hE hd hw
                go_simp
              · intro ev wv hE hw hd
                have vg : ev (.tmp 90) = .bool false := hd 20 (by decide)
                refine ifw (by show (yv (ev (.tmp 90)) == some false) = true; rw [vg]; rfl) (ifw rfl ?_)
                clear vg
                have v93 : ev (.tmp 93) = .int .i64 y2 := hd 23 (by decide)
                refine ⟨.int .i64 y2', fun w => ?_, rfl⟩
                have e1 := hE.const; have e2 := hE.func; clear hE hd hw
                go_simp
              · intro ev wv hE hw hd
                have vg : ev (.tmp 90) = .bool false := hd 20 (by decide)
                refine ifw (by show (yv (ev (.tmp 90)) == some false) = true; rw [vg]; rfl) (ifn rfl ?_)
                clear vg
                have v91 : ev (.tmp 91) = .pointer (some q) := hd 21 (by decide)
                have v94 : ev (.tmp 94) = .int .i64 y2' := hd 24 (by decide)
                refine rel_call (f := 16) (args := #[.pointer (some q), .int .i64 y2']) ?_ (sep_tat HK.out (HW.out.keep hw) (i := 1) rfl (by omega) y2' hf2) ?_
                · have e0 := hE.func; have e1 := hE.const; clear hE hd hw
                  go_simp
                · rintro e w' ⟨rfl, hb⟩
                  exact ⟨_, rfl, hb, rfl, fun h => by cases h⟩
              · intro ev wv hE hw hd
                have vg : ev (.tmp 90) = .bool false := hd 20 (by decide)
                refine ifw (by show (yv (ev (.tmp 90)) == some false) = true; rw [vg]; rfl) (ifw rfl ?_)
                clear vg
                have v11 : ev (.tmp 11) = .pointer (some ⟨wr.heap.size, 0, none⟩) := hE.tmp 11 rfl
                refine ⟨.pointer (some ⟨wr.heap.size, 2, none⟩), fun w => ?_, rfl⟩
                have e1 := hE.const; have e2 := hE.func; clear hE hd hw
                go_simp
              · intro ev wv hE hw hd
                have vg : ev (.tmp 90) = .bool false := hd 20 (by decide)
                refine ifw (by show (yv (ev (.tmp 90)) == some false) = true; rw [vg]; rfl) (ifn rfl ?_)
                clear vg
                have v96 : ev (.tmp 96) = .pointer (some ⟨wr.heap.size, 2, none⟩) := hd 26 (by decide)
                have kx := (Below.cell (p := ⟨wr.heap.size, 2, none⟩) hw hbl).trans b2
                refine rel_val (u := .int .i64 y3) (w' := wv) ?_ (Below.refl _ _) ⟨rfl, fun h => by cases h⟩
                have e1 := hE.const; clear hE hd hw
                go_simp
              · intro ev wv hE hw hd
                have vg : ev (.tmp 90) = .bool false := hd 20 (by decide)
                refine ifw (by show (yv (ev (.tmp 90)) == some false) = true; rw [vg]; rfl) (ifw rfl ?_)
                clear vg
                have v95 : ev (.tmp 95) = .int .i64 y3 := hd 25 (by decide)
                have v97 : ev (.tmp 97) = .int .i64 y3 := hd 27 (by decide)
                refine ⟨.bool false, fun w => ?_, rfl⟩
                have e1 := hE.const; have e2 := hE.func; clear hE hd hw
                go_simp
              · intro ev wv hE hw hd
                refine ifw rfl (ifw rfl ?_)
                have v90 : ev (.tmp 90) = .bool false := hd 20 (by decide)
                have v98 : ev (.tmp 98) = .bool false := hd 28 (by decide)
                refine ⟨.bool false, fun w => ?_, rfl⟩
                have e1 := hE.const; have e2 := hE.func; clear hE hd hw
                go_simp
              · intro ev wv hE hw hd
                refine ifw rfl (ifw rfl ?_)
                have v99 : ev (.tmp 99) = .bool false := hd 29 (by decide)
                refine ⟨.bool false, fun w => ?_, rfl⟩
                have e1 := hE.const; have e2 := hE.func; clear hE hd hw
                go_simp
              · intro ev wv hE hw hd
                have vg : ev (.tmp 100) = .bool false := hd 30 (by decide)
                refine ifw (by show (yv (ev (.tmp 100)) == some false) = true; rw [vg]; rfl) (ifw rfl ?_)
                clear vg
                have v10 : ev (.tmp 10) = .int .i64 ((j : Int) + 1) := hE.tmp 10 rfl
                refine ⟨.int .i64 ((j : Int) + 1), fun w => ?_, rfl⟩
                have e1 := hE.const; have e2 := hE.func; clear hE hd hw
                go_simp
              · intro ev wv hE hw hd
                have vg : ev (.tmp 100) = .bool false := hd 30 (by decide)
                refine ifw (by show (yv (ev (.tmp 100)) == some false) = true; rw [vg]; rfl) (ifw rfl ?_)
                clear vg
                have v101 : ev (.tmp 101) = .int .i64 ((j : Int) + 1) := hd 31 (by decide)
                refine ⟨.bool true, fun w => ?_, rfl⟩
                have e1 := hE.const; have e2 := hE.func; clear hE hd hw
                go_simp
              · intro ev wv hE hw hd
                have vg : ev (.tmp 100) = .bool false := hd 30 (by decide)
                refine ifw (by show (yv (ev (.tmp 100)) == some false) = true; rw [vg]; rfl) (ifw rfl ?_)
                clear vg
                have v102 : ev (.tmp 102) = .bool true := hd 32 (by decide)
                refine ⟨.bool true, fun w => ?_, rfl⟩
                have e1 := hE.const; have e2 := hE.func; clear hE hd hw
                go_simp
              · intro ev wv hE hw hd
                have vg : ev (.tmp 103) = .bool true := hd 33 (by decide)
                refine ifw (by show (yv (ev (.tmp 103)) == some true) = true; rw [vg]; rfl) (ifw rfl ?_)
                clear vg
                have v8 : ev (.tmp 8) = .slice (some ⟨g8, off8, none⟩) n8 c8 := hE.tmp 8 rfl
                refine ⟨.slice (some ⟨g8, off8, none⟩) n8 c8, fun w => ?_, rfl⟩
                have e1 := hE.const; have e2 := hE.func; clear hE hd hw
                go_simp
              · intro ev wv hE hw hd
                have vg : ev (.tmp 103) = .bool true := hd 33 (by decide)
                refine ifw (by show (yv (ev (.tmp 103)) == some true) = true; rw [vg]; rfl) (ifw rfl ?_)
                clear vg
                have v10 : ev (.tmp 10) = .int .i64 ((j : Int) + 1) := hE.tmp 10 rfl
                refine ⟨.int .i64 ((j : Int) + 1), fun w => ?_, rfl⟩
                have e1 := hE.const; have e2 := hE.func; clear hE hd hw
                go_simp
              · intro ev wv hE hw hd
                have vg : ev (.tmp 103) = .bool true := hd 33 (by decide)
                refine ifw (by show (yv (ev (.tmp 103)) == some true) = true; rw [vg]; rfl) (ifw rfl ?_)
                clear vg
                have v105 : ev (.tmp 105) = .int .i64 ((j : Int) + 1) := hd 35 (by decide)
                refine ⟨.int .i64 (j : Int), fun w => ?_, rfl⟩
                have e1 := hE.const; have e2 := hE.func; clear hE hd hw
                go_simp
              · intro ev wv hE hw hd
                have vg : ev (.tmp 103) = .bool true := hd 33 (by decide)
                refine ifw (by show (yv (ev (.tmp 103)) == some true) = true; rw [vg]; rfl) (ifw rfl ?_)
                clear vg
                have v104 : ev (.tmp 104) = .slice (some ⟨g8, off8, none⟩) n8 c8 := hd 34 (by decide)
                have v106 : ev (.tmp 106) = .int .i64 (j : Int) := hd 36 (by decide)
                refine ⟨.pointer (some ⟨g8, off8 + j * 3, none⟩), fun w => ?_, rfl⟩
                have e1 := hE.const; have e2 := hE.func; clear hE hd hw
                go_simp
              · intro ev wv hE hw hd
                have vg : ev (.tmp 103) = .bool true := hd 33 (by decide)
                refine ifw (by show (yv (ev (.tmp 103)) == some true) = true; rw [vg]; rfl) (ifw rfl ?_)
                clear vg
                have v107 : ev (.tmp 107) = .pointer (some ⟨g8, off8 + j * 3, none⟩) := hd 37 (by decide)
                refine ⟨.pointer (some ⟨g8, off8 + j * 3 + 2, none⟩), fun w => ?_, rfl⟩
                have e1 := hE.const; have e2 := hE.func; clear hE hd hw
                go_simp
              · intro ev wv hE hw hd
                have vg : ev (.tmp 103) = .bool true := hd 33 (by decide)
                refine ifw (by show (yv (ev (.tmp 103)) == some true) = true; rw [vg]; rfl) (ifn rfl ?_)
                clear vg
                have v108 : ev (.tmp 108) = .pointer (some ⟨g8, off8 + j * 3 + 2, none⟩) := hd 38 (by decide)
                have kx := (Below.cell (p := ⟨g8, off8 + j * 3 + 2, none⟩) hw hgl).trans pz
                refine rel_val (u := .int .i64 z3) (w' := wv) ?_ (Below.refl _ _) ⟨rfl, fun h => by cases h⟩
                have e1 := hE.const; clear hE hd hw
                go_simp
              · intro ev wv hE hw hd
                have vg : ev (.tmp 103) = .bool true := hd 33 (by decide)
                refine ifw (by show (yv (ev (.tmp 103)) == some true) = true; rw [vg]; rfl) (ifw rfl ?_)
                clear vg
                have v11 : ev (.tmp 11) = .pointer (some ⟨wr.heap.size, 0, none⟩) := hE.tmp 11 rfl
                refine ⟨.pointer (some ⟨wr.heap.size, 2, none⟩), fun w => ?_, rfl⟩
                have e1 := hE.const; have e2 := hE.func; clear hE hd hw
                go_simp
              · intro ev wv hE hw hd
                have vg : ev (.tmp 103) = .bool true := hd 33 (by decide)
                refine ifw (by show (yv (ev (.tmp 103)) == some true) = true; rw [vg]; rfl) (ifn rfl ?_)
                clear vg
                have v110 : ev (.tmp 110) = .pointer (some ⟨wr.heap.size, 2, none⟩) := hd 40 (by decide)
                have kx := (Below.cell (p := ⟨wr.heap.size, 2, none⟩) hw hbl).trans b2
                refine rel_val (u := .int .i64 y3) (w' := wv) ?_ (Below.refl _ _) ⟨rfl, fun h => by cases h⟩
                have e1 := hE.const; clear hE hd hw
                go_simp
              · intro ev wv hE hw hd
                have vg : ev (.tmp 103) = .bool true := hd 33 (by decide)
                refine ifw (by show (yv (ev (.tmp 103)) == some true) = true; rw [vg]; rfl) (ifw rfl ?_)
                clear vg
                have v109 : ev (.tmp 109) = .int .i64 z3 := hd 39 (by decide)
                have v111 : ev (.tmp 111) = .int .i64 y3 := hd 41 (by decide)
                refine ⟨.bool false, fun w => ?_, rfl⟩
                have e1 := hE.const; have e2 := hE.func; clear hE hd hw
                go_simp
              · intro ev wv hE hw hd
                have vg : ev (.tmp 100) = .bool false := hd 30 (by decide)
                refine ifw (by show (yv (ev (.tmp 100)) == some false) = true; rw [vg]; rfl) (ifw rfl ?_)
                clear vg
                have v103 : ev (.tmp 103) = .bool true := hd 33 (by decide)
                have v112 : ev (.tmp 112) = .bool false := hd 42 (by decide)
                refine ⟨.bool false, fun w => ?_, rfl⟩
                have e1 := hE.const; have e2 := hE.func; clear hE hd hw
                go_simp
              · intro ev wv hE hw hd
                refine ifw rfl (ifw rfl ?_)
                have v100 : ev (.tmp 100) = .bool false := hd 30 (by decide)
                have v113 : ev (.tmp 113) = .bool false := hd 43 (by decide)
                refine ⟨.bool false, fun w => ?_, rfl⟩
                have e1 := hE.const; have e2 := hE.func; clear hE hd hw
                go_simp
              · intro wz hw
                intro v0 h0 _ v1 h1 _ v2 h2 _ v3 h3 _ v4 h4 _ v5 h5 _ v6 h6 _ v7 h7 _ v8 h8 _ v9 h9 _ v10 h10 _ v11 h11 _ v12 h12 _ v13 h13 _ v14 h14 _ v15 h15 _ v16 h16 _ v17 h17 _ v18 h18 _ v19 h19 _ v20 h20 _ v21 h21 _ v22 h22 _ v23 h23 _ v24 h24 _ v25 h25 _ v26 h26 _ v27 h27 _ v28 h28 _ v29 h29 _ v30 h30 _ v31 h31 _ v32 h32 _ v33 h33 _ v34 h34 _ v35 h35 _ v36 h36 _ v37 h37 _ v38 h38 _ v39 h39 _ v40 h40 _ v41 h41 _ v42 h42 _ v43 h43 _ v44 h44 _
                simp only [Act.put, List.setIfInBounds_toArray, List.set_cons_zero, List.set_cons_succ, List.drop_succ_cons, List.drop_zero]
                obtain rfl : v0 = _ := h0
                obtain rfl : v1 = _ := h1
                obtain rfl : v2 = _ := h2
                obtain rfl : v3 = _ := h3
                obtain rfl : v4 = _ := h4
                obtain rfl : v5 = _ := h5
                obtain rfl : v6 = _ := h6
                obtain rfl : v7 = _ := h7
                obtain rfl : v8 = _ := h8
                obtain rfl : v9 = _ := h9
                obtain rfl : v10 = _ := h10
                obtain rfl : v11 = _ := h11
                obtain rfl : v12 = _ := h12
                obtain rfl : v13 = _ := h13
                obtain rfl : v14 = _ := h14
                obtain rfl : v15 = _ := h15
                obtain rfl : v16 = _ := h16
                obtain rfl : v17 = _ := h17
                obtain rfl : v18 = _ := h18
                obtain rfl : v19 = _ := h19
                obtain rfl : v20 = _ := h20
                obtain rfl : v21 = _ := h21
                obtain rfl : v22 = _ := h22
                obtain rfl : v23 = _ := h23
                obtain rfl : v24 = _ := h24
                obtain rfl : v25 = _ := h25
                obtain rfl : v26 = _ := h26
                obtain rfl : v27 = _ := h27
                obtain rfl : v28 = _ := h28
                obtain rfl : v29 = _ := h29
                obtain rfl : v30 = _ := h30
                obtain rfl : v31 = _ := h31
                obtain rfl : v32 = _ := h32
                obtain rfl : v33 = _ := h33
                obtain rfl : v34 = _ := h34
                obtain rfl : v35 = _ := h35
                obtain rfl : v36 = _ := h36
                obtain rfl : v37 = _ := h37
                obtain rfl : v38 = _ := h38
                obtain rfl : v39 = _ := h39
                obtain rfl : v40 = _ := h40
                obtain rfl : v41 = _ := h41
                obtain rfl : v42 = _ := h42
                obtain rfl : v43 = _ := h43
                obtain rfl : v44 = _ := h44
                change wpList Try.prog _ _ _ _ wz
                have HBZ := Lib.hid (HBW.out.trans (Below.mono hw HBW.out.size))
                have b1 := (Below.cell (p := ⟨wr.heap.size, 1, none⟩) hw hbl).trans b1
                clear hw HW HBW b0 b2 hbl
                go_wp2_with fail
                refine calm_normal ?_
                go_wp2_with fail
                go_roundw
                case rel => exact ⟨j + 1 + 1, by go_num, by omega, HE.out, HBZ.out⟩
                case measure => simp [intOf]; omega
          · have hi8 : i = n8 := by omega
            have HEND := Lib.hid (show endAt a out i = b by rw [hi8, ← HN8.out]; exact cov_end HC.out)
            have y1 := (Below.cell (p := ⟨w.heap.size, 1, none⟩) HB.out y0l).trans y1
            rw [HEND.out]
            have HB8 := Lib.hid ((HS8.out.keep HB.out).bl)
            go_wp2_with fail
            refine (tlknown_any HK.out _).mono ?_
            rintro e w9 ⟨rfl, b9⟩
            have HB9 := Lib.hid (HB8.out.trans (b9.mono HB8.out.size))
            clear b9
            go_wp2_with fail
            go_ret
            exact ⟨rfl, HB9.out⟩
      · have hout : out = [] := by unfold segF at hsg; rw [if_neg hm] at hsg; exact hsg
        subst hout
        obtain rfl : n8 = 0 := HN8.out.symm
        have HEND : ∀ e w', RetEnds 3 w8 f a b e w' → ∃ Ae ce, e = .returned (.slice Ae 0 ce) ∧ Below w8.heap.size w8 w' := by
          rintro e w' ⟨out2, Ae, ne, ce, rfl, hs2, oe, be⟩
          obtain rfl := segF_one hs2 hsg
          have hl := (own_lies oe).len
          obtain rfl : ne = 0 := by simpa [endsL, ints] using hl.symm
          exact ⟨Ae, ce, rfl, be⟩
        have HSE := Lib.hid (sep_tends HK.out HS8.out (i := 1) rfl (by omega) a b)
        have hmm : a < 1 ∨ ¬ a < b ∨ 3652060 < b := by
          by_cases h1 : a < 1
          · exact .inl h1
          · by_cases h2 : a < b
            · by_cases h3 : 3652060 < b
              · exact .inr (.inr h3)
              · exact absurd (mayB_iff.2 ⟨by omega, h2, by omega⟩) hm
            · exact .inr (.inl h2)
        clear hsg hm
        by_cases h1 : a < 1
        · have e1 : decide (a < 1) = true := decide_eq_true h1
          go_wp2_with fail
          refine HSE.out.mono ?_
          intro e w9 hre
          obtain ⟨Ae, ce, rfl, be⟩ := HEND e w9 hre
          have HB8 := Lib.hid ((HS8.out.keep be).bl)
          clear be hre
          go_wp2_with fail
          refine (tlknown_any HK.out _).mono ?_
          rintro e w10 ⟨rfl, b9⟩
          have HB9 := Lib.hid (HB8.out.trans (b9.mono HB8.out.size))
          clear b9
          go_wp2_with fail
          go_ret
          exact ⟨rfl, HB9.out⟩
        · have e1 : decide (a < 1) = false := decide_eq_false h1
          by_cases h2 : a < b
          · have e2 : decide (a ≥ b) = false := decide_eq_false (by omega)
            have e3 : decide (b > 3652060) = true := decide_eq_true (by omega)
            go_wp2_with fail
            refine HSE.out.mono ?_
            intro e w9 hre
            obtain ⟨Ae, ce, rfl, be⟩ := HEND e w9 hre
            have HB8 := Lib.hid ((HS8.out.keep be).bl)
            clear be hre
            go_wp2_with fail
            refine (tlknown_any HK.out _).mono ?_
            rintro e w10 ⟨rfl, b9⟩
            have HB9 := Lib.hid (HB8.out.trans (b9.mono HB8.out.size))
            clear b9
            go_wp2_with fail
            go_ret
            exact ⟨rfl, HB9.out⟩
          · have e2 : decide (a ≥ b) = true := decide_eq_true (by omega)
            go_wp2_with fail
            refine HSE.out.mono ?_
            intro e w9 hre
            obtain ⟨Ae, ce, rfl, be⟩ := HEND e w9 hre
            have HB8 := Lib.hid ((HS8.out.keep be).bl)
            clear be hre
            go_wp2_with fail
            refine (tlknown_any HK.out _).mono ?_
            rintro e w10 ⟨rfl, b9⟩
            have HB9 := Lib.hid (HB8.out.trans (b9.mono HB8.out.size))
            clear b9
            go_wp2_with fail
            go_ret
            exact ⟨rfl, HB9.out⟩
theorem tlshape_any {Rep : RepL} (K : TlK Rep) (A : Option Addr) (N c : Nat) (l : ItL) (a b : Int) (w : World) (Rl : Itm w A N c l) : Calls Try.prog 5 #[.slice A N c, .agg #[.int .i64 a, .int .i64 b]] w fun e w' => e = .returned (.bool true) ∧ Below w.heap.size w w' := by
  by_cases hN : N ≤ 60
  · exact tlshape_main K A N c l a b w Rl hN
  · exact tlshape_long K A N c l a b w Rl hN
end Go.Proofs.Ytockjcainkoifaa
