/- The law ItreeAnswers. -/
import Derived.Test.YtolmkagedlcjiaaItK
import Derived.Test.YtolmkagedlcjiaaRowRel
namespace Corr
set_option maxRecDepth 8000
open Go Go.RowKit
/-- No tree of the program's. -/
def RepN : RepT := fun _ _ F _ _ => ∀ k, ¬ F k
theorem repN : RepOk RepN := ⟨fun h k hk => absurd hk (h k), fun h _ _ => h⟩
end Corr
namespace Go.Proofs.Ytolmkagedlcjiaa
set_option maxRecDepth 8000
open Go.RowKit Corr
set_option linter.unusedVariables false
set_option linter.unusedSimpArgs false
theorem itsame_yes {A B : Option Addr} {n c m d : Nat} {l : ItL} {w : World} (R : Itm w A n c l) (S : Itm w B m d l) (hl : l.length ≤ 100000) : Calls Try.prog 13 #[.slice A n c, .slice B m d] w fun e w' => e = .returned (.bool true) ∧ Below w.heap.size w w' := by
  have := isame_any A B n c m d l l w R S (by rw [← R.count]; omega) (by rw [← S.count]; omega)
  rwa [decide_eq_true rfl] at this
/-- The document's tree alone, and blocks beside it. -/
def DocE (w0 : World) (g : Nat) (l : ItL) (os : List (Nat × Array Value)) (w : World) : Prop := PairE RepN 30 w0.heap.size w0 (.pointer none) g 1000 [] l os w
section
variable {w0 w w' : World} {g : Nat} {l : ItL} {os : List (Nat × Array Value)}
theorem doc_ins (h : DocE w0 g l os w) (hl : l.length ≤ 100000) (x : It) : Calls Try.prog 7 #[.pointer (some ⟨g, 0, none⟩), itV x] w fun e w' => e = .returned (.int .i64 (insR 1000 x l)) ∧ DocE w0 g (insL 1000 x l) os w' := by
  obtain ⟨F, A, n, c, h⟩ := h
  refine (rins_all h.tree hl x).mono fun e w' hq => ?_
  obtain ⟨he, A', n', c', ht, ho, ha⟩ := hq
  exact ⟨he, F, A', n', c', h.doc repN ht ho ha⟩
theorem doc_keep (h : DocE w0 g l os w) (hb : Below w.heap.size w w') : DocE w0 g l os w' := by
  obtain ⟨F, A, n, c, h⟩ := h; exact ⟨F, A, n, c, h.keep repN hb⟩
theorem doc_push (h : DocE w0 g l os w) (vs : Array Value) (U : TypeId) : DocE w0 g l ((w.heap.size, vs) :: os) (w.alloc (.cells vs U)) := by
  obtain ⟨F, A, n, c, h⟩ := h; exact ⟨F, A, n, c, h.push repN vs U⟩
theorem doc_tail {q : Nat × Array Value} (h : DocE w0 g l (q :: os) w) : DocE w0 g l os w := by
  obtain ⟨F, A, n, c, h⟩ := h; exact ⟨F, A, n, c, h.less fun q hq => List.mem_cons_of_mem _ hq⟩
theorem doc_bl (h : DocE w0 g l os w) : Below w0.heap.size w0 w := by obtain ⟨_, _, _, _, h⟩ := h; exact h.bl
theorem doc_b (h : DocE w0 g l os w) (i : Nat) {k : Nat} {vs : Array Value} (hi : os[i]? = some (k, vs)) : Blk w k vs := by obtain ⟨_, _, _, _, h⟩ := h; exact (h.oth _ (List.mem_of_getElem? hi)).1
theorem doc_tree (h : DocE w0 g l os w) : ∃ A n c, RTree w g A n c l := by obtain ⟨_, A, n, c, h⟩ := h; exact ⟨A, n, c, h.tree.r⟩
end
theorem find_it (o : Option It) : ∃ (y1 y2 y3 : Int) (b : Bool), oneI o = .tuple #[.agg #[.int .i64 y1, .int .i64 y2, .int .i64 y3], .bool b] := ⟨_, _, _, _, rfl⟩
theorem itans_long {Rep : RepT} (K : ItK Rep) (A : Option Addr) (N c : Nat) (l : ItL) (day a b : Int) (w : World) (Rl : Itm w A N c l) (hN : ¬ N ≤ 150) : Calls Try.prog 3 #[.slice A N c, .int .i64 day, .agg #[.int .i64 a, .int .i64 b]] w fun e w' => e = .returned (.bool true) ∧ Below w.heap.size w w' := by
  have d0 : decide ((N : Int) > 150) = true := decide_eq_true (by omega)
  have HK := Lib.hid K
  have hb := (Below.refl w.heap.size w).alloc (Nat.le_refl _) (.cells #[.int .i64 a, .int .i64 b] 24)
  have HB := Lib.hid hb
  clear K Rl hN hb
  go_enter Try.func3, Try.ntmps3
  go_wp2_with fail
  refine (itknown_any HK.out _).mono ?_
  rintro e w1 ⟨rfl, hb⟩
  have HB2 := Lib.hid (HB.out.trans (hb.mono HB.out.size))
  clear hb
  go_wp2_with fail
  go_ret
  exact ⟨rfl, HB2.out⟩
set_option maxHeartbeats 8000000 in
theorem itans_main {Rep : RepT} (K : ItK Rep) (A : Option Addr) (N c : Nat) (l : ItL) (day a b : Int) (w : World) (Rl : Itm w A N c l) (hRl : okR l) (hN : N ≤ 150) : Calls Try.prog 3 #[.slice A N c, .int .i64 day, .agg #[.int .i64 a, .int .i64 b]] w fun e w' => e = .returned (.bool true) ∧ Below w.heap.size w w' := by
  have d0 : decide ((N : Int) > 150) = false := decide_eq_false (by omega)
  have HRL := Lib.hid hRl
  clear hRl
  have HK := Lib.hid K
  have HR := Lib.hid Rl
  have HL := Lib.hid (Itm.count Rl)
  have HD0 := Lib.hid (show DocE w (w.heap.size + 1) [] [(w.heap.size, #[.int .i64 a, .int .i64 b])] ((w.alloc (.cells #[.int .i64 a, .int .i64 b] 24)).alloc (.cells #[.int .i64 1000, .slice none 0 0] 28)) from by
    have hb1 := (Below.refl w.heap.size w).alloc (Nat.le_refl _) (.cells #[.int .i64 a, .int .i64 b] 24)
    have hb2 := (Below.refl (w.alloc (.cells #[.int .i64 a, .int .i64 b] 24)).heap.size (w.alloc (.cells #[.int .i64 a, .int .i64 b] 24))).alloc (Nat.le_refl _) (.cells #[.int .i64 1000, .slice none 0 0] 28)
    have B2 := Blk.new (w.alloc (.cells #[.int .i64 a, .int .i64 b] 24)) #[.int .i64 1000, .slice none 0 0] 28
    simp only [size_alloc] at B2
    refine ⟨fun _ => False, none, 0, 0, fun _ h => h, ⟨B2, World.ownsRow_nil _ _ _ _⟩, fun h => h, (fun k hk => by cases hk), (fun _ h => h.elim), Nat.le_succ _, (fun k hk => by cases hk), fun q hq => ?_, hb1.trans (hb2.mono hb1.size), by simp; omega⟩
    rcases List.mem_singleton.1 hq with rfl
    exact ⟨(Blk.new w #[.int .i64 a, .int .i64 b] 24).keep hb2, fun h => h, (by show w.heap.size ≠ w.heap.size + 1; omega), (fun k hk => by cases hk)⟩)
  clear K Rl
  go_enter Try.func3, Try.ntmps3
  go_wp2_with fail
  go_loopw [27] (fun u wr => ∃ k : Nat, u = .int .i64 (k : Int) ∧ k ≤ N ∧ DocE w (w.heap.size + 1) (insAll (l.take k)) [(w.heap.size, #[.int .i64 a, .int .i64 b])] wr) (fun u _ => (N - intOf u).toNat)
  case atStart => exact ⟨0, rfl, by omega, by simpa [insAll] using HD0.out⟩
  case round =>
    obtain ⟨k, rfl, hk, hd⟩ := hrel
    have HD := Lib.hid hd
    clear hd HD0
    by_cases hlt : k < N
    · obtain ⟨ga, off, s, rfl, hs, hga, c0, c1, c2⟩ := Itm.get (HR.out.keep (doc_bl HD.out)) hlt
      obtain ⟨x1, x2, x3⟩ := s
      have HX := Lib.hid hs
      have HP := Lib.hid (doc_push HD.out #[.int .i64 x1, .int .i64 x2, .int .i64 x3] 30)
      have B9 := Blk.new wr #[.int .i64 x1, .int .i64 x2, .int .i64 x3] 30
      have y0 := B9.get 0 rfl; have y1 := B9.get 1 rfl; have y2 := B9.get 2 rfl
      clear hs B9
      go_wp2_with fail
      refine (doc_ins HP.out (by have := insAll_len l k; omega) (x1, x2, x3)).mono ?_
      rintro e w5 ⟨rfl, hd5⟩
      have HD5 := Lib.hid (show DocE w (w.heap.size + 1) (insAll (l.take (k + 1))) [(w.heap.size, #[.int .i64 a, .int .i64 b])] w5 by rw [insAll_more HX.out]; exact doc_tail hd5)
      clear hd5
      go_wp2_with fail
      go_roundw
      case rel => exact ⟨k + 1, by go_num, by omega, HD5.out⟩
      case measure => simp [intOf]; omega
    · have hd1 := HD.out
      rw [show l.take k = l from List.take_of_length_le (by rw [HL.out]; omega)] at hd1
      have HD1 := Lib.hid hd1
      have HLL := Lib.hid (show (insAll l).length ≤ 150 by have := insAll_length l; have := HL.out; omega)
      have HMD := Lib.hid (lmade_any HK.out.toAvlK0 _ _ _ l wr (HR.out.keep (doc_bl HD1.out)) (by omega))
      clear HD hd1
      have HOK := Lib.hid (ok_insAll HRL.out)
      clear HRL
      generalize insAll l = L at *
      go_wp2_with fail
      refine HMD.out.mono ?_
      rintro e w2 ⟨q, rfl, s2⟩
      have HD2 := Lib.hid (doc_keep HD1.out s2.bl)
      have S2 := Lib.hid s2
      clear s2 HD1 HMD
      obtain ⟨o1, ho1⟩ : ∃ o, L.find? (fun y => decide (y.1 ≥ day)) = o := ⟨_, rfl⟩
      obtain ⟨o2, ho2⟩ : ∃ o, L.reverse.find? (fun y => decide (y.1 ≤ day)) = o := ⟨_, rfl⟩
      have HO1 := Lib.hid ho1
      have HO2 := Lib.hid ho2
      obtain ⟨y1, y2, y3, bo, hy⟩ := find_it o1
      obtain ⟨z1, z2, z3, bl, hz⟩ := find_it o2
      clear ho1 ho2
      go_wp2_with fail
      refine (solo_first HK.out S2.out (by have := HLL.out; omega) day HO1.out).mono ?_
      rintro e w3 ⟨rfl, b3⟩
      rw [hy]
      have S3 := Lib.hid ((S2.out.keep HK.out.toRepOk b3).push HK.out.toRepOk #[.int .i64 y1, .int .i64 y2, .int .i64 y3] 30)
      have HD3 := Lib.hid (doc_push (doc_keep HD2.out b3) #[.int .i64 y1, .int .i64 y2, .int .i64 y3] 30)
      clear b3 S2 HD2
      go_wp2_with fail
      refine (solo_last HK.out S3.out (by have := HLL.out; omega) day HO2.out).mono ?_
      rintro e w4 ⟨rfl, b4⟩
      rw [hz]
      have S4 := Lib.hid ((S3.out.keep HK.out.toRepOk b4).push HK.out.toRepOk #[.int .i64 z1, .int .i64 z2, .int .i64 z3] 30)
      have HD4 := Lib.hid (doc_push (doc_keep HD3.out b4) #[.int .i64 z1, .int .i64 z2, .int .i64 z3] 30)
      obtain ⟨A4, n4, c4, t4⟩ := doc_tree HD4.out
      have HT4 := Lib.hid t4
      have tc := t4.s
      clear b4 S3 HD3 t4
      go_wp2_with fail
      refine (first_any A4 n4 c4 L day _ HT4.out.i (by rw [← Itm.count HT4.out.i]; have := HLL.out; omega)).mono ?_
      rintro e w5 ⟨rfl, b5⟩
      rw [HO1.out, hy]
      have S5 := Lib.hid ((S4.out.keep HK.out.toRepOk b5).push HK.out.toRepOk #[.int .i64 y1, .int .i64 y2, .int .i64 y3] 30)
      have HD5 := Lib.hid (doc_push (doc_keep HD4.out b5) #[.int .i64 y1, .int .i64 y2, .int .i64 y3] 30)
      have HT5 := Lib.hid (RTree.keep (RTree.keep HT4.out b5) ((Below.refl _ _).alloc (Nat.le_refl _) (.cells #[.int .i64 y1, .int .i64 y2, .int .i64 y3] 30)))
      clear b5 S4 HD4 tc HT4
      have tc := HT5.out.s
      go_wp2_with fail
      refine (last_any A4 n4 c4 L day _ HT5.out.i (by rw [← Itm.count HT5.out.i]; have := HLL.out; omega)).mono ?_
      rintro e w6 ⟨rfl, b6⟩
      rw [HO2.out, hz]
      have S6 := Lib.hid ((S5.out.keep HK.out.toRepOk b6).push HK.out.toRepOk #[.int .i64 z1, .int .i64 z2, .int .i64 z3] 30)
      have HD6 := Lib.hid (doc_push (doc_keep HD5.out b6) #[.int .i64 z1, .int .i64 z2, .int .i64 z3] 30)
      have HT6 := Lib.hid (RTree.keep (RTree.keep HT5.out b6) ((Below.refl _ _).alloc (Nat.le_refl _) (.cells #[.int .i64 z1, .int .i64 z2, .int .i64 z3] 30)))
      clear b6 S5 HD5 tc HT5 hy hz
      have tc := HT6.out.s
      have tl := HT6.out.lt
      have B0 := S6.out.b 0 rfl
      have m00 := B0.get 0 rfl; have m01 := B0.get 1 rfl; have m02 := B0.get 2 rfl; have ml0 := B0.sz; clear B0
      have B1 := S6.out.b 1 rfl
      have m10 := B1.get 0 rfl; have m11 := B1.get 1 rfl; have m12 := B1.get 2 rfl; have ml1 := B1.sz; clear B1
      have B2 := S6.out.b 2 rfl
      have m20 := B2.get 0 rfl; have m21 := B2.get 1 rfl; have m22 := B2.get 2 rfl; have ml2 := B2.sz; clear B2
      have B3 := S6.out.b 3 rfl
      have m30 := B3.get 0 rfl; have m31 := B3.get 1 rfl; have m32 := B3.get 2 rfl; have ml3 := B3.sz; clear B3
      have B5 := doc_b HD6.out 4 rfl
      have p0 := B5.get 0 rfl; have p1 := B5.get 1 rfl; have pl := B5.sz; clear B5
      go_upto_region 16 with fail
      refine wp_region_rel 45 (Ext (w6.alloc (.cells #[.int .i64 z1, .int .i64 z2, .int .i64 z3] 30)))
        (fun i => List.getD [VE (.pointer (some q)), VE (.int .i64 day), VSl 3 (cells3 (L.filter (stabB day))), VE (.pointer (some ⟨w.heap.size + 1, 0, none⟩)), VE (.pointer (some ⟨w.heap.size + 1, 0, none⟩)), VE (.pointer (some ⟨w.heap.size + 1, 1, none⟩)), VE (.slice A4 n4 c4), VE (.int .i64 day), VSl 3 (cells3 (L.filter (stabB day))), VE (.bool true), VE (.bool true), VE (.pointer (some q)), VE (.agg #[.int .i64 a, .int .i64 b]), VSl 3 (cells3 (L.filter (overB a b))), VE (.pointer (some ⟨w.heap.size + 1, 0, none⟩)), VE (.pointer (some ⟨w.heap.size + 1, 0, none⟩)), VE (.pointer (some ⟨w.heap.size + 1, 1, none⟩)), VE (.slice A4 n4 c4), VE (.agg #[.int .i64 a, .int .i64 b]), VSl 3 (cells3 (L.filter (overB a b))), VE (.bool true), VE (.bool true), VE (.bool true), VE (.agg #[.int .i64 y1, .int .i64 y2, .int .i64 y3]), VE (.agg #[.int .i64 y1, .int .i64 y2, .int .i64 y3]), VE (.bool true), VE (.bool true), VE (.bool true), VE (.bool bo), VE (.bool bo), VE (.bool true), VE (.bool true), VE (.bool true), VE (.agg #[.int .i64 z1, .int .i64 z2, .int .i64 z3]), VE (.agg #[.int .i64 z1, .int .i64 z2, .int .i64 z3]), VE (.bool true), VE (.bool true), VE (.bool true), VE (.bool bl), VE (.bool bl), VE (.bool true), VE (.bool true), VE (.bool true), VE (.bool true), VE (.bool true)] i (fun _ _ => False)) [] [0, 1, 3, 4, 5, 7, 10, 11, 14, 15, 16, 21, 22, 25, 26, 27, 28, 29, 30, 31, 32, 35, 36, 37, 38, 39, 40, 41, 42, 44] (by kernel_rfl) (by kernel_rfl) (Ext.start (w6.alloc (.cells #[.int .i64 z1, .int .i64 z2, .int .i64 z3] 30))) (fun _ _ h hb => h.grow hb)
        (stays_all (stays_cons (stays_VE _) (stays_cons (stays_VE _) (stays_cons (stays_VSl _ _) (stays_cons (stays_VE _) (stays_cons (stays_VE _) (stays_cons (stays_VE _) (stays_cons (stays_VE _) (stays_cons (stays_VE _) (stays_cons (stays_VSl _ _) (stays_cons (stays_VE _) (stays_cons (stays_VE _) (stays_cons (stays_VE _) (stays_cons (stays_VE _) (stays_cons (stays_VSl _ _) (stays_cons (stays_VE _) (stays_cons (stays_VE _) (stays_cons (stays_VE _) (stays_cons (stays_VE _) (stays_cons (stays_VE _) (stays_cons (stays_VSl _ _) (stays_cons (stays_VE _) (stays_cons (stays_VE _) (stays_cons (stays_VE _) (stays_cons (stays_VE _) (stays_cons (stays_VE _) (stays_cons (stays_VE _) (stays_cons (stays_VE _) (stays_cons (stays_VE _) (stays_cons (stays_VE _) (stays_cons (stays_VE _) (stays_cons (stays_VE _) (stays_cons (stays_VE _) (stays_cons (stays_VE _) (stays_cons (stays_VE _) (stays_cons (stays_VE _) (stays_cons (stays_VE _) (stays_cons (stays_VE _) (stays_cons (stays_VE _) (stays_cons (stays_VE _) (stays_cons (stays_VE _) (stays_cons (stays_VE _) (stays_cons (stays_VE _) (stays_cons (stays_VE _) (stays_cons (stays_VE _) (stays_cons (stays_VE _) stays_nil)))))))))))))))))))))))))))))))))))))))))))))) ⟨?_, ?_, ?_, ?_, ?_, ?_, ?_, ?_, ?_, ?_, ?_, ?_, ?_, ?_, ?_, ?_, ?_, ?_, ?_, ?_, ?_, ?_, ?_, ?_, ?_, ?_, ?_, ?_, ?_, ?_, ?_, ?_, ?_, ?_, ?_, ?_, ?_, ?_, ?_, ?_, ?_, ?_, ?_, ?_, ?_, trivial⟩ ?_
      · intro ev wv hE hw hd
        refine ifw rfl (ifw rfl ?_)
        have v10 : ev (.tmp 10) = .pointer (some q) := hE.tmp 10 rfl
        refine ⟨.pointer (some q), fun w => ?_, rfl⟩
        have e1 := hE.const; have e2 := hE.func; clear hE hd hw
        go_simp
      · intro ev wv hE hw hd
        refine ifw rfl (ifw rfl ?_)
        have v1 : ev (.tmp 1) = .int .i64 day := hE.tmp 1 rfl
        refine ⟨.int .i64 day, fun w => ?_, rfl⟩
        have e1 := hE.const; have e2 := hE.func; clear hE hd hw
        go_simp
      · intro ev wv hE hw hd
        refine ifw rfl (ifn rfl ?_)
        have v69 : ev (.tmp 69) = .pointer (some q) := hd 0 (by decide)
        have v70 : ev (.tmp 70) = .int .i64 day := hd 1 (by decide)
        refine rel_call (f := 14) (args := #[.pointer (some q), .int .i64 day]) ?_ (solo_stab HK.out (S6.out.keep HK.out.toRepOk hw) (by have := HLL.out; omega) HOK.out day rfl) ?_
        · have e0 := hE.func; have e1 := hE.const; clear hE hd hw
          go_simp
        · rintro e w' ⟨A, n, c, rfl, R, hb⟩
          exact ⟨_, rfl, hb, ⟨A, n, c, rfl, own_lies R⟩, fun h => by cases h⟩
      · intro ev wv hE hw hd
        refine ifw rfl (ifw rfl ?_)
        have v7 : ev (.tmp 7) = .pointer (some ⟨w.heap.size + 1, 0, none⟩) := hE.tmp 7 rfl
        refine ⟨.pointer (some ⟨w.heap.size + 1, 0, none⟩), fun w => ?_, rfl⟩
        have e1 := hE.const; have e2 := hE.func; clear hE hd hw
        go_simp
      · intro ev wv hE hw hd
        refine ifw rfl (ifw rfl ?_)
        have v72 : ev (.tmp 72) = .pointer (some ⟨w.heap.size + 1, 0, none⟩) := hd 3 (by decide)
        refine ⟨.pointer (some ⟨w.heap.size + 1, 0, none⟩), fun w => ?_, rfl⟩
        have e1 := hE.const; have e2 := hE.func; clear hE hd hw
        go_simp
      · intro ev wv hE hw hd
        refine ifw rfl (ifw rfl ?_)
        have v73 : ev (.tmp 73) = .pointer (some ⟨w.heap.size + 1, 0, none⟩) := hd 4 (by decide)
        refine ⟨.pointer (some ⟨w.heap.size + 1, 1, none⟩), fun w => ?_, rfl⟩
        have e1 := hE.const; have e2 := hE.func; clear hE hd hw
        go_simp
      · intro ev wv hE hw hd
        refine ifw rfl (ifn rfl ?_)
        have v74 : ev (.tmp 74) = .pointer (some ⟨w.heap.size + 1, 1, none⟩) := hd 5 (by decide)
        have kx := (Below.cell (p := ⟨w.heap.size + 1, 1, none⟩) hw tl).trans tc
        refine rel_val (u := .slice A4 n4 c4) (w' := wv) ?_ (Below.refl _ _) ⟨rfl, fun h => by cases h⟩
        have e1 := hE.const; clear hE hd hw
        go_simp
      · intro ev wv hE hw hd
        refine ifw rfl (ifw rfl ?_)
        have v1 : ev (.tmp 1) = .int .i64 day := hE.tmp 1 rfl
        refine ⟨.int .i64 day, fun w => ?_, rfl⟩
        have e1 := hE.const; have e2 := hE.func; clear hE hd hw
        go_simp
      · intro ev wv hE hw hd
        refine ifw rfl (ifn rfl ?_)
        have v75 : ev (.tmp 75) = .slice A4 n4 c4 := hd 6 (by decide)
        have v76 : ev (.tmp 76) = .int .i64 day := hd 7 (by decide)
        refine rel_call (f := 15) (args := #[.slice A4 n4 c4, .int .i64 day]) ?_ (stab_any A4 n4 c4 L day _ (HT6.out.i.keep hw) (by rw [← Itm.count HT6.out.i]; have := HLL.out; omega)) ?_
        · have e0 := hE.func; have e1 := hE.const; clear hE hd hw
          go_simp
        · rintro e w' ⟨A, n, c, rfl, R, hb⟩
          exact ⟨_, rfl, hb, ⟨A, n, c, rfl, own_lies R⟩, fun h => by cases h⟩
      · intro ev wv hE hw hd
        refine ifw rfl (ifn rfl ?_)
        obtain ⟨xA2, xk2, xc2, v71, xR2⟩ : VSl 3 (cells3 (L.filter (stabB day))) (ev (.tmp 71)) wv := hd 2 (by decide)
        obtain ⟨xA8, xk8, xc8, v77, xR8⟩ : VSl 3 (cells3 (L.filter (stabB day))) (ev (.tmp 77)) wv := hd 8 (by decide)
        refine rel_call (f := 13) (args := #[.slice xA2 xk2 xc2, .slice xA8 xk8 xc8]) ?_ (itsame_yes xR2 xR8 (by have := List.length_filter_le (stabB day) L; have := HLL.out; omega)) ?_
        · have e0 := hE.func; have e1 := hE.const; clear hE hd hw
          go_simp
        · rintro e w' ⟨rfl, hb⟩
          exact ⟨_, rfl, hb, rfl, fun h => by cases h⟩
      · intro ev wv hE hw hd
        refine ifw rfl (ifw rfl ?_)
        have v78 : ev (.tmp 78) = .bool true := hd 9 (by decide)
        refine ⟨.bool true, fun w => ?_, rfl⟩
        have e1 := hE.const; have e2 := hE.func; clear hE hd hw
        go_simp
      · intro ev wv hE hw hd
        have vg : ev (.tmp 79) = .bool true := hd 10 (by decide)
        refine ifw (by show (yv (ev (.tmp 79)) == some true) = true; rw [vg]; rfl) (ifw rfl ?_)
        clear vg
        have v10 : ev (.tmp 10) = .pointer (some q) := hE.tmp 10 rfl
        refine ⟨.pointer (some q), fun w => ?_, rfl⟩
        have e1 := hE.const; have e2 := hE.func; clear hE hd hw
        go_simp
      · intro ev wv hE hw hd
        have vg : ev (.tmp 79) = .bool true := hd 10 (by decide)
        refine ifw (by show (yv (ev (.tmp 79)) == some true) = true; rw [vg]; rfl) (ifn rfl ?_)
        clear vg
        have v5 : ev (.tmp 5) = .pointer (some ⟨w.heap.size, 0, none⟩) := hE.tmp 5 rfl
        have kx := (Below.cell (p := ⟨w.heap.size, 0, none⟩) hw pl).trans p0
        have ky := (Below.cell (p := ⟨w.heap.size, 1, none⟩) hw pl).trans p1
        refine rel_val (u := .agg #[.int .i64 a, .int .i64 b]) (w' := wv) ?_ (Below.refl _ _) ⟨rfl, fun h => by cases h⟩
        have e1 := hE.const; clear hE hd hw
        go_simp
      · intro ev wv hE hw hd
        have vg : ev (.tmp 79) = .bool true := hd 10 (by decide)
        refine ifw (by show (yv (ev (.tmp 79)) == some true) = true; rw [vg]; rfl) (ifn rfl ?_)
        clear vg
        have v80 : ev (.tmp 80) = .pointer (some q) := hd 11 (by decide)
        have v81 : ev (.tmp 81) = .agg #[.int .i64 a, .int .i64 b] := hd 12 (by decide)
        refine rel_call (f := 16) (args := #[.pointer (some q), .agg #[.int .i64 a, .int .i64 b]]) ?_ (solo_over HK.out (S6.out.keep HK.out.toRepOk hw) (by have := HLL.out; omega) HOK.out a b rfl) ?_
        · have e0 := hE.func; have e1 := hE.const; clear hE hd hw
          go_simp
        · rintro e w' ⟨A, n, c, rfl, R, hb⟩
          exact ⟨_, rfl, hb, ⟨A, n, c, rfl, own_lies R⟩, fun h => by cases h⟩
      · intro ev wv hE hw hd
        have vg : ev (.tmp 79) = .bool true := hd 10 (by decide)
        refine ifw (by show (yv (ev (.tmp 79)) == some true) = true; rw [vg]; rfl) (ifw rfl ?_)
        clear vg
        have v7 : ev (.tmp 7) = .pointer (some ⟨w.heap.size + 1, 0, none⟩) := hE.tmp 7 rfl
        refine ⟨.pointer (some ⟨w.heap.size + 1, 0, none⟩), fun w => ?_, rfl⟩
        have e1 := hE.const; have e2 := hE.func; clear hE hd hw
        go_simp
      · intro ev wv hE hw hd
        have vg : ev (.tmp 79) = .bool true := hd 10 (by decide)
        refine ifw (by show (yv (ev (.tmp 79)) == some true) = true; rw [vg]; rfl) (ifw rfl ?_)
        clear vg
        have v83 : ev (.tmp 83) = .pointer (some ⟨w.heap.size + 1, 0, none⟩) := hd 14 (by decide)
        refine ⟨.pointer (some ⟨w.heap.size + 1, 0, none⟩), fun w => ?_, rfl⟩
        have e1 := hE.const; have e2 := hE.func; clear hE hd hw
        go_simp
      · intro ev wv hE hw hd
        have vg : ev (.tmp 79) = .bool true := hd 10 (by decide)
        refine ifw (by show (yv (ev (.tmp 79)) == some true) = true; rw [vg]; rfl) (ifw rfl ?_)
        clear vg
        have v84 : ev (.tmp 84) = .pointer (some ⟨w.heap.size + 1, 0, none⟩) := hd 15 (by decide)
        refine ⟨.pointer (some ⟨w.heap.size + 1, 1, none⟩), fun w => ?_, rfl⟩
        have e1 := hE.const; have e2 := hE.func; clear hE hd hw
        go_simp
      · intro ev wv hE hw hd
        have vg : ev (.tmp 79) = .bool true := hd 10 (by decide)
        refine ifw (by show (yv (ev (.tmp 79)) == some true) = true; rw [vg]; rfl) (ifn rfl ?_)
        clear vg
        have v85 : ev (.tmp 85) = .pointer (some ⟨w.heap.size + 1, 1, none⟩) := hd 16 (by decide)
        have kx := (Below.cell (p := ⟨w.heap.size + 1, 1, none⟩) hw tl).trans tc
        refine rel_val (u := .slice A4 n4 c4) (w' := wv) ?_ (Below.refl _ _) ⟨rfl, fun h => by cases h⟩
        have e1 := hE.const; clear hE hd hw
        go_simp
      · intro ev wv hE hw hd
        have vg : ev (.tmp 79) = .bool true := hd 10 (by decide)
        refine ifw (by show (yv (ev (.tmp 79)) == some true) = true; rw [vg]; rfl) (ifn rfl ?_)
        clear vg
        have v5 : ev (.tmp 5) = .pointer (some ⟨w.heap.size, 0, none⟩) := hE.tmp 5 rfl
        have kx := (Below.cell (p := ⟨w.heap.size, 0, none⟩) hw pl).trans p0
        have ky := (Below.cell (p := ⟨w.heap.size, 1, none⟩) hw pl).trans p1
        refine rel_val (u := .agg #[.int .i64 a, .int .i64 b]) (w' := wv) ?_ (Below.refl _ _) ⟨rfl, fun h => by cases h⟩
        have e1 := hE.const; clear hE hd hw
        go_simp
      · intro ev wv hE hw hd
        have vg : ev (.tmp 79) = .bool true := hd 10 (by decide)
        refine ifw (by show (yv (ev (.tmp 79)) == some true) = true; rw [vg]; rfl) (ifn rfl ?_)
        clear vg
        have v86 : ev (.tmp 86) = .slice A4 n4 c4 := hd 17 (by decide)
        have v87 : ev (.tmp 87) = .agg #[.int .i64 a, .int .i64 b] := hd 18 (by decide)
        refine rel_call (f := 17) (args := #[.slice A4 n4 c4, .agg #[.int .i64 a, .int .i64 b]]) ?_ (over_any A4 n4 c4 L a b _ (HT6.out.i.keep hw) (by rw [← Itm.count HT6.out.i]; have := HLL.out; omega)) ?_
        · have e0 := hE.func; have e1 := hE.const; clear hE hd hw
          go_simp
        · rintro e w' ⟨A, n, c, rfl, R, hb⟩
          exact ⟨_, rfl, hb, ⟨A, n, c, rfl, own_lies R⟩, fun h => by cases h⟩
      · intro ev wv hE hw hd
        have vg : ev (.tmp 79) = .bool true := hd 10 (by decide)
        refine ifw (by show (yv (ev (.tmp 79)) == some true) = true; rw [vg]; rfl) (ifn rfl ?_)
        clear vg
        obtain ⟨xA13, xk13, xc13, v82, xR13⟩ : VSl 3 (cells3 (L.filter (overB a b))) (ev (.tmp 82)) wv := hd 13 (by decide)
        obtain ⟨xA19, xk19, xc19, v88, xR19⟩ : VSl 3 (cells3 (L.filter (overB a b))) (ev (.tmp 88)) wv := hd 19 (by decide)
        refine rel_call (f := 13) (args := #[.slice xA13 xk13 xc13, .slice xA19 xk19 xc19]) ?_ (itsame_yes xR13 xR19 (by have := List.length_filter_le (overB a b) L; have := HLL.out; omega)) ?_
        · have e0 := hE.func; have e1 := hE.const; clear hE hd hw
          go_simp
        · rintro e w' ⟨rfl, hb⟩
          exact ⟨_, rfl, hb, rfl, fun h => by cases h⟩
      · intro ev wv hE hw hd
        refine ifw rfl (ifw rfl ?_)
        have v79 : ev (.tmp 79) = .bool true := hd 10 (by decide)
        have v89 : ev (.tmp 89) = .bool true := hd 20 (by decide)
        refine ⟨.bool true, fun w => ?_, rfl⟩
        have e1 := hE.const; have e2 := hE.func; clear hE hd hw
        go_simp
      · intro ev wv hE hw hd
        refine ifw rfl (ifw rfl ?_)
        have v90 : ev (.tmp 90) = .bool true := hd 21 (by decide)
        refine ⟨.bool true, fun w => ?_, rfl⟩
        have e1 := hE.const; have e2 := hE.func; clear hE hd hw
        go_simp
      · intro ev wv hE hw hd
        have vg : ev (.tmp 91) = .bool true := hd 22 (by decide)
        refine ifw (by show (yv (ev (.tmp 91)) == some true) = true; rw [vg]; rfl) (ifn rfl ?_)
        clear vg
        have v11 : ev (.tmp 11) = .pointer (some ⟨w3.heap.size, 0, none⟩) := hE.tmp 11 rfl
        have kx := (Below.cell (p := ⟨w3.heap.size, 0, none⟩) hw ml0).trans m00
        have ky := (Below.cell (p := ⟨w3.heap.size, 1, none⟩) hw ml0).trans m01
        have kz := (Below.cell (p := ⟨w3.heap.size, 2, none⟩) hw ml0).trans m02
        refine rel_val (u := .agg #[.int .i64 y1, .int .i64 y2, .int .i64 y3]) (w' := wv) ?_ (Below.refl _ _) ⟨rfl, fun h => by cases h⟩
        have e1 := hE.const; clear hE hd hw
        go_simp
      · intro ev wv hE hw hd
        have vg : ev (.tmp 91) = .bool true := hd 22 (by decide)
        refine ifw (by show (yv (ev (.tmp 91)) == some true) = true; rw [vg]; rfl) (ifn rfl ?_)
        clear vg
        have v15 : ev (.tmp 15) = .pointer (some ⟨w5.heap.size, 0, none⟩) := hE.tmp 15 rfl
        have kx := (Below.cell (p := ⟨w5.heap.size, 0, none⟩) hw ml2).trans m20
        have ky := (Below.cell (p := ⟨w5.heap.size, 1, none⟩) hw ml2).trans m21
        have kz := (Below.cell (p := ⟨w5.heap.size, 2, none⟩) hw ml2).trans m22
        refine rel_val (u := .agg #[.int .i64 y1, .int .i64 y2, .int .i64 y3]) (w' := wv) ?_ (Below.refl _ _) ⟨rfl, fun h => by cases h⟩
        have e1 := hE.const; clear hE hd hw
        go_simp
      · intro ev wv hE hw hd
        have vg : ev (.tmp 91) = .bool true := hd 22 (by decide)
        refine ifw (by show (yv (ev (.tmp 91)) == some true) = true; rw [vg]; rfl) (ifw rfl ?_)
        clear vg
        have v92 : ev (.tmp 92) = .agg #[.int .i64 y1, .int .i64 y2, .int .i64 y3] := hd 23 (by decide)
        have v93 : ev (.tmp 93) = .agg #[.int .i64 y1, .int .i64 y2, .int .i64 y3] := hd 24 (by decide)
        refine ⟨.bool true, fun w => ?_, rfl⟩
        have e1 := hE.const; have e2 := hE.func; clear hE hd hw
        go_simp
      · intro ev wv hE hw hd
        refine ifw rfl (ifw rfl ?_)
        have v91 : ev (.tmp 91) = .bool true := hd 22 (by decide)
        have v94 : ev (.tmp 94) = .bool true := hd 25 (by decide)
        refine ⟨.bool true, fun w => ?_, rfl⟩
        have e1 := hE.const; have e2 := hE.func; clear hE hd hw
        go_simp
      · intro ev wv hE hw hd
        refine ifw rfl (ifw rfl ?_)
        have v95 : ev (.tmp 95) = .bool true := hd 26 (by decide)
        refine ⟨.bool true, fun w => ?_, rfl⟩
        have e1 := hE.const; have e2 := hE.func; clear hE hd hw
        go_simp
      · intro ev wv hE hw hd
        have vg : ev (.tmp 96) = .bool true := hd 27 (by decide)
        refine ifw (by show (yv (ev (.tmp 96)) == some true) = true; rw [vg]; rfl) (ifw rfl ?_)
        clear vg
        have v12 : ev (.tmp 12) = .bool bo := hE.tmp 12 rfl
        refine ⟨.bool bo, fun w => ?_, rfl⟩
        have e1 := hE.const; have e2 := hE.func; clear hE hd hw
        go_simp
      · intro ev wv hE hw hd
        have vg : ev (.tmp 96) = .bool true := hd 27 (by decide)
        refine ifw (by show (yv (ev (.tmp 96)) == some true) = true; rw [vg]; rfl) (ifw rfl ?_)
        clear vg
        have v16 : ev (.tmp 16) = .bool bo := hE.tmp 16 rfl
        refine ⟨.bool bo, fun w => ?_, rfl⟩
        have e1 := hE.const; have e2 := hE.func; clear hE hd hw
        go_simp
      · intro ev wv hE hw hd
        have vg : ev (.tmp 96) = .bool true := hd 27 (by decide)
        refine ifw (by show (yv (ev (.tmp 96)) == some true) = true; rw [vg]; rfl) (ifw rfl ?_)
        clear vg
        have v97 : ev (.tmp 97) = .bool bo := hd 28 (by decide)
        have v98 : ev (.tmp 98) = .bool bo := hd 29 (by decide)
        refine ⟨.bool true, fun w => ?_, rfl⟩
        have e1 := hE.const; have e2 := hE.func; clear hE hd hw
        go_simp
      · intro ev wv hE hw hd
        refine ifw rfl (ifw rfl ?_)
        have v96 : ev (.tmp 96) = .bool true := hd 27 (by decide)
        have v99 : ev (.tmp 99) = .bool true := hd 30 (by decide)
        refine ⟨.bool true, fun w => ?_, rfl⟩
        have e1 := hE.const; have e2 := hE.func; clear hE hd hw
        go_simp
      · intro ev wv hE hw hd
        refine ifw rfl (ifw rfl ?_)
        have v100 : ev (.tmp 100) = .bool true := hd 31 (by decide)
        refine ⟨.bool true, fun w => ?_, rfl⟩
        have e1 := hE.const; have e2 := hE.func; clear hE hd hw
        go_simp
      · intro ev wv hE hw hd
        have vg : ev (.tmp 101) = .bool true := hd 32 (by decide)
        refine ifw (by show (yv (ev (.tmp 101)) == some true) = true; rw [vg]; rfl) (ifn rfl ?_)
        clear vg
        have v13 : ev (.tmp 13) = .pointer (some ⟨w4.heap.size, 0, none⟩) := hE.tmp 13 rfl
        have kx := (Below.cell (p := ⟨w4.heap.size, 0, none⟩) hw ml1).trans m10
        have ky := (Below.cell (p := ⟨w4.heap.size, 1, none⟩) hw ml1).trans m11
        have kz := (Below.cell (p := ⟨w4.heap.size, 2, none⟩) hw ml1).trans m12
        refine rel_val (u := .agg #[.int .i64 z1, .int .i64 z2, .int .i64 z3]) (w' := wv) ?_ (Below.refl _ _) ⟨rfl, fun h => by cases h⟩
        have e1 := hE.const; clear hE hd hw
        go_simp
      · intro ev wv hE hw hd
        have vg : ev (.tmp 101) = .bool true := hd 32 (by decide)
        refine ifw (by show (yv (ev (.tmp 101)) == some true) = true; rw [vg]; rfl) (ifn rfl ?_)
        clear vg
        have v17 : ev (.tmp 17) = .pointer (some ⟨w6.heap.size, 0, none⟩) := hE.tmp 17 rfl
        have kx := (Below.cell (p := ⟨w6.heap.size, 0, none⟩) hw ml3).trans m30
        have ky := (Below.cell (p := ⟨w6.heap.size, 1, none⟩) hw ml3).trans m31
        have kz := (Below.cell (p := ⟨w6.heap.size, 2, none⟩) hw ml3).trans m32
        refine rel_val (u := .agg #[.int .i64 z1, .int .i64 z2, .int .i64 z3]) (w' := wv) ?_ (Below.refl _ _) ⟨rfl, fun h => by cases h⟩
        have e1 := hE.const; clear hE hd hw
        go_simp
      · intro ev wv hE hw hd
        have vg : ev (.tmp 101) = .bool true := hd 32 (by decide)
        refine ifw (by show (yv (ev (.tmp 101)) == some true) = true; rw [vg]; rfl) (ifw rfl ?_)
        clear vg
        have v102 : ev (.tmp 102) = .agg #[.int .i64 z1, .int .i64 z2, .int .i64 z3] := hd 33 (by decide)
        have v103 : ev (.tmp 103) = .agg #[.int .i64 z1, .int .i64 z2, .int .i64 z3] := hd 34 (by decide)
        refine ⟨.bool true, fun w => ?_, rfl⟩
        have e1 := hE.const; have e2 := hE.func; clear hE hd hw
        go_simp
      · intro ev wv hE hw hd
        refine ifw rfl (ifw rfl ?_)
        have v101 : ev (.tmp 101) = .bool true := hd 32 (by decide)
        have v104 : ev (.tmp 104) = .bool true := hd 35 (by decide)
        refine ⟨.bool true, fun w => ?_, rfl⟩
        have e1 := hE.const; have e2 := hE.func; clear hE hd hw
        go_simp
      · intro ev wv hE hw hd
        refine ifw rfl (ifw rfl ?_)
        have v105 : ev (.tmp 105) = .bool true := hd 36 (by decide)
        refine ⟨.bool true, fun w => ?_, rfl⟩
        have e1 := hE.const; have e2 := hE.func; clear hE hd hw
        go_simp
      · intro ev wv hE hw hd
        have vg : ev (.tmp 106) = .bool true := hd 37 (by decide)
        refine ifw (by show (yv (ev (.tmp 106)) == some true) = true; rw [vg]; rfl) (ifw rfl ?_)
        clear vg
        have v14 : ev (.tmp 14) = .bool bl := hE.tmp 14 rfl
        refine ⟨.bool bl, fun w => ?_, rfl⟩
        have e1 := hE.const; have e2 := hE.func; clear hE hd hw
        go_simp
      · intro ev wv hE hw hd
        have vg : ev (.tmp 106) = .bool true := hd 37 (by decide)
        refine ifw (by show (yv (ev (.tmp 106)) == some true) = true; rw [vg]; rfl) (ifw rfl ?_)
        clear vg
        have v18 : ev (.tmp 18) = .bool bl := hE.tmp 18 rfl
        refine ⟨.bool bl, fun w => ?_, rfl⟩
        have e1 := hE.const; have e2 := hE.func; clear hE hd hw
        go_simp
      · intro ev wv hE hw hd
        have vg : ev (.tmp 106) = .bool true := hd 37 (by decide)
        refine ifw (by show (yv (ev (.tmp 106)) == some true) = true; rw [vg]; rfl) (ifw rfl ?_)
        clear vg
        have v107 : ev (.tmp 107) = .bool bl := hd 38 (by decide)
        have v108 : ev (.tmp 108) = .bool bl := hd 39 (by decide)
        refine ⟨.bool true, fun w => ?_, rfl⟩
        have e1 := hE.const; have e2 := hE.func; clear hE hd hw
        go_simp
      · intro ev wv hE hw hd
        refine ifw rfl (ifw rfl ?_)
        have v106 : ev (.tmp 106) = .bool true := hd 37 (by decide)
        have v109 : ev (.tmp 109) = .bool true := hd 40 (by decide)
        refine ⟨.bool true, fun w => ?_, rfl⟩
        have e1 := hE.const; have e2 := hE.func; clear hE hd hw
        go_simp
      · intro ev wv hE hw hd
        refine ifw rfl (ifw rfl ?_)
        have v110 : ev (.tmp 110) = .bool true := hd 41 (by decide)
        refine ⟨.bool true, fun w => ?_, rfl⟩
        have e1 := hE.const; have e2 := hE.func; clear hE hd hw
        go_simp
      · intro ev wv hE hw hd
        have vg : ev (.tmp 111) = .bool true := hd 42 (by decide)
        refine ifw (by show (yv (ev (.tmp 111)) == some true) = true; rw [vg]; rfl) (ifn rfl ?_)
        clear vg
        refine rel_call (f := 6) (args := #[]) ?_ (itknown_any HK.out _) ?_
        · have e0 := hE.func; have e1 := hE.const; clear hE hd hw
          go_simp
        · rintro e w' ⟨rfl, hb⟩
          exact ⟨_, rfl, hb, rfl, fun h => by cases h⟩
      · intro ev wv hE hw hd
        refine ifw rfl (ifw rfl ?_)
        have v111 : ev (.tmp 111) = .bool true := hd 42 (by decide)
        have v112 : ev (.tmp 112) = .bool true := hd 43 (by decide)
        refine ⟨.bool true, fun w => ?_, rfl⟩
        have e1 := hE.const; have e2 := hE.func; clear hE hd hw
        go_simp
      · intro wz hw
        intro v0 h0 _ v1 h1 _ v2 h2 _ v3 h3 _ v4 h4 _ v5 h5 _ v6 h6 _ v7 h7 _ v8 h8 _ v9 h9 _ v10 h10 _ v11 h11 _ v12 h12 _ v13 h13 _ v14 h14 _ v15 h15 _ v16 h16 _ v17 h17 _ v18 h18 _ v19 h19 _ v20 h20 _ v21 h21 _ v22 h22 _ v23 h23 _ v24 h24 _ v25 h25 _ v26 h26 _ v27 h27 _ v28 h28 _ v29 h29 _ v30 h30 _ v31 h31 _ v32 h32 _ v33 h33 _ v34 h34 _ v35 h35 _ v36 h36 _ v37 h37 _ v38 h38 _ v39 h39 _ v40 h40 _ v41 h41 _ v42 h42 _ v43 h43 _ v44 h44 _
        simp only [Act.put, List.setIfInBounds_toArray, List.set_cons_zero, List.set_cons_succ, List.drop_succ_cons, List.drop_zero]
        obtain rfl : v0 = _ := h0
        obtain rfl : v1 = _ := h1
        obtain ⟨xA2, xk2, xc2, rfl, xR2⟩ : VSl 3 (cells3 (L.filter (stabB day))) v2 wz := h2
        obtain rfl : v3 = _ := h3
        obtain rfl : v4 = _ := h4
        obtain rfl : v5 = _ := h5
        obtain rfl : v6 = _ := h6
        obtain rfl : v7 = _ := h7
        obtain ⟨xA8, xk8, xc8, rfl, xR8⟩ : VSl 3 (cells3 (L.filter (stabB day))) v8 wz := h8
        obtain rfl : v9 = _ := h9
        obtain rfl : v10 = _ := h10
        obtain rfl : v11 = _ := h11
        obtain rfl : v12 = _ := h12
        obtain ⟨xA13, xk13, xc13, rfl, xR13⟩ : VSl 3 (cells3 (L.filter (overB a b))) v13 wz := h13
        obtain rfl : v14 = _ := h14
        obtain rfl : v15 = _ := h15
        obtain rfl : v16 = _ := h16
        obtain rfl : v17 = _ := h17
        obtain rfl : v18 = _ := h18
        obtain ⟨xA19, xk19, xc19, rfl, xR19⟩ : VSl 3 (cells3 (L.filter (overB a b))) v19 wz := h19
        obtain rfl : v20 = _ := h20
        obtain rfl : v21 = _ := h21
        obtain rfl : v22 = _ := h22
        obtain rfl : v23 = _ := h23
        obtain rfl : v24 = _ := h24
        obtain rfl : v25 = _ := h25
        obtain rfl : v26 = _ := h26
        obtain rfl : v27 = _ := h27
        obtain rfl : v28 = _ := h28
        obtain rfl : v29 = _ := h29
        obtain rfl : v30 = _ := h30
        obtain rfl : v31 = _ := h31
        obtain rfl : v32 = _ := h32
        obtain rfl : v33 = _ := h33
        obtain rfl : v34 = _ := h34
        obtain rfl : v35 = _ := h35
        obtain rfl : v36 = _ := h36
        obtain rfl : v37 = _ := h37
        obtain rfl : v38 = _ := h38
        obtain rfl : v39 = _ := h39
        obtain rfl : v40 = _ := h40
        obtain rfl : v41 = _ := h41
        obtain rfl : v42 = _ := h42
        obtain rfl : v43 = _ := h43
        obtain rfl : v44 = _ := h44
        change wpList Try.prog _ _ _ _ wz
        have HB := Lib.hid ((doc_bl HD6.out).trans (Below.mono hw (doc_bl HD6.out).size))
        clear hw tc tl p0 p1 pl
        go_wp2_with fail
        refine calm_normal ?_
        go_wp2_with fail
        go_ret
        exact ⟨rfl, HB.out⟩
theorem itans_any {Rep : RepT} (K : ItK Rep) (A : Option Addr) (N c : Nat) (l : ItL) (day a b : Int) (w : World) (Rl : Itm w A N c l) (hRl : okR l) : Calls Try.prog 3 #[.slice A N c, .int .i64 day, .agg #[.int .i64 a, .int .i64 b]] w fun e w' => e = .returned (.bool true) ∧ Below w.heap.size w w' := by
  by_cases hN : N ≤ 150
  · exact itans_main K A N c l day a b w Rl hRl hN
  · exact itans_long K A N c l day a b w Rl hN
end Go.Proofs.Ytolmkagedlcjiaa
