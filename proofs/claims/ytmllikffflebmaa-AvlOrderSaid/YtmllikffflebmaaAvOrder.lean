/- The law AvlOrder. -/
import Derived.Test.YtmllikffflebmaaAvDuo
import Derived.Test.YtmllikffflebmaaRelMem
import Derived.Deep.RegionLaw
import Derived.Deep.CutRange
import Derived.Deep.AppendLies
namespace Go.Proofs.Ytmllikffflebmaa
set_option maxRecDepth 8000
open Go.RowKit Corr
set_option linter.unusedVariables false
set_option linter.unusedSimpArgs false
section
variable {Rep : RepT} {w0 w : World} {p1 p2 : Value} {M : Int} {l1 l2 mine : ItL} {v : Value} {n : Nat} {os : List (Nat × Array Value)}
theorem duo_ins1 (K : AvlK Rep) (h : DuoE Rep 33 w0 p1 p2 M l1 l2 v n mine os w) (hl : l1.length ≤ 1000) (x : It) : Calls Try.prog 8 #[p1, itV x] w fun e w' => e = .returned (.int .i64 (insR M x l1)) ∧ DuoE Rep 33 w0 p1 p2 M (insL M x l1) l2 v n mine os w' := by
  obtain ⟨F1, F2, h⟩ := h
  refine (K.insert w p1 F1 M l1 x h.r1 hl).mono fun e w' hq => ?_
  obtain ⟨F', he, hr, ho, hF⟩ := hq
  exact ⟨he, F', F2, h.one K.toRepOk ho hr hF⟩
theorem duo_ins2 (K : AvlK Rep) (h : DuoE Rep 33 w0 p1 p2 M l1 l2 v n mine os w) (hl : l2.length ≤ 1000) (x : It) : Calls Try.prog 8 #[p2, itV x] w fun e w' => e = .returned (.int .i64 (insR M x l2)) ∧ DuoE Rep 33 w0 p1 p2 M l1 (insL M x l2) v n mine os w' := by
  obtain ⟨F1, F2, h⟩ := h
  refine (K.insert w p2 F2 M l2 x h.r2 hl).mono fun e w' hq => ?_
  obtain ⟨F', he, hr, ho, hF⟩ := hq
  exact ⟨he, F1, F', (h.swap.one K.toRepOk ho hr hF).swap⟩
theorem duo_del2 (K : AvlK Rep) (h : DuoE Rep 33 w0 p1 p2 M l1 l2 v n mine os w) (hl : l2.length ≤ 1000) (x : It) : Calls Try.prog 10 #[p2, itV x] w fun e w' => e = .returned (.int .i64 (delR x l2)) ∧ DuoE Rep 33 w0 p1 p2 M l1 (delL x l2) v n mine os w' := by
  obtain ⟨F1, F2, h⟩ := h
  refine (K.delete w p2 F2 M l2 x h.r2 hl).mono fun e w' hq => ?_
  obtain ⟨F', he, hr, ho, hF⟩ := hq
  exact ⟨he, F1, F', (h.swap.one K.toRepOk ho hr hF).swap⟩
theorem duo_has1 (K : AvlK Rep) (h : DuoE Rep 33 w0 p1 p2 M l1 l2 v n mine os w) (hl : l1.length ≤ 1000) (x : It) {b : Bool} (hb : hasI x l1 = b) : Calls Try.prog 12 #[p1, itV x] w fun e w' => e = .returned (.bool b) ∧ DuoE Rep 33 w0 p1 p2 M l1 l2 v n mine os w' := by
  obtain ⟨F1, F2, h⟩ := h
  refine (K.has w p1 F1 M l1 x h.r1 hl).mono fun e w' hq => ?_
  exact ⟨by rw [← hb]; exact hq.1, F1, F2, h.keep K.toRepOk hq.2⟩
theorem duo_push (K : AvlK Rep) (h : DuoE Rep 33 w0 p1 p2 M l1 l2 v n mine os w) (vs : Array Value) (U : TypeId) : DuoE Rep 33 w0 p1 p2 M l1 l2 v n mine ((w.heap.size, vs) :: os) (w.alloc (.cells vs U)) := by
  obtain ⟨F1, F2, h⟩ := h; exact ⟨F1, F2, h.push K.toRepOk vs U⟩
theorem duo_less (h : DuoE Rep 33 w0 p1 p2 M l1 l2 v n mine os w) : DuoE Rep 33 w0 p1 p2 M l1 l2 v n mine [] w := by
  obtain ⟨F1, F2, h⟩ := h; exact ⟨F1, F2, h.less (fun _ h => by cases h)⟩
theorem duo_bl (h : DuoE Rep 33 w0 p1 p2 M l1 l2 v n mine os w) : Below w0.heap.size w0 w := by obtain ⟨_, _, h⟩ := h; exact h.bl
theorem duo_own (h : DuoE Rep 33 w0 p1 p2 M l1 l2 v n mine os w) : w.ownsRow w0.heap.size 33 3 v n (cells3 mine) := by obtain ⟨_, _, h⟩ := h; exact h.own
theorem duo_b (h : DuoE Rep 33 w0 p1 p2 M l1 l2 v n mine os w) (i : Nat) {k : Nat} {vs : Array Value} (hi : os[i]? = some (k, vs)) : Blk w k vs := by obtain ⟨_, _, h⟩ := h; exact (h.oth _ (List.mem_of_getElem? hi)).1
theorem duo_items1 (K : AvlK Rep) (h : DuoE Rep 33 w0 p1 p2 M l1 l2 v n mine os w) (hl : l1.length ≤ 1000) : Calls Try.prog 14 #[p1] w fun e w' => ∃ A n' c, e = .returned (.slice A n' c) ∧ Itm w' A n' c l1 ∧ Below w.heap.size w w' ∧ DuoE Rep 33 w0 p1 p2 M l1 l2 v n mine os w' := by
  obtain ⟨F1, F2, h⟩ := h
  refine (K.items w p1 F1 M l1 h.r1 hl).mono fun e w' hq => ?_
  obtain ⟨A, n', c, he, ho, hb⟩ := hq
  exact ⟨A, n', c, he, own_lies ho, hb, F1, F2, h.keep K.toRepOk hb⟩
theorem duo_items2 (K : AvlK Rep) (h : DuoE Rep 33 w0 p1 p2 M l1 l2 v n mine os w) (hl : l2.length ≤ 1000) : Calls Try.prog 14 #[p2] w fun e w' => ∃ A n' c, e = .returned (.slice A n' c) ∧ Itm w' A n' c l2 ∧ Below w.heap.size w w' ∧ DuoE Rep 33 w0 p1 p2 M l1 l2 v n mine os w' := by
  obtain ⟨F1, F2, h⟩ := h
  refine (K.items w p2 F2 M l2 h.r2 hl).mono fun e w' hq => ?_
  obtain ⟨A, n', c, he, ho, hb⟩ := hq
  exact ⟨A, n', c, he, own_lies ho, hb, F1, F2, h.keep K.toRepOk hb⟩
end
set_option maxHeartbeats 1000000 in
theorem lawless_any (a b : It) (w : World) : Calls Try.prog 17 #[itV a, itV b] w fun e w' => e = .returned (.bool (lessB a b)) ∧ Below w.heap.size w w' := by
  obtain ⟨a1, a2, a3⟩ := a
  obtain ⟨b1, b2, b3⟩ := b
  have HB := Lib.hid ((((Below.refl w.heap.size w).alloc (Nat.le_refl _) (.cells #[.int .i64 a1, .int .i64 a2, .int .i64 a3] 33)).alloc (by simp) (.cells #[.int .i64 b1, .int .i64 b2, .int .i64 b3] 33)))
  by_cases p1 : a1 = b1
  · by_cases p2 : a2 = b2
    · have HF := Lib.hid (show decide (a3 < b3) = lessB (a1, a2, a3) (b1, b2, b3) by unfold lessB; rw [if_pos p1, if_pos p2])
      have d1 : (a1 != b1) = false := by simpa using p1
      have d2 : (a2 != b2) = false := by simpa using p2
      clear p1 p2
      go_enter Try.func17, Try.ntmps17
      go_wp2_with fail
      go_ret
      exact ⟨ret_bool HF.out, HB.out⟩
    · have HF := Lib.hid (show decide (a2 < b2) = lessB (a1, a2, a3) (b1, b2, b3) by unfold lessB; rw [if_pos p1, if_neg p2])
      have d1 : (a1 != b1) = false := by simpa using p1
      have d2 : (a2 != b2) = true := by simpa using p2
      clear p1 p2
      go_enter Try.func17, Try.ntmps17
      go_wp2_with fail
      go_ret
      exact ⟨ret_bool HF.out, HB.out⟩
  · have HF := Lib.hid (show decide (a1 < b1) = lessB (a1, a2, a3) (b1, b2, b3) by unfold lessB; rw [if_neg p1])
    have d1 : (a1 != b1) = true := by simpa using p1
    clear p1
    go_enter Try.func17, Try.ntmps17
    go_wp2_with fail
    go_ret
    exact ⟨ret_bool HF.out, HB.out⟩
theorem lawless_yes {a b : It} (h : lessB a b = true) (w : World) : Calls Try.prog 17 #[itV a, itV b] w fun e w' => e = .returned (.bool true) ∧ Below w.heap.size w w' := by
  have := lawless_any a b w
  rwa [h] at this
theorem take_mem {l : ItL} {k : Nat} {x : It} (h : l[k]? = some x) (y : It) : y ∈ l.take (k + 1) ↔ y ∈ l.take k ∨ y = x := by
  rw [List.take_add_one, h]; simp
theorem drop_mem {l : ItL} {k : Nat} {x : It} (h : l[k]? = some x) (y : It) : y ∈ l.drop k ↔ y = x ∨ y ∈ l.drop (k + 1) := by
  obtain ⟨hk, e⟩ := List.getElem?_eq_some_iff.1 h
  rw [List.drop_eq_getElem_cons hk, List.mem_cons, e]
theorem drop_nodup {l : ItL} {k : Nat} {x : It} (h : l[k]? = some x) (hn : l.Nodup) : x ∉ l.drop (k + 1) := by
  obtain ⟨hk, e⟩ := List.getElem?_eq_some_iff.1 h
  have := hn.sublist (List.drop_sublist k l)
  rw [List.drop_eq_getElem_cons hk, List.nodup_cons, e] at this
  exact this.1
theorem avorder_one {Rep : RepT} (K : AvlK Rep) (A B : Option Addr) (N c Q d : Nat) (l m : ItL) (w : World) (Rl : Itm w A N c l) (Rm : Itm w B Q d m) (hN : ¬ N ≤ 100) : Calls Try.prog 4 #[.slice A N c, .slice B Q d] w fun e w' => e = .returned (.bool true) ∧ Below w.heap.size w w' := by
  have d0 : decide ((N : Int) > 100) = true := decide_eq_true (by omega)
  have HK := Lib.hid K
  clear K Rl Rm
  go_enter Try.func4, Try.ntmps4
  go_wp2_with fail
  refine (avknown_any HK.out _).mono ?_
  rintro e w1 ⟨rfl, hb⟩
  go_wp2_with fail
  go_ret
  exact ⟨rfl, hb⟩
theorem avorder_two {Rep : RepT} (K : AvlK Rep) (A B : Option Addr) (N c Q d : Nat) (l m : ItL) (w : World) (Rl : Itm w A N c l) (Rm : Itm w B Q d m) (hN : N ≤ 100) (hQ : ¬ Q ≤ 100) : Calls Try.prog 4 #[.slice A N c, .slice B Q d] w fun e w' => e = .returned (.bool true) ∧ Below w.heap.size w w' := by
  have d0 : decide ((N : Int) > 100) = false := decide_eq_false (by omega)
  have d1 : decide ((Q : Int) > 100) = true := decide_eq_true (by omega)
  have HK := Lib.hid K
  clear K Rl Rm
  go_enter Try.func4, Try.ntmps4
  go_wp2_with fail
  refine (avknown_any HK.out _).mono ?_
  rintro e w1 ⟨rfl, hb⟩
  go_wp2_with fail
  go_ret
  exact ⟨rfl, hb⟩
set_option maxHeartbeats 8000000 in
theorem avorder_main {Rep : RepT} (K : AvlK Rep) (A B : Option Addr) (N c Q d : Nat) (l m : ItL) (w : World) (Rl : Itm w A N c l) (Rm : Itm w B Q d m) (hN : N ≤ 100) (hQ : Q ≤ 100) : Calls Try.prog 4 #[.slice A N c, .slice B Q d] w fun e w' => e = .returned (.bool true) ∧ Below w.heap.size w w' := by
  have d0 : decide ((N : Int) > 100) = false := decide_eq_false (by omega)
  have d1 : decide ((Q : Int) > 100) = false := decide_eq_false (by omega)
  have HK := Lib.hid K
  have HRl := Lib.hid Rl
  have HRm := Lib.hid Rm
  have HLl := Lib.hid (Itm.count Rl)
  have HLm := Lib.hid (Itm.count Rm)
  have HM := Lib.hid (fun w => K.make 200 w (by decide) (by decide))
  clear K Rl Rm
  go_enter Try.func4, Try.ntmps4
  go_wp2_with fail
  refine (HM.out _).mono ?_
  rintro e w1 ⟨p, F1, rfl, hr1, b1, hF1⟩
  have H1 := Lib.hid hr1
  have HB1 := Lib.hid b1
  have HF1 := Lib.hid hF1
  clear hr1 b1 hF1
  go_wp2_with fail
  refine (HM.out _).mono ?_
  rintro e w2 ⟨q, F2, rfl, hr2, b2, hF2⟩
  have HD0 := Lib.hid (show DuoE Rep 33 w (.pointer (some p)) (.pointer (some q)) 200 ([]) ([]) (.slice none 0 0) (0) ([]) ([]) (w2) from
    ⟨F1, F2, HK.out.keep H1.out (Off.of (F := fun _ => False) b2) (fun _ _ e => e), hr2, (fun k h1 h2 => by have := HK.out.lt H1.out k h1; have := hF2 k h2; omega), HF1.out, (fun k hk => Nat.le_trans HB1.out.size (hF2 k hk)), World.ownsRow_nil _ _ _ _, (fun k hk => by cases hk), (fun _ h => by cases h), HB1.out.trans (b2.mono HB1.out.size)⟩)
  clear hr2 b2 hF2 H1 HB1 HF1 HM
  go_wp2_with fail
  go_loopw [53] (fun u wr => ∃ (k : Nat) (l1 : ItL), u = .int .i64 (k : Int) ∧ k ≤ N ∧ l1.length ≤ k ∧ srt l1 ∧ Hid (∀ y, y ∈ l1 ↔ okI y ∧ y ∈ l.take k) ∧ DuoE Rep 33 w (.pointer (some p)) (.pointer (some q)) 200 (l1) ([]) (.slice none 0 0) (0) ([]) ([]) (wr)) (fun u _ => (N - intOf u).toNat)
  case atStart => exact ⟨0, [], rfl, by omega, by simp, List.Pairwise.nil, Lib.hid (by simp), HD0.out⟩
  case round =>
    obtain ⟨k, l1, rfl, hk, hl, hsr, HS, hdu⟩ := hrel
    have HDU := Lib.hid hdu
    have HL := Lib.hid hl
    have HSR := Lib.hid hsr
    clear hdu hl hsr HD0
    by_cases hlt : k < N
    · obtain ⟨ga, off, s, rfl, hs, hga, c0, c1, c2⟩ := Itm.get (HRl.out.keep (duo_bl HDU.out)) hlt
      obtain ⟨x1, x2, x3⟩ := s
      have HX := Lib.hid hs
      have HP := Lib.hid (duo_push HK.out HDU.out #[.int .i64 x1, .int .i64 x2, .int .i64 x3] 33)
      have B9 := Blk.new wr #[.int .i64 x1, .int .i64 x2, .int .i64 x3] 33
      have y0 := B9.get 0 rfl; have y1 := B9.get 1 rfl; have y2 := B9.get 2 rfl
      clear hs B9
      go_wp2_with fail
      refine (duo_ins1 HK.out HP.out (by have := HL.out; omega) (x1, x2, x3)).mono ?_
      rintro e w5 ⟨rfl, hd5⟩
      have HD5 := Lib.hid (duo_less hd5)
      have HL5 := Lib.hid (insL_len 200 (x1, x2, x3) l1)
      have HS5 := Lib.hid (insL_srt (M := 200) (x := (x1, x2, x3)) HSR.out)
      have HM5 := Lib.hid (show ∀ y, y ∈ insL 200 (x1, x2, x3) l1 ↔ okI y ∧ y ∈ l.take (k + 1) from fun y => by
        rw [insL_mem HSR.out (by have := HL.out; omega), HS.out, take_mem HX.out]
        constructor
        · rintro (⟨h1, h2⟩ | ⟨rfl, h⟩)
          · exact ⟨h1, .inl h2⟩
          · exact ⟨h, .inr rfl⟩
        · rintro ⟨h1, h2 | rfl⟩
          · exact .inl ⟨h1, h2⟩
          · exact .inr ⟨rfl, h1⟩)
      clear hd5
      go_wp2_with fail
      go_roundw
      case rel => exact ⟨k + 1, insL 200 (x1, x2, x3) l1, by go_num, by omega, by have := HL.out; have := HL5.out; omega, HS5.out, HM5.out, HD5.out⟩
      case measure => simp [intOf]; omega
    · have hkN : N = k := by omega
      subst hkN
      have HSA := Lib.hid (show ∀ y, y ∈ l1 ↔ okI y ∧ y ∈ l from fun y => by rw [HS.out, List.take_of_length_le (by rw [HLl.out]; exact Nat.le_refl _)])
      clear HS
      go_wp2_with fail
      go_loopw [11, 63] (fun v u wr => ∃ (k : Nat) (l2 mine : ItL) (nm : Nat) (g7 : Option Addr) (c7 : Nat), v = .slice g7 nm c7 ∧ u = .int .i64 (k : Int) ∧ k ≤ Q ∧ l2.length ≤ k ∧ nm ≤ k ∧ mine.length = nm ∧ srt l2 ∧ mine.Nodup ∧ Hid (∀ y, y ∈ mine ↔ y ∈ l2) ∧ DuoE Rep 33 w (.pointer (some p)) (.pointer (some q)) 200 (l1) (l2) (.slice g7 nm c7) (nm) (mine) ([]) (wr)) (fun _ u _ => (Q - intOf u).toNat)
      case atStart => exact ⟨0, [], [], 0, none, 0, rfl, rfl, by omega, by simp, by omega, rfl, List.Pairwise.nil, List.Pairwise.nil, Lib.hid (by simp), HDU.out⟩
      case round =>
        obtain ⟨k2, l2, mine, nm, g7, c7, rfl, rfl, hk2, hl2, hnm, hml, hsr2, hnd, HS2, hdu2⟩ := hrel
        have HD2 := Lib.hid hdu2
        have HL2 := Lib.hid hl2
        have HSR2 := Lib.hid hsr2
        have HND := Lib.hid hnd
        have HML := Lib.hid hml
        clear hdu2 hl2 hsr2 hnd hml
        by_cases hlt2 : k2 < Q
        · obtain ⟨ga, off, s, rfl, hs, hga, c0, c1, c2⟩ := Itm.get (HRm.out.keep (duo_bl HD2.out)) hlt2
          obtain ⟨x1, x2, x3⟩ := s
          have HX := Lib.hid hs
          have HP := Lib.hid (duo_push HK.out HD2.out #[.int .i64 x1, .int .i64 x2, .int .i64 x3] 33)
          have B9 := Blk.new wr #[.int .i64 x1, .int .i64 x2, .int .i64 x3] 33
          have y0 := B9.get 0 rfl; have y1 := B9.get 1 rfl; have y2 := B9.get 2 rfl
          clear hs B9
          have HL5 := Lib.hid (insL_len 200 (x1, x2, x3) l2)
          have HS5 := Lib.hid (insL_srt (M := 200) (x := (x1, x2, x3)) HSR2.out)
          have HM5 := Lib.hid (show ∀ y, y ∈ insL 200 (x1, x2, x3) l2 ↔ y ∈ l2 ∨ (y = (x1, x2, x3) ∧ okI (x1, x2, x3)) from fun y => insL_mem HSR2.out (by have := HL2.out; omega))
          have HR5 := Lib.hid (insR_ok (M := 200) (x := (x1, x2, x3)) HSR2.out (by have := HL2.out; omega))
          obtain ⟨r, hr⟩ : ∃ r, insR 200 (x1, x2, x3) l2 = r := ⟨_, rfl⟩
          rw [hr] at HR5
          by_cases h0 : r = 0
          · have z0 : (r == 0) = true := beq_iff_eq.2 h0
            have HN0 := Lib.hid (HR5.out.1 h0)
            clear h0
            go_wp2_with fail
            refine (duo_ins2 HK.out HP.out (by have := HL2.out; omega) (x1, x2, x3)).mono ?_
            rintro e w5 ⟨rfl, hd5⟩
            rw [hr]
            have HD5 := Lib.hid hd5
            have B5 := duo_b hd5 0 rfl
            have y0 := B5.get 0 rfl; have y1 := B5.get 1 rfl; have y2 := B5.get 2 rfl
            have HD6 := Lib.hid (duo_less (duo_push HK.out hd5 #[.int .i64 x1, .int .i64 x2, .int .i64 x3] 33))
            have hb6 := (duo_bl HD6.out).size
            clear hd5 B5 hr
            go_wp2_with (at_builtin; refine wpList_app2 rfl _ _ 29 rfl (cells3 [(x1, x2, x3)]) elem_item rfl (duo_own HD6.out) rfl rfl (new_cells w5 (cells3 [(x1, x2, x3)]) 33) (cells3_one _) (by omega) (by unfold maxLen; omega) hb6 ?_)
            rintro v7 w7 ho7 hg7 hw7
            have hd7 : DuoE Rep 33 w (.pointer (some p)) (.pointer (some q)) 200 (l1) (insL 200 (x1, x2, x3) l2) (v7) (nm + 1) (mine ++ [(x1, x2, x3)]) ([]) (w7) := by
              obtain ⟨F1', F2', h⟩ := HD6.out
              exact ⟨F1', F2', h.app HK.out.toRepOk (by rw [cells3_append]; exact ho7) hg7 (fun k hk => by have := hw7 k hk; simpa using this)⟩
            obtain ⟨g8, c8, hv8, _⟩ := Lies.of_own ho7 (by rw [← cells3_append, cells3_len, List.length_append, HML.out]; rfl)
            subst hv8
            have HD7 := Lib.hid hd7
            have HND7 := Lib.hid (show (mine ++ [(x1, x2, x3)]).Nodup from List.nodup_append.2 ⟨HND.out, by simp, fun a ha b hb e => by
              rcases List.mem_singleton.1 hb with rfl
              subst e
              exact HN0.out.2 ((HS2.out _).1 ha)⟩)
            have HS7 := Lib.hid (show ∀ y, y ∈ mine ++ [(x1, x2, x3)] ↔ y ∈ insL 200 (x1, x2, x3) l2 from fun y => by
              rw [HM5.out, List.mem_append, List.mem_singleton, HS2.out]
              constructor
              · rintro (h | h)
                · exact .inl h
                · exact .inr ⟨h, HN0.out.1⟩
              · rintro (h | ⟨h, _⟩)
                · exact .inl h
                · exact .inr h)
            clear ho7 hg7 hw7 hd7
            go_wp2_with fail
            go_roundw
            case rel => exact ⟨k2 + 1, insL 200 (x1, x2, x3) l2, mine ++ [(x1, x2, x3)], nm + 1, g8, c8, rfl, by go_num, by omega, by have := HL2.out; have := HL5.out; omega, by omega, by rw [List.length_append, HML.out]; rfl, HS5.out, HND7.out, HS7.out, HD7.out⟩
            case measure => simp [intOf]; omega
          · have z0 : (r == 0) = false := beq_eq_false_iff_ne.2 h0
            have HN0 := Lib.hid (show ¬ (okI (x1, x2, x3) ∧ ¬ (x1, x2, x3) ∈ l2) from fun e => h0 (HR5.out.2 e))
            clear h0
            go_wp2_with fail
            refine (duo_ins2 HK.out HP.out (by have := HL2.out; omega) (x1, x2, x3)).mono ?_
            rintro e w5 ⟨rfl, hd5⟩
            rw [hr]
            have HD5 := Lib.hid (duo_less hd5)
            have HS7 := Lib.hid (show ∀ y, y ∈ mine ↔ y ∈ insL 200 (x1, x2, x3) l2 from fun y => by
              rw [HM5.out, HS2.out]
              constructor
              · exact .inl
              · rintro (h | ⟨rfl, h⟩)
                · exact h
                · exact Classical.byContradiction fun e => HN0.out ⟨h, e⟩)
            clear hd5 hr
            go_wp2_with fail
            go_roundw
            case rel => exact ⟨k2 + 1, insL 200 (x1, x2, x3) l2, mine, nm, g7, c7, rfl, by go_num, by omega, by have := HL2.out; have := HL5.out; omega, by omega, HML.out, HS5.out, HND.out, HS7.out, HD5.out⟩
            case measure => simp [intOf]; omega
        · have hnQ : nm ≤ 100 := by omega
          have HL22 := Lib.hid (show l2.length ≤ 100 by have := HL2.out; omega)
          have hl1 : l1.length ≤ 100 := by have := HL.out; omega
          have HL1 := Lib.hid hl1
          clear hl1
          go_wp2_with fail
          go_loopw [78] (fun u wr => ∃ (i : Nat) (b3 : ItL), u = .int .i64 (i : Int) ∧ i ≤ N ∧ b3.length ≤ 100 + i ∧ srt b3 ∧ Hid (∀ y, y ∈ b3 ↔ y ∈ mine ∨ okI y ∧ y ∈ l.drop (N - i)) ∧ DuoE Rep 33 w (.pointer (some p)) (.pointer (some q)) 200 (l1) (b3) (.slice g7 nm c7) (nm) (mine) ([]) (wr)) (fun u _ => (N - intOf u).toNat)
          case atStart => exact ⟨0, l2, rfl, by omega, by have := HL22.out; omega, HSR2.out, Lib.hid (fun y => by rw [HS2.out, List.drop_of_length_le (by rw [HLl.out]; omega)]; simp), HD2.out⟩
          case round =>
            obtain ⟨i, b3, rfl, hi, hl3, hsr3, HS3, hdu3⟩ := hrel
            have HD3 := Lib.hid hdu3
            have HL3 := Lib.hid hl3
            have HSR3 := Lib.hid hsr3
            clear hdu3 hl3 hsr3 HD2 HS2 HSR2
            by_cases hlt3 : i < N
            · obtain ⟨j, hj⟩ : ∃ j, N - 1 - i = j := ⟨_, rfl⟩
              have hjN : j < N := by omega
              obtain ⟨ga, off, s, rfl, hs, hga, c0, c1, c2⟩ := Itm.get (HRl.out.keep (duo_bl HD3.out)) hjN
              obtain ⟨x1, x2, x3⟩ := s
              have HX := Lib.hid hs
              obtain ⟨J, hJ⟩ : ∃ J : Int, IntKind.i64.wrap ((N : Int) - 1) = J := ⟨_, rfl⟩
              have hJ1 : IntKind.i64.wrap ((N : Int) - 1) = (N : Int) - 1 := IntWalk.i64_in _ (by omega)
              have hJ2 : IntKind.i64.wrap (J - (i : Int)) = (j : Int) := by rw [← hJ, hJ1, IntWalk.i64_in _ (by omega)]; omega
              have hj0 : (0 : Int) ≤ (j : Int) := by omega
              have hj1 : (j : Int) < (N : Int) := by omega
              have HJ := Lib.hid hj
              clear hs hJ1 hj
              go_wp2_with fail
              refine (duo_ins2 HK.out HD3.out (by have := HL3.out; omega) (x1, x2, x3)).mono ?_
              rintro e w5 ⟨rfl, hd5⟩
              have HD5 := Lib.hid hd5
              have HL5 := Lib.hid (insL_len 200 (x1, x2, x3) b3)
              have HS5 := Lib.hid (insL_srt (M := 200) (x := (x1, x2, x3)) HSR3.out)
              have HM5 := Lib.hid (show ∀ y, y ∈ insL 200 (x1, x2, x3) b3 ↔ y ∈ mine ∨ okI y ∧ y ∈ l.drop (N - (i + 1)) from fun y => by
                rw [insL_mem HSR3.out (by have := HL3.out; omega), HS3.out, show N - (i + 1) = j by have := HJ.out; omega, drop_mem HX.out, show j + 1 = N - i by have := HJ.out; omega]
                constructor
                · rintro ((h | ⟨h1, h2⟩) | ⟨rfl, h⟩)
                  · exact .inl h
                  · exact .inr ⟨h1, .inr h2⟩
                  · exact .inr ⟨h, .inl rfl⟩
                · rintro (h | ⟨h1, rfl | h2⟩)
                  · exact .inl (.inl h)
                  · exact .inr ⟨rfl, h1⟩
                  · exact .inl (.inr ⟨h1, h2⟩))
              clear hd5 hJ hJ2
              go_wp2_with fail
              go_roundw
              case rel => exact ⟨i + 1, insL 200 (x1, x2, x3) b3, by go_num, by omega, by have := HL3.out; have := HL5.out; omega, HS5.out, HM5.out, HD5.out⟩
              case measure => simp [intOf]; omega
            · have HSB := Lib.hid (show ∀ y, y ∈ b3 ↔ y ∈ l1 ∨ y ∈ mine from fun y => by
                rw [HS3.out, show N - i = 0 by omega, List.drop_zero, HSA.out]
                exact ⟨fun h => h.symm, fun h => h.symm⟩)
              have HL33 := Lib.hid (show b3.length ≤ 200 by have := HL3.out; omega)
              clear HS3 HL3
              go_wp2_with fail
              go_loopw [94] (fun u wr => ∃ (i : Nat) (b4 : ItL), u = .int .i64 (i : Int) ∧ i ≤ nm ∧ b4.length ≤ 200 ∧ srt b4 ∧ Hid (∀ y, y ∈ b4 ↔ y ∈ l1 ∨ y ∈ mine.drop i) ∧ DuoE Rep 33 w (.pointer (some p)) (.pointer (some q)) 200 (l1) (b4) (.slice g7 nm c7) (nm) (mine) ([]) (wr)) (fun u _ => (nm - intOf u).toNat)
              case atStart => exact ⟨0, b3, rfl, by omega, HL33.out, HSR3.out, Lib.hid (by simpa using HSB.out), HD3.out⟩
              case round =>
                obtain ⟨i4, b4, rfl, hi4, hl4, hsr4, HS4, hdu4⟩ := hrel
                have HD4 := Lib.hid hdu4
                have HL4 := Lib.hid hl4
                have HSR4 := Lib.hid hsr4
                clear hdu4 hl4 hsr4 HD3 HSB HSR3
                by_cases hlt4 : i4 < nm
                · obtain ⟨ga, off, s, hga0, hs, hga, c0, c1, c2⟩ := Itm.get (own_lies (duo_own HD4.out)) hlt4
                  subst hga0
                  obtain ⟨x1, x2, x3⟩ := s
                  have HX := Lib.hid hs
                  have HP := Lib.hid (duo_push HK.out HD4.out #[.int .i64 x1, .int .i64 x2, .int .i64 x3] 33)
                  have B9 := Blk.new wr #[.int .i64 x1, .int .i64 x2, .int .i64 x3] 33
                  have y0 := B9.get 0 rfl; have y1 := B9.get 1 rfl; have y2 := B9.get 2 rfl
                  have hbi : (0 : Int) ≤ (i4 : Int) := by omega
                  have hbn : (i4 : Int) < (nm : Int) := by omega
                  clear hs B9
                  cases hh : hasI (x1, x2, x3) l1 with
                  | true =>
                    have HIN := Lib.hid ((hasI_iff HSR.out).1 hh)
                    have HH := Lib.hid hh
                    clear hh
                    go_wp2_with fail
                    refine (duo_has1 HK.out HP.out (by have := HL1.out; omega) (x1, x2, x3) HH.out).mono ?_
                    rintro e w5 ⟨rfl, hd5⟩
                    have HD5 := Lib.hid (duo_less hd5)
                    have HS5 := Lib.hid (show ∀ y, y ∈ b4 ↔ y ∈ l1 ∨ y ∈ mine.drop (i4 + 1) from fun y => by
                      rw [HS4.out, drop_mem HX.out]
                      constructor
                      · rintro (h | rfl | h)
                        · exact .inl h
                        · exact .inl HIN.out
                        · exact .inr h
                      · rintro (h | h)
                        · exact .inl h
                        · exact .inr (.inr h))
                    clear hd5
                    go_wp2_with fail
                    go_roundw
                    case rel => exact ⟨i4 + 1, b4, by go_num, by omega, HL4.out, HSR4.out, HS5.out, HD5.out⟩
                    case measure => simp [intOf]; omega
                  | false =>
                    have HOUT := Lib.hid (show ¬ (x1, x2, x3) ∈ l1 from fun e => by rw [(hasI_iff HSR.out).2 e] at hh; cases hh)
                    have HH := Lib.hid hh
                    clear hh
                    have HDR := Lib.hid (delR_ok (x := (x1, x2, x3)) HSR4.out ((HS4.out _).2 (.inr ((drop_mem HX.out _).2 (.inl rfl)))))
                    go_wp2_with fail
                    refine (duo_has1 HK.out HP.out (by have := HL1.out; omega) (x1, x2, x3) HH.out).mono ?_
                    rintro e w5 ⟨rfl, hd5⟩
                    have HD5 := Lib.hid hd5
                    have B5 := duo_b hd5 0 rfl
                    have y0 := B5.get 0 rfl; have y1 := B5.get 1 rfl; have y2 := B5.get 2 rfl
                    clear hd5 B5
                    go_wp2_with fail
                    refine (duo_del2 HK.out HD5.out (by have := HL4.out; omega) (x1, x2, x3)).mono ?_
                    rintro e w6 ⟨rfl, hd6⟩
                    rw [HDR.out]
                    have HD6 := Lib.hid (duo_less hd6)
                    have HL6 := Lib.hid (delL_len (x1, x2, x3) b4)
                    have HS6 := Lib.hid (delL_srt (x := (x1, x2, x3)) HSR4.out)
                    have HM6 := Lib.hid (show ∀ y, y ∈ delL (x1, x2, x3) b4 ↔ y ∈ l1 ∨ y ∈ mine.drop (i4 + 1) from fun y => by
                      rw [delL_mem HSR4.out, HS4.out, drop_mem HX.out]
                      constructor
                      · rintro ⟨h | rfl | h, hne⟩
                        · exact .inl h
                        · exact absurd rfl hne
                        · exact .inr h
                      · rintro (h | h)
                        · exact ⟨.inl h, fun e => HOUT.out (e ▸ h)⟩
                        · exact ⟨.inr (.inr h), fun e => drop_nodup HX.out HND.out (e ▸ h)⟩)
                    clear hd6
                    go_wp2_with fail
                    go_roundw
                    case rel => exact ⟨i4 + 1, delL (x1, x2, x3) b4, by go_num, by omega, by have := HL4.out; have := HL6.out; omega, HS6.out, HM6.out, HD6.out⟩
                    case measure => simp [intOf]; omega
                · have hbl : b4 = l1 := srt_one HSR4.out HSR.out fun y => by
                    rw [HS4.out, List.drop_of_length_le (by rw [HML.out]; omega)]; simp
                  subst hbl
                  clear HS4 HSR4
                  go_wp2_with fail
                  refine (duo_items1 HK.out HD4.out (by have := HL1.out; omega)).mono ?_
                  rintro e w5 ⟨X5, n5, c5, rfl, r5, b5, hd5⟩
                  have HR5 := Lib.hid r5
                  have HD5 := Lib.hid hd5
                  clear r5 b5 hd5
                  go_wp2_with fail
                  refine (duo_items2 HK.out HD5.out (by have := HL1.out; omega)).mono ?_
                  rintro e w6 ⟨Y6, n6, c6, rfl, r6, b6, hd6⟩
                  have hn56 : n6 = n5 := by rw [← Itm.count HR5.out, ← Itm.count r6]
                  subst hn56
                  have hn6 : n6 ≤ 100 := by rw [← Itm.count r6]; exact HL1.out
                  have HRX := Lib.hid (HR5.out.keep b6)
                  have HRY := Lib.hid r6
                  have HB6 := Lib.hid (duo_bl hd6)
                  clear r6 b6 hd6 HR5 HD5
                  go_wp2_with fail
                  go_loopw [120] (fun u wr => ∃ i : Nat, u = .int .i64 (i : Int) ∧ i ≤ n6 ∧ Below w6.heap.size w6 wr) (fun u _ => (n6 - intOf u).toNat)
                  case atStart => exact ⟨0, rfl, by omega, Below.refl _ _⟩
                  case round =>
                    obtain ⟨i6, rfl, hi6, hb6⟩ := hrel
                    have HB7 := Lib.hid hb6
                    clear hb6
                    by_cases hlt6 : i6 < n6
                    · obtain ⟨gx, ox, s, rfl, hsx, hgx, c0, c1, c2⟩ := Itm.get (HRX.out.keep HB7.out) hlt6
                      obtain ⟨gy, oy, s2, rfl, hsy, hgy, e0, e1, e2⟩ := Itm.get (HRY.out.keep HB7.out) hlt6
                      rw [hsx] at hsy
                      obtain rfl := Option.some.inj hsy
                      obtain ⟨x1, x2, x3⟩ := s
                      have HX := Lib.hid hsx
                      have hbi : (0 : Int) ≤ (i6 : Int) := by omega
                      have hbn : (i6 : Int) < (n6 : Int) := by omega
                      clear hsx hsy
                      by_cases hz : i6 = 0
                      · have dz : decide ((i6 : Int) > 0) = false := decide_eq_false (by omega)
                        have HZ := Lib.hid hz
                        clear hz
                        go_upto_region 36 with fail
                        refine wp_region_rel 26 (Ext wr)
                          (fun i => List.getD [VE (.slice (some ⟨gx, ox, none⟩) n6 c5), VE (.int .i64 (i6 : Int)), VE (.pointer (some ⟨gx, ox + i6 * 3, none⟩)), VE (.agg #[.int .i64 x1, .int .i64 x2, .int .i64 x3]), VE (.slice (some ⟨gy, oy, none⟩) n6 c6), VE (.int .i64 (i6 : Int)), VE (.pointer (some ⟨gy, oy + i6 * 3, none⟩)), VE (.agg #[.int .i64 x1, .int .i64 x2, .int .i64 x3]), VE (.bool false), VE (.bool false), VE (.int .i64 (i6 : Int)), VE (.bool false), VE (.bool false), VE (undef), VE (undef), VE (undef), VE (undef), VE (undef), VE (undef), VE (undef), VE (undef), VE (undef), VE (undef), VE (undef), VE (.bool false), VE (.bool false)] i (fun _ _ => False)) [] [0, 1, 2, 4, 5, 6, 8, 9, 10, 11, 12, 13, 14, 15, 16, 17, 18, 19, 20, 21, 22, 23, 24, 25] (by kernel_rfl) (by kernel_rfl) (Ext.start wr) (fun _ _ h hb => h.grow hb)
                          (stays_all (stays_cons (stays_VE _) (stays_cons (stays_VE _) (stays_cons (stays_VE _) (stays_cons (stays_VE _) (stays_cons (stays_VE _) (stays_cons (stays_VE _) (stays_cons (stays_VE _) (stays_cons (stays_VE _) (stays_cons (stays_VE _) (stays_cons (stays_VE _) (stays_cons (stays_VE _) (stays_cons (stays_VE _) (stays_cons (stays_VE _) (stays_cons (stays_VE _) (stays_cons (stays_VE _) (stays_cons (stays_VE _) (stays_cons (stays_VE _) (stays_cons (stays_VE _) (stays_cons (stays_VE _) (stays_cons (stays_VE _) (stays_cons (stays_VE _) (stays_cons (stays_VE _) (stays_cons (stays_VE _) (stays_cons (stays_VE _) (stays_cons (stays_VE _) (stays_cons (stays_VE _) stays_nil))))))))))))))))))))))))))) ⟨?_, ?_, ?_, ?_, ?_, ?_, ?_, ?_, ?_, ?_, ?_, ?_, ?_, ?_, ?_, ?_, ?_, ?_, ?_, ?_, ?_, ?_, ?_, ?_, ?_, ?_, trivial⟩ ?_
                        · intro ev wv hE hw hd
                          refine ifw rfl (ifw rfl ?_)
                          have v17 : ev (.tmp 17) = .slice (some ⟨gx, ox, none⟩) n6 c5 := hE.tmp 17 rfl
                          refine ⟨.slice (some ⟨gx, ox, none⟩) n6 c5, fun w => ?_, rfl⟩
                          have e1 := hE.const; have e2 := hE.func; clear hE hd hw
                          go_simp
                        · intro ev wv hE hw hd
                          refine ifw rfl (ifw rfl ?_)
                          have v19 : ev (.tmp 19) = .int .i64 (i6 : Int) := hE.tmp 19 rfl
                          refine ⟨.int .i64 (i6 : Int), fun w => ?_, rfl⟩
                          have e1 := hE.const; have e2 := hE.func; clear hE hd hw
                          go_simp
                        · intro ev wv hE hw hd
                          refine ifw rfl (ifw rfl ?_)
                          have v123 : ev (.tmp 123) = .slice (some ⟨gx, ox, none⟩) n6 c5 := hd 0 (by decide)
                          have v124 : ev (.tmp 124) = .int .i64 (i6 : Int) := hd 1 (by decide)
                          refine ⟨.pointer (some ⟨gx, ox + i6 * 3, none⟩), fun w => ?_, rfl⟩
                          have e1 := hE.const; have e2 := hE.func; clear hE hd hw
                          go_simp
                        · intro ev wv hE hw hd
                          refine ifw rfl (ifn rfl ?_)
                          have v125 : ev (.tmp 125) = .pointer (some ⟨gx, ox + i6 * 3, none⟩) := hd 2 (by decide)
                          have kx := (Below.cell hw hgx).trans c0
                          have ky := (Below.cell hw hgx).trans c1
                          have kz := (Below.cell hw hgx).trans c2
                          refine rel_val (u := .agg #[.int .i64 x1, .int .i64 x2, .int .i64 x3]) (w' := wv) ?_ (Below.refl _ _) ⟨rfl, fun h => by cases h⟩
                          have e1 := hE.const; clear hE hd hw
                          go_simp
                        · intro ev wv hE hw hd
                          refine ifw rfl (ifw rfl ?_)
                          have v18 : ev (.tmp 18) = .slice (some ⟨gy, oy, none⟩) n6 c6 := hE.tmp 18 rfl
                          refine ⟨.slice (some ⟨gy, oy, none⟩) n6 c6, fun w => ?_, rfl⟩
                          have e1 := hE.const; have e2 := hE.func; clear hE hd hw
                          go_simp
                        · intro ev wv hE hw hd
                          refine ifw rfl (ifw rfl ?_)
                          have v19 : ev (.tmp 19) = .int .i64 (i6 : Int) := hE.tmp 19 rfl
                          refine ⟨.int .i64 (i6 : Int), fun w => ?_, rfl⟩
                          have e1 := hE.const; have e2 := hE.func; clear hE hd hw
                          go_simp
                        · intro ev wv hE hw hd
                          refine ifw rfl (ifw rfl ?_)
                          have v127 : ev (.tmp 127) = .slice (some ⟨gy, oy, none⟩) n6 c6 := hd 4 (by decide)
                          have v128 : ev (.tmp 128) = .int .i64 (i6 : Int) := hd 5 (by decide)
                          refine ⟨.pointer (some ⟨gy, oy + i6 * 3, none⟩), fun w => ?_, rfl⟩
                          have e1 := hE.const; have e2 := hE.func; clear hE hd hw
                          go_simp
                        · intro ev wv hE hw hd
                          refine ifw rfl (ifn rfl ?_)
                          have v129 : ev (.tmp 129) = .pointer (some ⟨gy, oy + i6 * 3, none⟩) := hd 6 (by decide)
                          have kx := (Below.cell hw hgy).trans e0
                          have ky := (Below.cell hw hgy).trans e1
                          have kz := (Below.cell hw hgy).trans e2
                          refine rel_val (u := .agg #[.int .i64 x1, .int .i64 x2, .int .i64 x3]) (w' := wv) ?_ (Below.refl _ _) ⟨rfl, fun h => by cases h⟩
                          have e1 := hE.const; clear hE hd hw
                          go_simp
                        · intro ev wv hE hw hd
                          refine ifw rfl (ifw rfl ?_)
                          have v126 : ev (.tmp 126) = .agg #[.int .i64 x1, .int .i64 x2, .int .i64 x3] := hd 3 (by decide)
                          have v130 : ev (.tmp 130) = .agg #[.int .i64 x1, .int .i64 x2, .int .i64 x3] := hd 7 (by decide)
                          refine ⟨.bool false, fun w => ?_, rfl⟩
                          have e1 := hE.const; have e2 := hE.func; clear hE hd hw
                          go_simp
                        · intro ev wv hE hw hd
                          refine ifw rfl (ifw rfl ?_)
                          have v131 : ev (.tmp 131) = .bool false := hd 8 (by decide)
                          refine ⟨.bool false, fun w => ?_, rfl⟩
                          have e1 := hE.const; have e2 := hE.func; clear hE hd hw
                          go_simp
                        · intro ev wv hE hw hd
                          have vg : ev (.tmp 132) = .bool false := hd 9 (by decide)
                          refine ifw (by show (yv (ev (.tmp 132)) == some false) = true; rw [vg]; rfl) (ifw rfl ?_)
                          clear vg
                          have v19 : ev (.tmp 19) = .int .i64 (i6 : Int) := hE.tmp 19 rfl
                          refine ⟨.int .i64 (i6 : Int), fun w => ?_, rfl⟩
                          have e1 := hE.const; have e2 := hE.func; clear hE hd hw
                          go_simp
                        · intro ev wv hE hw hd
                          have vg : ev (.tmp 132) = .bool false := hd 9 (by decide)
                          refine ifw (by show (yv (ev (.tmp 132)) == some false) = true; rw [vg]; rfl) (ifw rfl ?_)
                          clear vg
                          have v133 : ev (.tmp 133) = .int .i64 (i6 : Int) := hd 10 (by decide)
                          refine ⟨.bool false, fun w => ?_, rfl⟩
                          have e1 := hE.const; have e2 := hE.func; clear hE hd hw
                          have hz0 := HZ.out
                          go_simp
                        · intro ev wv hE hw hd
                          have vg : ev (.tmp 132) = .bool false := hd 9 (by decide)
                          refine ifw (by show (yv (ev (.tmp 132)) == some false) = true; rw [vg]; rfl) (ifw rfl ?_)
                          clear vg
                          have v134 : ev (.tmp 134) = .bool false := hd 11 (by decide)
                          refine ⟨.bool false, fun w => ?_, rfl⟩
                          have e1 := hE.const; have e2 := hE.func; clear hE hd hw
                          go_simp
                        · intro ev wv hE hw hd
                          have vg : ev (.tmp 135) = .bool false := hd 12 (by decide)
                          exact ifn (by show (yv (ev (.tmp 135)) == some true) = false; rw [vg]; rfl) rfl
                        · intro ev wv hE hw hd
                          have vg : ev (.tmp 135) = .bool false := hd 12 (by decide)
                          exact ifn (by show (yv (ev (.tmp 135)) == some true) = false; rw [vg]; rfl) rfl
                        · intro ev wv hE hw hd
                          have vg : ev (.tmp 135) = .bool false := hd 12 (by decide)
                          exact ifn (by show (yv (ev (.tmp 135)) == some true) = false; rw [vg]; rfl) rfl
                        · intro ev wv hE hw hd
                          have vg : ev (.tmp 135) = .bool false := hd 12 (by decide)
                          exact ifn (by show (yv (ev (.tmp 135)) == some true) = false; rw [vg]; rfl) rfl
                        · intro ev wv hE hw hd
                          have vg : ev (.tmp 135) = .bool false := hd 12 (by decide)
                          exact ifn (by show (yv (ev (.tmp 135)) == some true) = false; rw [vg]; rfl) rfl
                        · intro ev wv hE hw hd
                          have vg : ev (.tmp 135) = .bool false := hd 12 (by decide)
                          exact ifn (by show (yv (ev (.tmp 135)) == some true) = false; rw [vg]; rfl) rfl
                        · intro ev wv hE hw hd
                          have vg : ev (.tmp 135) = .bool false := hd 12 (by decide)
                          exact ifn (by show (yv (ev (.tmp 135)) == some true) = false; rw [vg]; rfl) rfl
                        · intro ev wv hE hw hd
                          have vg : ev (.tmp 135) = .bool false := hd 12 (by decide)
                          exact ifn (by show (yv (ev (.tmp 135)) == some true) = false; rw [vg]; rfl) rfl
                        · intro ev wv hE hw hd
                          have vg : ev (.tmp 135) = .bool false := hd 12 (by decide)
                          exact ifn (by show (yv (ev (.tmp 135)) == some true) = false; rw [vg]; rfl) rfl
                        · intro ev wv hE hw hd
                          have vg : ev (.tmp 135) = .bool false := hd 12 (by decide)
                          exact ifn (by show (yv (ev (.tmp 135)) == some true) = false; rw [vg]; rfl) rfl
                        · intro ev wv hE hw hd
                          have vg : ev (.tmp 135) = .bool false := hd 12 (by decide)
                          exact ifn (by show (yv (ev (.tmp 135)) == some true) = false; rw [vg]; rfl) rfl
                        · intro ev wv hE hw hd
                          have vg : ev (.tmp 132) = .bool false := hd 9 (by decide)
                          refine ifw (by show (yv (ev (.tmp 132)) == some false) = true; rw [vg]; rfl) (ifw rfl ?_)
                          clear vg
                          have v135 : ev (.tmp 135) = .bool false := hd 12 (by decide)
                          have v146 : ev (.tmp 146) = undef := hd 23 (by decide)
                          refine ⟨.bool false, fun w => ?_, rfl⟩
                          have e1 := hE.const; have e2 := hE.func; clear hE hd hw
                          go_simp
                        · intro ev wv hE hw hd
                          refine ifw rfl (ifw rfl ?_)
                          have v132 : ev (.tmp 132) = .bool false := hd 9 (by decide)
                          have v147 : ev (.tmp 147) = .bool false := hd 24 (by decide)
                          refine ⟨.bool false, fun w => ?_, rfl⟩
                          have e1 := hE.const; have e2 := hE.func; clear hE hd hw
                          go_simp
                        · intro wz hw
                          intro v0 h0 _ v1 h1 _ v2 h2 _ v3 h3 _ v4 h4 _ v5 h5 _ v6 h6 _ v7 h7 _ v8 h8 _ v9 h9 _ v10 h10 _ v11 h11 _ v12 h12 _ v13 h13 _ v14 h14 _ v15 h15 _ v16 h16 _ v17 h17 _ v18 h18 _ v19 h19 _ v20 h20 _ v21 h21 _ v22 h22 _ v23 h23 _ v24 h24 _ v25 h25 _
                          simp only [Act.put, List.setIfInBounds_toArray, List.set_cons_zero, List.set_cons_succ, List.drop_succ_cons, List.drop_zero]
                          obtain rfl : v0 = _ := h0
                          obtain rfl : v1 = _ := h1
                          obtain rfl : v2 = _ := h2
                          obtain rfl : v3 = _ := h3
                          obtain rfl : v4 = _ := h4
                          obtain rfl : v5 = _ := h5
                          obtain rfl : v6 = _ := h6
                          obtain rfl : v7 = _ := h7
                          obtain rfl : v8 = _ := h8
                          obtain rfl : v9 = _ := h9
                          obtain rfl : v10 = _ := h10
                          obtain rfl : v11 = _ := h11
                          obtain rfl : v12 = _ := h12
                          obtain rfl : v13 = _ := h13
                          obtain rfl : v14 = _ := h14
                          obtain rfl : v15 = _ := h15
                          obtain rfl : v16 = _ := h16
                          obtain rfl : v17 = _ := h17
                          obtain rfl : v18 = _ := h18
                          obtain rfl : v19 = _ := h19
                          obtain rfl : v20 = _ := h20
                          obtain rfl : v21 = _ := h21
                          obtain rfl : v22 = _ := h22
                          obtain rfl : v23 = _ := h23
                          obtain rfl : v24 = _ := h24
                          obtain rfl : v25 = _ := h25
                          change wpList Try.prog _ _ _ _ wz
                          have HB8 := Lib.hid (HB7.out.trans (Below.mono hw HB7.out.size))
                          clear hw c0 c1 c2 e0 e1 e2
                          go_wp2_with fail
                          refine calm_normal ?_
                          go_wp2_with fail
                          go_roundw
                          case rel => exact ⟨i6 + 1, by go_num, by omega, HB8.out⟩
                          case measure => simp [intOf]; omega
                      · have dz : decide ((i6 : Int) > 0) = true := decide_eq_true (by omega)
                        obtain ⟨h, hh⟩ : ∃ h, i6 - 1 = h := ⟨_, rfl⟩
                        have hlth : h < n6 := by omega
                        obtain ⟨gz, oz, s3, hgz, hsz, hgzl, z0, z1, z2⟩ := Itm.get (HRX.out.keep HB7.out) hlth
                        injection hgz with hgz
                        injection hgz with ez1 ez2 _
                        subst ez1 ez2
                        obtain ⟨u1, u2, u3⟩ := s3
                        have hw1 : IntKind.i64.wrap ((i6 : Int) - 1) = (h : Int) := by rw [IntWalk.i64_in _ (by omega)]; omega
                        have hhi : (0 : Int) ≤ (h : Int) := by omega
                        have hhn : (h : Int) < (n6 : Int) := by omega
                        have HLE := Lib.hid (srt_at HSR.out hsz (show b4[h + 1]? = some (x1, x2, x3) by rw [show h + 1 = i6 by omega]; exact HX.out))
                        have HZ := Lib.hid (show 0 < i6 by omega)
                        clear hz hh hsz
                        go_upto_region 36 with fail
                        refine wp_region_rel 26 (Ext wr)
                          (fun i => List.getD [VE (.slice (some ⟨gx, ox, none⟩) n6 c5), VE (.int .i64 (i6 : Int)), VE (.pointer (some ⟨gx, ox + i6 * 3, none⟩)), VE (.agg #[.int .i64 x1, .int .i64 x2, .int .i64 x3]), VE (.slice (some ⟨gy, oy, none⟩) n6 c6), VE (.int .i64 (i6 : Int)), VE (.pointer (some ⟨gy, oy + i6 * 3, none⟩)), VE (.agg #[.int .i64 x1, .int .i64 x2, .int .i64 x3]), VE (.bool false), VE (.bool false), VE (.int .i64 (i6 : Int)), VE (.bool true), VE (.bool true), VE (.slice (some ⟨gx, ox, none⟩) n6 c5), VE (.int .i64 (i6 : Int)), VE (.int .i64 (h : Int)), VE (.pointer (some ⟨gx, ox + h * 3, none⟩)), VE (.agg #[.int .i64 u1, .int .i64 u2, .int .i64 u3]), VE (.slice (some ⟨gx, ox, none⟩) n6 c5), VE (.int .i64 (i6 : Int)), VE (.pointer (some ⟨gx, ox + i6 * 3, none⟩)), VE (.agg #[.int .i64 x1, .int .i64 x2, .int .i64 x3]), VE (.bool true), VE (.bool false), VE (.bool false), VE (.bool false)] i (fun _ _ => False)) [] [0, 1, 2, 4, 5, 6, 8, 9, 10, 11, 12, 13, 14, 15, 16, 18, 19, 20, 23, 24, 25] (by kernel_rfl) (by kernel_rfl) (Ext.start wr) (fun _ _ h hb => h.grow hb)
                          (stays_all (stays_cons (stays_VE _) (stays_cons (stays_VE _) (stays_cons (stays_VE _) (stays_cons (stays_VE _) (stays_cons (stays_VE _) (stays_cons (stays_VE _) (stays_cons (stays_VE _) (stays_cons (stays_VE _) (stays_cons (stays_VE _) (stays_cons (stays_VE _) (stays_cons (stays_VE _) (stays_cons (stays_VE _) (stays_cons (stays_VE _) (stays_cons (stays_VE _) (stays_cons (stays_VE _) (stays_cons (stays_VE _) (stays_cons (stays_VE _) (stays_cons (stays_VE _) (stays_cons (stays_VE _) (stays_cons (stays_VE _) (stays_cons (stays_VE _) (stays_cons (stays_VE _) (stays_cons (stays_VE _) (stays_cons (stays_VE _) (stays_cons (stays_VE _) (stays_cons (stays_VE _) stays_nil))))))))))))))))))))))))))) ⟨?_, ?_, ?_, ?_, ?_, ?_, ?_, ?_, ?_, ?_, ?_, ?_, ?_, ?_, ?_, ?_, ?_, ?_, ?_, ?_, ?_, ?_, ?_, ?_, ?_, ?_, trivial⟩ ?_
                        · intro ev wv hE hw hd
                          refine ifw rfl (ifw rfl ?_)
                          have v17 : ev (.tmp 17) = .slice (some ⟨gx, ox, none⟩) n6 c5 := hE.tmp 17 rfl
                          refine ⟨.slice (some ⟨gx, ox, none⟩) n6 c5, fun w => ?_, rfl⟩
                          have e1 := hE.const; have e2 := hE.func; clear hE hd hw
                          go_simp
                        · intro ev wv hE hw hd
                          refine ifw rfl (ifw rfl ?_)
                          have v19 : ev (.tmp 19) = .int .i64 (i6 : Int) := hE.tmp 19 rfl
                          refine ⟨.int .i64 (i6 : Int), fun w => ?_, rfl⟩
                          have e1 := hE.const; have e2 := hE.func; clear hE hd hw
                          go_simp
                        · intro ev wv hE hw hd
                          refine ifw rfl (ifw rfl ?_)
                          have v123 : ev (.tmp 123) = .slice (some ⟨gx, ox, none⟩) n6 c5 := hd 0 (by decide)
                          have v124 : ev (.tmp 124) = .int .i64 (i6 : Int) := hd 1 (by decide)
                          refine ⟨.pointer (some ⟨gx, ox + i6 * 3, none⟩), fun w => ?_, rfl⟩
                          have e1 := hE.const; have e2 := hE.func; clear hE hd hw
                          go_simp
                        · intro ev wv hE hw hd
                          refine ifw rfl (ifn rfl ?_)
                          have v125 : ev (.tmp 125) = .pointer (some ⟨gx, ox + i6 * 3, none⟩) := hd 2 (by decide)
                          have kx := (Below.cell hw hgx).trans c0
                          have ky := (Below.cell hw hgx).trans c1
                          have kz := (Below.cell hw hgx).trans c2
                          refine rel_val (u := .agg #[.int .i64 x1, .int .i64 x2, .int .i64 x3]) (w' := wv) ?_ (Below.refl _ _) ⟨rfl, fun h => by cases h⟩
                          have e1 := hE.const; clear hE hd hw
                          go_simp
                        · intro ev wv hE hw hd
                          refine ifw rfl (ifw rfl ?_)
                          have v18 : ev (.tmp 18) = .slice (some ⟨gy, oy, none⟩) n6 c6 := hE.tmp 18 rfl
                          refine ⟨.slice (some ⟨gy, oy, none⟩) n6 c6, fun w => ?_, rfl⟩
                          have e1 := hE.const; have e2 := hE.func; clear hE hd hw
                          go_simp
                        · intro ev wv hE hw hd
                          refine ifw rfl (ifw rfl ?_)
                          have v19 : ev (.tmp 19) = .int .i64 (i6 : Int) := hE.tmp 19 rfl
                          refine ⟨.int .i64 (i6 : Int), fun w => ?_, rfl⟩
                          have e1 := hE.const; have e2 := hE.func; clear hE hd hw
                          go_simp
                        · intro ev wv hE hw hd
                          refine ifw rfl (ifw rfl ?_)
                          have v127 : ev (.tmp 127) = .slice (some ⟨gy, oy, none⟩) n6 c6 := hd 4 (by decide)
                          have v128 : ev (.tmp 128) = .int .i64 (i6 : Int) := hd 5 (by decide)
                          refine ⟨.pointer (some ⟨gy, oy + i6 * 3, none⟩), fun w => ?_, rfl⟩
                          have e1 := hE.const; have e2 := hE.func; clear hE hd hw
                          go_simp
                        · intro ev wv hE hw hd
                          refine ifw rfl (ifn rfl ?_)
                          have v129 : ev (.tmp 129) = .pointer (some ⟨gy, oy + i6 * 3, none⟩) := hd 6 (by decide)
                          have kx := (Below.cell hw hgy).trans e0
                          have ky := (Below.cell hw hgy).trans e1
                          have kz := (Below.cell hw hgy).trans e2
                          refine rel_val (u := .agg #[.int .i64 x1, .int .i64 x2, .int .i64 x3]) (w' := wv) ?_ (Below.refl _ _) ⟨rfl, fun h => by cases h⟩
                          have e1 := hE.const; clear hE hd hw
                          go_simp
                        · intro ev wv hE hw hd
                          refine ifw rfl (ifw rfl ?_)
                          have v126 : ev (.tmp 126) = .agg #[.int .i64 x1, .int .i64 x2, .int .i64 x3] := hd 3 (by decide)
                          have v130 : ev (.tmp 130) = .agg #[.int .i64 x1, .int .i64 x2, .int .i64 x3] := hd 7 (by decide)
                          refine ⟨.bool false, fun w => ?_, rfl⟩
                          have e1 := hE.const; have e2 := hE.func; clear hE hd hw
                          go_simp
                        · intro ev wv hE hw hd
                          refine ifw rfl (ifw rfl ?_)
                          have v131 : ev (.tmp 131) = .bool false := hd 8 (by decide)
                          refine ⟨.bool false, fun w => ?_, rfl⟩
                          have e1 := hE.const; have e2 := hE.func; clear hE hd hw
                          go_simp
                        · intro ev wv hE hw hd
                          have vg : ev (.tmp 132) = .bool false := hd 9 (by decide)
                          refine ifw (by show (yv (ev (.tmp 132)) == some false) = true; rw [vg]; rfl) (ifw rfl ?_)
                          clear vg
                          have v19 : ev (.tmp 19) = .int .i64 (i6 : Int) := hE.tmp 19 rfl
                          refine ⟨.int .i64 (i6 : Int), fun w => ?_, rfl⟩
                          have e1 := hE.const; have e2 := hE.func; clear hE hd hw
                          go_simp
                        · intro ev wv hE hw hd
                          have vg : ev (.tmp 132) = .bool false := hd 9 (by decide)
                          refine ifw (by show (yv (ev (.tmp 132)) == some false) = true; rw [vg]; rfl) (ifw rfl ?_)
                          clear vg
                          have v133 : ev (.tmp 133) = .int .i64 (i6 : Int) := hd 10 (by decide)
                          refine ⟨.bool true, fun w => ?_, rfl⟩
                          have e1 := hE.const; have e2 := hE.func; clear hE hd hw
                          have hz0 := HZ.out
                          go_simp
                        · intro ev wv hE hw hd
                          have vg : ev (.tmp 132) = .bool false := hd 9 (by decide)
                          refine ifw (by show (yv (ev (.tmp 132)) == some false) = true; rw [vg]; rfl) (ifw rfl ?_)
                          clear vg
                          have v134 : ev (.tmp 134) = .bool true := hd 11 (by decide)
                          refine ⟨.bool true, fun w => ?_, rfl⟩
                          have e1 := hE.const; have e2 := hE.func; clear hE hd hw
                          go_simp
                        · intro ev wv hE hw hd
                          have vg : ev (.tmp 135) = .bool true := hd 12 (by decide)
                          refine ifw (by show (yv (ev (.tmp 135)) == some true) = true; rw [vg]; rfl) (ifw rfl ?_)
                          clear vg
                          have v17 : ev (.tmp 17) = .slice (some ⟨gx, ox, none⟩) n6 c5 := hE.tmp 17 rfl
                          refine ⟨.slice (some ⟨gx, ox, none⟩) n6 c5, fun w => ?_, rfl⟩
                          have e1 := hE.const; have e2 := hE.func; clear hE hd hw
                          go_simp
                        · intro ev wv hE hw hd
                          have vg : ev (.tmp 135) = .bool true := hd 12 (by decide)
                          refine ifw (by show (yv (ev (.tmp 135)) == some true) = true; rw [vg]; rfl) (ifw rfl ?_)
                          clear vg
                          have v19 : ev (.tmp 19) = .int .i64 (i6 : Int) := hE.tmp 19 rfl
                          refine ⟨.int .i64 (i6 : Int), fun w => ?_, rfl⟩
                          have e1 := hE.const; have e2 := hE.func; clear hE hd hw
                          go_simp
                        · intro ev wv hE hw hd
                          have vg : ev (.tmp 135) = .bool true := hd 12 (by decide)
                          refine ifw (by show (yv (ev (.tmp 135)) == some true) = true; rw [vg]; rfl) (ifw rfl ?_)
                          clear vg
                          have v137 : ev (.tmp 137) = .int .i64 (i6 : Int) := hd 14 (by decide)
                          refine ⟨.int .i64 (h : Int), fun w => ?_, rfl⟩
                          have e1 := hE.const; have e2 := hE.func; clear hE hd hw
                          go_simp
                        · intro ev wv hE hw hd
                          have vg : ev (.tmp 135) = .bool true := hd 12 (by decide)
                          refine ifw (by show (yv (ev (.tmp 135)) == some true) = true; rw [vg]; rfl) (ifw rfl ?_)
                          clear vg
                          have v136 : ev (.tmp 136) = .slice (some ⟨gx, ox, none⟩) n6 c5 := hd 13 (by decide)
                          have v138 : ev (.tmp 138) = .int .i64 (h : Int) := hd 15 (by decide)
                          refine ⟨.pointer (some ⟨gx, ox + h * 3, none⟩), fun w => ?_, rfl⟩
                          have e1 := hE.const; have e2 := hE.func; clear hE hd hw
                          go_simp
                        · intro ev wv hE hw hd
                          have vg : ev (.tmp 135) = .bool true := hd 12 (by decide)
                          refine ifw (by show (yv (ev (.tmp 135)) == some true) = true; rw [vg]; rfl) (ifn rfl ?_)
                          clear vg
                          have v139 : ev (.tmp 139) = .pointer (some ⟨gx, ox + h * 3, none⟩) := hd 16 (by decide)
                          have kx := (Below.cell hw hgx).trans z0
                          have ky := (Below.cell hw hgx).trans z1
                          have kz := (Below.cell hw hgx).trans z2
                          refine rel_val (u := .agg #[.int .i64 u1, .int .i64 u2, .int .i64 u3]) (w' := wv) ?_ (Below.refl _ _) ⟨rfl, fun h => by cases h⟩
                          have e1 := hE.const; clear hE hd hw
                          go_simp
                        · intro ev wv hE hw hd
                          have vg : ev (.tmp 135) = .bool true := hd 12 (by decide)
                          refine ifw (by show (yv (ev (.tmp 135)) == some true) = true; rw [vg]; rfl) (ifw rfl ?_)
                          clear vg
                          have v17 : ev (.tmp 17) = .slice (some ⟨gx, ox, none⟩) n6 c5 := hE.tmp 17 rfl
                          refine ⟨.slice (some ⟨gx, ox, none⟩) n6 c5, fun w => ?_, rfl⟩
                          have e1 := hE.const; have e2 := hE.func; clear hE hd hw
                          go_simp
                        · intro ev wv hE hw hd
                          have vg : ev (.tmp 135) = .bool true := hd 12 (by decide)
                          refine ifw (by show (yv (ev (.tmp 135)) == some true) = true; rw [vg]; rfl) (ifw rfl ?_)
                          clear vg
                          have v19 : ev (.tmp 19) = .int .i64 (i6 : Int) := hE.tmp 19 rfl
                          refine ⟨.int .i64 (i6 : Int), fun w => ?_, rfl⟩
                          have e1 := hE.const; have e2 := hE.func; clear hE hd hw
                          go_simp
                        · intro ev wv hE hw hd
                          have vg : ev (.tmp 135) = .bool true := hd 12 (by decide)
                          refine ifw (by show (yv (ev (.tmp 135)) == some true) = true; rw [vg]; rfl) (ifw rfl ?_)
                          clear vg
                          have v141 : ev (.tmp 141) = .slice (some ⟨gx, ox, none⟩) n6 c5 := hd 18 (by decide)
                          have v142 : ev (.tmp 142) = .int .i64 (i6 : Int) := hd 19 (by decide)
                          refine ⟨.pointer (some ⟨gx, ox + i6 * 3, none⟩), fun w => ?_, rfl⟩
                          have e1 := hE.const; have e2 := hE.func; clear hE hd hw
                          go_simp
                        · intro ev wv hE hw hd
                          have vg : ev (.tmp 135) = .bool true := hd 12 (by decide)
                          refine ifw (by show (yv (ev (.tmp 135)) == some true) = true; rw [vg]; rfl) (ifn rfl ?_)
                          clear vg
                          have v143 : ev (.tmp 143) = .pointer (some ⟨gx, ox + i6 * 3, none⟩) := hd 20 (by decide)
                          have kx := (Below.cell hw hgx).trans c0
                          have ky := (Below.cell hw hgx).trans c1
                          have kz := (Below.cell hw hgx).trans c2
                          refine rel_val (u := .agg #[.int .i64 x1, .int .i64 x2, .int .i64 x3]) (w' := wv) ?_ (Below.refl _ _) ⟨rfl, fun h => by cases h⟩
                          have e1 := hE.const; clear hE hd hw
                          go_simp
                        · intro ev wv hE hw hd
                          have vg : ev (.tmp 135) = .bool true := hd 12 (by decide)
                          refine ifw (by show (yv (ev (.tmp 135)) == some true) = true; rw [vg]; rfl) (ifn rfl ?_)
                          clear vg
                          have v140 : ev (.tmp 140) = .agg #[.int .i64 u1, .int .i64 u2, .int .i64 u3] := hd 17 (by decide)
                          have v144 : ev (.tmp 144) = .agg #[.int .i64 x1, .int .i64 x2, .int .i64 x3] := hd 21 (by decide)
                          refine rel_call (f := 17) (args := #[.agg #[.int .i64 u1, .int .i64 u2, .int .i64 u3], .agg #[.int .i64 x1, .int .i64 x2, .int .i64 x3]]) ?_ (lawless_yes HLE.out _) ?_
                          · have e0 := hE.func; have e1 := hE.const; clear hE hd hw
                            go_simp
                          · rintro e w' ⟨rfl, hb⟩
                            exact ⟨_, rfl, hb, rfl, fun h => by cases h⟩
                        · intro ev wv hE hw hd
                          have vg : ev (.tmp 135) = .bool true := hd 12 (by decide)
                          refine ifw (by show (yv (ev (.tmp 135)) == some true) = true; rw [vg]; rfl) (ifw rfl ?_)
                          clear vg
                          have v145 : ev (.tmp 145) = .bool true := hd 22 (by decide)
                          refine ⟨.bool false, fun w => ?_, rfl⟩
                          have e1 := hE.const; have e2 := hE.func; clear hE hd hw
                          go_simp
                        · intro ev wv hE hw hd
                          have vg : ev (.tmp 132) = .bool false := hd 9 (by decide)
                          refine ifw (by show (yv (ev (.tmp 132)) == some false) = true; rw [vg]; rfl) (ifw rfl ?_)
                          clear vg
                          have v135 : ev (.tmp 135) = .bool true := hd 12 (by decide)
                          have v146 : ev (.tmp 146) = .bool false := hd 23 (by decide)
                          refine ⟨.bool false, fun w => ?_, rfl⟩
                          have e1 := hE.const; have e2 := hE.func; clear hE hd hw
                          go_simp
                        · intro ev wv hE hw hd
                          refine ifw rfl (ifw rfl ?_)
                          have v132 : ev (.tmp 132) = .bool false := hd 9 (by decide)
                          have v147 : ev (.tmp 147) = .bool false := hd 24 (by decide)
                          refine ⟨.bool false, fun w => ?_, rfl⟩
                          have e1 := hE.const; have e2 := hE.func; clear hE hd hw
                          go_simp
                        · intro wz hw
                          intro v0 h0 _ v1 h1 _ v2 h2 _ v3 h3 _ v4 h4 _ v5 h5 _ v6 h6 _ v7 h7 _ v8 h8 _ v9 h9 _ v10 h10 _ v11 h11 _ v12 h12 _ v13 h13 _ v14 h14 _ v15 h15 _ v16 h16 _ v17 h17 _ v18 h18 _ v19 h19 _ v20 h20 _ v21 h21 _ v22 h22 _ v23 h23 _ v24 h24 _ v25 h25 _
                          simp only [Act.put, List.setIfInBounds_toArray, List.set_cons_zero, List.set_cons_succ, List.drop_succ_cons, List.drop_zero]
                          obtain rfl : v0 = _ := h0
                          obtain rfl : v1 = _ := h1
                          obtain rfl : v2 = _ := h2
                          obtain rfl : v3 = _ := h3
                          obtain rfl : v4 = _ := h4
                          obtain rfl : v5 = _ := h5
                          obtain rfl : v6 = _ := h6
                          obtain rfl : v7 = _ := h7
                          obtain rfl : v8 = _ := h8
                          obtain rfl : v9 = _ := h9
                          obtain rfl : v10 = _ := h10
                          obtain rfl : v11 = _ := h11
                          obtain rfl : v12 = _ := h12
                          obtain rfl : v13 = _ := h13
                          obtain rfl : v14 = _ := h14
                          obtain rfl : v15 = _ := h15
                          obtain rfl : v16 = _ := h16
                          obtain rfl : v17 = _ := h17
                          obtain rfl : v18 = _ := h18
                          obtain rfl : v19 = _ := h19
                          obtain rfl : v20 = _ := h20
                          obtain rfl : v21 = _ := h21
                          obtain rfl : v22 = _ := h22
                          obtain rfl : v23 = _ := h23
                          obtain rfl : v24 = _ := h24
                          obtain rfl : v25 = _ := h25
                          change wpList Try.prog _ _ _ _ wz
                          have HB8 := Lib.hid (HB7.out.trans (Below.mono hw HB7.out.size))
                          clear hw c0 c1 c2 e0 e1 e2 z0 z1 z2
                          go_wp2_with fail
                          refine calm_normal ?_
                          go_wp2_with fail
                          go_roundw
                          case rel => exact ⟨i6 + 1, by go_num, by omega, HB8.out⟩
                          case measure => simp [intOf]; omega
                    · have HBF := Lib.hid (HB6.out.trans (HB7.out.mono HB6.out.size))
                      go_wp2_with fail
                      refine (avknown_any HK.out _).mono ?_
                      rintro e w9 ⟨rfl, hb⟩
                      have HB9 := Lib.hid (HBF.out.trans (hb.mono HBF.out.size))
                      clear hb
                      go_wp2_with fail
                      go_ret
                      exact ⟨rfl, HB9.out⟩
theorem avorder_any {Rep : RepT} (K : AvlK Rep) (A B : Option Addr) (N c Q d : Nat) (l m : ItL) (w : World) (Rl : Itm w A N c l) (Rm : Itm w B Q d m) : Calls Try.prog 4 #[.slice A N c, .slice B Q d] w fun e w' => e = .returned (.bool true) ∧ Below w.heap.size w w' := by
  by_cases hN : N ≤ 100
  · by_cases hQ : Q ≤ 100
    · exact avorder_main K A B N c Q d l m w Rl Rm hN hQ
    · exact avorder_two K A B N c Q d l m w Rl Rm hN hQ
  · exact avorder_one K A B N c Q d l m w Rl Rm hN
end Go.Proofs.Ytmllikffflebmaa
