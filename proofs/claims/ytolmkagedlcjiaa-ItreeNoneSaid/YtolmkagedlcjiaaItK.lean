/- What the laws of package itree ask of it and of avl; the law's own helper made; known. -/
import Derived.Test.YtolmkagedlcjiaaAvKnown
import Derived.Test.YtolmkagedlcjiaaIt2
import Derived.Test.YtolmkagedlcjiaaItMath
namespace Corr
set_option maxRecDepth 8000
open Go
/-- Items that are put one by one. -/
def insAll (l : ItL) : ItL := l.foldl (fun o x => insL 1000 x o) []
theorem insAll_more {l : ItL} {k : Nat} {x : It} (h : l[k]? = some x) : insAll (l.take (k + 1)) = insL 1000 x (insAll (l.take k)) := by
  unfold insAll
  rw [List.take_add_one, h, List.foldl_append]; rfl
theorem insAll_len (l : ItL) : ∀ k, (insAll (l.take k)).length ≤ k
  | 0 => by simp [insAll]
  | k + 1 => by
    cases h : l[k]? with
    | none =>
      rw [List.getElem?_eq_none_iff] at h
      have := insAll_len l k
      rw [List.take_of_length_le h] at this
      rw [List.take_of_length_le (by omega)]; omega
    | some x =>
      rw [insAll_more h]
      have h1 := insAll_len l k
      have h2 := insL_len 1000 x (insAll (l.take k))
      omega
/-- Items whose days are numbers of the machine's. -/
def okR (l : ItL) : Prop := ∀ y ∈ l, lowI ≤ y.1
theorem ok_three : okL [(1, 5, 0), (3, 4, 0), (6, 9, 0)] := by
  intro y hy
  rcases List.mem_cons.1 hy with rfl | hy
  · exact ⟨by decide, by decide⟩
  rcases List.mem_cons.1 hy with rfl | hy
  · exact ⟨by decide, by decide⟩
  rcases List.mem_cons.1 hy with rfl | hy
  · exact ⟨by decide, by decide⟩
  · cases hy
end Corr
namespace Go.Proofs.Ytolmkagedlcjiaa
set_option maxRecDepth 8000
open Go.RowKit Corr
set_option linter.unusedVariables false
set_option linter.unusedSimpArgs false
/-- What package itree does. -/
structure ItK (Rep : RepT) : Prop extends AvlK0 Rep where
  first : ∀ (w : World) (p : Value) (F : Nat → Prop) (M : Int) (l : ItL) (day : Int), Rep w p F M l → l.length ≤ 1000 → Calls Try.prog 9 #[p, .int .i64 day] w fun e w' => e = .returned (oneI (l.find? (fun y => decide (y.1 ≥ day)))) ∧ Below w.heap.size w w'
  last : ∀ (w : World) (p : Value) (F : Nat → Prop) (M : Int) (l : ItL) (day : Int), Rep w p F M l → l.length ≤ 1000 → Calls Try.prog 10 #[p, .int .i64 day] w fun e w' => e = .returned (oneI (l.reverse.find? (fun y => decide (y.1 ≤ day)))) ∧ Below w.heap.size w w'
  stab : ∀ (w : World) (p : Value) (F : Nat → Prop) (M : Int) (l : ItL) (day : Int), Rep w p F M l → l.length ≤ 1000 → okL l → Calls Try.prog 14 #[p, .int .i64 day] w (RetItm 30 w (l.filter (stabB day)))
  over : ∀ (w : World) (p : Value) (F : Nat → Prop) (M : Int) (l : ItL) (a b : Int), Rep w p F M l → l.length ≤ 1000 → okL l → Calls Try.prog 16 #[p, .agg #[.int .i64 a, .int .i64 b]] w (RetItm 30 w (l.filter (overB a b)))
theorem lmade_any {Rep : RepT} (K : AvlK0 Rep) (A : Option Addr) (n c : Nat) (l : ItL) (w : World) (Rl : Itm w A n c l) (hn : n ≤ 500) : Calls Try.prog 8 #[.slice A n c] w fun e w' => ∃ q : Addr, e = .returned (.pointer (some q)) ∧ Solo Rep w (.pointer (some q)) 1000 (insAll l) [] w' := by
  have HK := Lib.hid K
  have HR := Lib.hid Rl
  have HL := Lib.hid (Itm.count Rl)
  clear K Rl
  go_enter Try.func8, Try.ntmps8
  go_wp2_with fail
  refine (solo_make HK.out (Below.refl w.heap.size w) 1000 (by decide) (by decide)).mono ?_
  rintro e w1 ⟨q, rfl, s1⟩
  have HS := Lib.hid s1
  clear s1
  go_wp2_with fail
  go_loopw [13] (fun u wr => ∃ k : Nat, u = .int .i64 (k : Int) ∧ k ≤ n ∧ Solo Rep w (.pointer (some q)) 1000 (insAll (l.take k)) [] wr) (fun u _ => (n - intOf u).toNat)
  case atStart => exact ⟨0, rfl, by omega, by simpa [insAll] using HS.out⟩
  case round =>
    obtain ⟨k, rfl, hk, hs⟩ := hrel
    have HSK := Lib.hid hs
    clear hs HS
    by_cases hlt : k < n
    · obtain ⟨ga, off, s, rfl, hs, hga, c0, c1, c2⟩ := Itm.get (HR.out.keep HSK.out.bl) hlt
      obtain ⟨x1, x2, x3⟩ := s
      have HX := Lib.hid hs
      have HP := Lib.hid (HSK.out.push HK.out.toRepOk #[.int .i64 x1, .int .i64 x2, .int .i64 x3] 30)
      have B9 := Blk.new wr #[.int .i64 x1, .int .i64 x2, .int .i64 x3] 30
      have y0 := B9.get 0 rfl; have y1 := B9.get 1 rfl; have y2 := B9.get 2 rfl
      clear hs B9
      go_wp2_with fail
      refine (solo_ins HK.out HP.out (by have := insAll_len l k; omega) (x1, x2, x3) rfl (insAll_more HX.out).symm).mono ?_
      rintro e w5 ⟨rfl, hd5⟩
      have HD5 := Lib.hid (hd5.less (os' := []) (fun _ h => by cases h))
      clear hd5
      go_wp2_with fail
      go_roundw
      case rel => exact ⟨k + 1, by go_num, by omega, HD5.out⟩
      case measure => simp [intOf]; omega
    · have HF := Lib.hid (show insAll (l.take k) = insAll l by rw [List.take_of_length_le]; rw [HL.out]; omega)
      go_wp2_with fail
      go_ret
      exact ⟨q, rfl, by rw [← HF.out]; exact HSK.out⟩
theorem solo_first {Rep : RepT} (K : ItK Rep) {w0 w : World} {p : Value} {M : Int} {l : ItL} {os : List (Nat × Array Value)} (h : Solo Rep w0 p M l os w) (hl : l.length ≤ 1000) (day : Int) {o : Option It} (ho : l.find? (fun y => decide (y.1 ≥ day)) = o) : Calls Try.prog 9 #[p, .int .i64 day] w fun e w' => e = .returned (oneI o) ∧ Below w.heap.size w w' := by
  obtain ⟨F, h1, _⟩ := h
  rw [← ho]; exact K.first w p F M l day h1 hl
theorem solo_last {Rep : RepT} (K : ItK Rep) {w0 w : World} {p : Value} {M : Int} {l : ItL} {os : List (Nat × Array Value)} (h : Solo Rep w0 p M l os w) (hl : l.length ≤ 1000) (day : Int) {o : Option It} (ho : l.reverse.find? (fun y => decide (y.1 ≤ day)) = o) : Calls Try.prog 10 #[p, .int .i64 day] w fun e w' => e = .returned (oneI o) ∧ Below w.heap.size w w' := by
  obtain ⟨F, h1, _⟩ := h
  rw [← ho]; exact K.last w p F M l day h1 hl
theorem solo_stab {Rep : RepT} (K : ItK Rep) {w0 w : World} {p : Value} {M : Int} {l : ItL} {os : List (Nat × Array Value)} (h : Solo Rep w0 p M l os w) (hl : l.length ≤ 1000) (ho : okL l) (day : Int) {k : ItL} (hk : l.filter (stabB day) = k) : Calls Try.prog 14 #[p, .int .i64 day] w (RetItm 30 w k) := by
  obtain ⟨F, h1, _⟩ := h
  rw [← hk]; exact K.stab w p F M l day h1 hl ho
theorem solo_over {Rep : RepT} (K : ItK Rep) {w0 w : World} {p : Value} {M : Int} {l : ItL} {os : List (Nat × Array Value)} (h : Solo Rep w0 p M l os w) (hl : l.length ≤ 1000) (ho : okL l) (a b : Int) {k : ItL} (hk : l.filter (overB a b) = k) : Calls Try.prog 16 #[p, .agg #[.int .i64 a, .int .i64 b]] w (RetItm 30 w k) := by
  obtain ⟨F, h1, _⟩ := h
  rw [← hk]; exact K.over w p F M l a b h1 hl ho
theorem new_itm (w : World) (l : ItL) (T : TypeId) (n c : Nat) (hn : l.length = n) (hc : n ≤ c) : Itm (w.alloc (.cells (cells3 l).toArray T)) (some ⟨w.heap.size, 0, none⟩) n c l :=
  ⟨by rw [cells3_len, hn], hc, fun _ => ⟨w.heap.size, 0, rfl, by simp, fun i v hx => by
    have := new_cells w (cells3 l) T i v hx
    rwa [show (⟨w.heap.size, 0, none⟩ : Addr).add i = ⟨w.heap.size, 0 + i, none⟩ by unfold Addr.add; simp; intro h; omega] at this⟩⟩
set_option maxHeartbeats 4000000 in
theorem itknown_any {Rep : RepT} (K : ItK Rep) (w : World) : Calls Try.prog 6 #[] w fun e w' => e = .returned (.bool true) ∧ Below w.heap.size w w' := by
  have HK := Lib.hid K
  have hi := new_itm w [(1, 5, 0), (3, 4, 0), (6, 9, 0)] 30 3 3 rfl (Nat.le_refl _)
  have HI := Lib.hid hi
  have hb0 := (Below.refl w.heap.size w).alloc (Nat.le_refl _) (.cells (cells3 [(1, 5, 0), (3, 4, 0), (6, 9, 0)]).toArray 30)
  have HB0 := Lib.hid hb0
  clear K hi hb0
  go_enter Try.func6, Try.ntmps6
  go_wp2_with fail
  refine (lmade_any HK.out.toAvlK0 _ _ _ _ _ HI.out (by decide)).mono ?_
  rintro e w1 ⟨q, rfl, s1⟩
  rw [show insAll [(1, 5, 0), (3, 4, 0), (6, 9, 0)] = [(1, 5, 0), (3, 4, 0), (6, 9, 0)] by decide] at s1
  have S1 := Lib.hid s1
  clear s1
  go_wp2_with fail
  refine (solo_first HK.out S1.out (by decide) 2 (o := some (3, 4, 0)) (by decide)).mono ?_
  rintro e w2 ⟨rfl, b2⟩
  have S2 := Lib.hid ((S1.out.keep HK.out.toRepOk b2).push HK.out.toRepOk #[.int .i64 3, .int .i64 4, .int .i64 0] 30)
  clear b2 S1
  unfold oneI
  go_wp2_with fail
  refine (solo_last HK.out S2.out (by decide) 2 (o := some (1, 5, 0)) (by decide)).mono ?_
  rintro e w3 ⟨rfl, b3⟩
  have S3 := Lib.hid ((S2.out.keep HK.out.toRepOk b3).push HK.out.toRepOk #[.int .i64 1, .int .i64 5, .int .i64 0] 30)
  clear b3 S2
  unfold oneI
  go_wp2_with fail
  refine (solo_stab HK.out S3.out (by decide) ok_three 3 (k := [(1, 5, 0), (3, 4, 0)]) (by decide)).mono ?_
  rintro e w4 ⟨A4, n4, c4, rfl, o4, b4⟩
  have hn4 : n4 = 2 := by have := Itm.count (own_lies o4); simpa using this.symm
  subst hn4
  have S4 := Lib.hid (S3.out.keep HK.out.toRepOk b4)
  clear o4 b4 S3
  go_wp2_with fail
  refine (solo_over HK.out S4.out (by decide) ok_three 4 7 (k := [(1, 5, 0), (6, 9, 0)]) (by decide)).mono ?_
  rintro e w5 ⟨A5, n5, c5, rfl, o5, b5⟩
  have hn5 : n5 = 2 := by have := Itm.count (own_lies o5); simpa using this.symm
  subst hn5
  have S5 := Lib.hid (S4.out.keep HK.out.toRepOk b5)
  have x0 := (S5.out.b 0 rfl).get 0 rfl
  have x1 := (S5.out.b 1 rfl).get 0 rfl
  have HB := Lib.hid (HB0.out.trans (S5.out.bl.mono HB0.out.size))
  clear o5 b5 S4 S5
  go_wp2_with fail
  go_ret
  exact ⟨rfl, HB.out⟩
end Go.Proofs.Ytolmkagedlcjiaa
