/- The law ItreeAll. -/
import Derived.Test.YtolmkagedlcjiaaItK
import Derived.Test.YtolmkagedlcjiaaItList
import Derived.Test.YtolmkagedlcjiaaRowRel
import Derived.Test.YtolmkagedlcjiaaAv5
import Derived.Lib.AtoiErrMem
namespace Corr
open Go Go.RowKit
set_option linter.unusedVariables false
/-- The tree that is gone over: it, what All captured, and the marks of the loops so far, each in blocks of its own. -/
def StA (Rep : RepT) (w3 w4 : World) (lo : Nat) (p : Value) (l : ItL) (Ds : List Nat) (w : World) : Prop := ∃ F, Rep w p F 1000 l ∧ (∀ k, F k → w3.heap.size ≤ k) ∧ Below w3.heap.size w3 w ∧
  (∀ k, lo ≤ k → k < w4.heap.size → w.heap[k]? = w4.heap[k]? ∧ ¬ F k) ∧ w4.heap.size ≤ w.heap.size ∧ Marks w3.heap.size Ds w ∧ ∀ D ∈ Ds, ¬ F D
section
variable {Rep : RepT} {w3 w4 w w' : World} {lo : Nat} {p : Value} {l : ItL} {Ds : List Nat}
theorem StA.bl (h : StA Rep w3 w4 lo p l Ds w) : Below w3.heap.size w3 w := by obtain ⟨_, _, _, h, _⟩ := h; exact h
theorem StA.marks (h : StA Rep w3 w4 lo p l Ds w) : Marks w3.heap.size Ds w := by obtain ⟨_, _, _, _, _, _, h, _⟩ := h; exact h
theorem StA.keep (R : RepOk Rep) (h : StA Rep w3 w4 lo p l Ds w) (hb : Below w.heap.size w w') : StA Rep w3 w4 lo p l Ds w' := by
  obtain ⟨F, h1, h2, h3, h4, h5, h6, h7⟩ := h
  exact ⟨F, R.keep h1 (Off.of (F := fun _ => False) hb) (fun _ _ e => e), h2, h3.trans (hb.mono h3.size), fun k hk hk' => ⟨(hb.block k (Nat.lt_of_lt_of_le hk' h5)).trans (h4 k hk hk').1, (h4 k hk hk').2⟩, Nat.le_trans h5 hb.size, h6.later hb, h7⟩
/-- Behind a loop that changed nothing that was there, and left a mark. -/
theorem StA.loop (R : RepOk Rep) (h : StA Rep w3 w4 lo p l Ds w) (hb : Below w.heap.size w w') {D : Nat} (hD : w.heap.size ≤ D) (hd : w'.heap[D]? = some (.deferred (some []))) : StA Rep w3 w4 lo p l (D :: Ds) w' := by
  have hm := h.marks
  have hk := h.keep R hb
  obtain ⟨F, h1, h2, h3, h4, h5, h6, h7⟩ := h
  have hF : ∀ k, F k → k < w.heap.size := R.lt h1
  refine ⟨F, R.keep h1 (Off.of (F := fun _ => False) hb) (fun _ _ e => e), h2, h3.trans (hb.mono h3.size), fun k hk hk' => ⟨(hb.block k (Nat.lt_of_lt_of_le hk' h5)).trans (h4 k hk hk').1, (h4 k hk hk').2⟩, Nat.le_trans h5 hb.size,
    (h6.later hb).cons (Nat.le_trans h3.size hD) hd fun e => ?_, fun E hE => ?_⟩
  · have := hm.lt e; omega
  · rcases List.mem_cons.1 hE with rfl | hE
    · intro e; have := hF _ e; omega
    · exact h7 E hE
/-- The tree changes. -/
theorem StA.turn {F F' : Nat → Prop} {l' : ItL} (h2 : ∀ k, F k → w3.heap.size ≤ k) (h3 : Below w3.heap.size w3 w) (h4 : ∀ k, lo ≤ k → k < w4.heap.size → w.heap[k]? = w4.heap[k]? ∧ ¬ F k) (h5 : w4.heap.size ≤ w.heap.size) (h6 : Marks w3.heap.size Ds w) (h7 : ∀ D ∈ Ds, ¬ F D)
    (hr : Rep w' p F' 1000 l') (ho : Off F w w') (hF : ∀ k, F' k → F k ∨ w.heap.size ≤ k) : StA Rep w3 w4 lo p l' Ds w' := by
  have new : ∀ k, k < w.heap.size → ¬ F k → ¬ F' k := fun k hk hn e => by
    rcases hF k e with h | h
    · exact hn h
    · omega
  refine ⟨F', hr, fun k hk => ?_, h3.trans (ho.below h3.size h2), fun k hk hk' => ⟨(ho.block k (Nat.lt_of_lt_of_le hk' h5) (h4 k hk hk').2).trans (h4 k hk hk').1, new k (Nat.lt_of_lt_of_le hk' h5) (h4 k hk hk').2⟩, Nat.le_trans h5 ho.size, h6.keep fun D hD => ho.block D (h6.lt hD) (h7 D hD), fun D hD => new D (h6.lt hD) (h7 D hD)⟩
  rcases hF k hk with h | h
  · exact h2 k h
  · exact Nat.le_trans h3.size h
end
/-- What is put into the tree again and again. -/
def againL (x : It) (l : ItL) : Nat → ItL
  | 0 => l
  | k + 1 => insL 1000 x (againL x l k)
theorem ok_again {x : It} {l : ItL} (h : okL l) (hx : lowI ≤ x.1) : ∀ k, okL (againL x l k)
  | 0 => h
  | k + 1 => ok_ins (ok_again h hx k) hx
theorem againL_len (x : It) (l : ItL) : ∀ k, (againL x l k).length ≤ l.length + k
  | 0 => Nat.le_refl _
  | k + 1 => by
    have h1 := againL_len x l k
    have h2 := insL_len 1000 x (againL x l k)
    show (insL 1000 x (againL x l k)).length ≤ _
    omega
end Corr
namespace Go.Proofs.Ytolmkagedlcjiaa
open Go.RowKit Corr
set_option linter.unusedVariables false
set_option linter.unusedSimpArgs false
attribute [local go_sem] Oper.semAt_some
/-- What package itree does, All too: what it tells goes, in whatever later world, over what meets the span there. -/
structure ItA (Rep : RepT) : Prop extends ItK Rep where
  all : ∀ (w : World) (p : Value) (F : Nat → Prop) (M : Int) (l : ItL) (a b : Int), Rep w p F M l → l.length ≤ 1000 → Calls Try.prog 18 #[p, .agg #[.int .i64 a, .int .i64 b]] w fun e w' => ∃ (gf : Nat) (lb : Array Value),
    e = .returned (.func (.func gf) #[] lb) ∧ Below w.heap.size w w' ∧ (∀ args w, (callFunc gf args).run Try.prog w = .ok (.enter gf args) w) ∧
    ∀ (w1 : World) (F1 : Nat → Prop) (M1 : Int) (l1 : ItL) (n₀ : Nat), Rep w1 p F1 M1 l1 → l1.length ≤ 1000 → okL l1 → (∀ k, w.heap.size ≤ k → k < w'.heap.size → w1.heap[k]? = w'.heap[k]?) → (∀ k, F1 k → k < n₀) → w'.heap.size ≤ n₀ → n₀ ≤ w1.heap.size →
      SeqOwn Try.prog gf lb (fun x : It => #[itV x]) n₀ (fun ys => ys = l1.filter (overB a b)) (fun pre => pre <+: l1.filter (overB a b)) (l1.filter (overB a b)).length w1
set_option maxRecDepth 100000 in
theorem seq_not_nil (gf : Nat) (lb : Array Value) (w : World) : (binOp BinOp.eql 45 (.func (.func gf) #[] lb) .nilFunc).run Try.prog w = .ok (.bool false) w := by
  first
  | rfl
  | kernel_rfl
theorem itsame2 {A B : Option Addr} {n c m d : Nat} {l : ItL} {w : World} (R : Itm w A n c l) (S : Itm w B m d l) (hl : l.length ≤ 100000) : Calls Try.prog 13 #[.slice A n c, .slice B m d] w fun e w' => e = .returned (.bool true) ∧ Below w.heap.size w w' := by
  have := isame_any A B n c m d l l w R S (by rw [← R.count]; omega) (by rw [← S.count]; omega)
  rwa [decide_eq_true rfl] at this
set_option maxHeartbeats 4000000 in
theorem itall_main {Rep : RepT} (K : ItA Rep) (A : Option Addr) (N c : Nat) (l : ItL) (a b most m1 m2 m3 : Int) (w : World) (Rl : Itm w A N c l) (hRl : okR l) (hm1 : lowI ≤ m1) (hN : N ≤ 150) :
    Calls Try.prog 4 #[.slice A N c, .agg #[.int .i64 a, .int .i64 b], .int .i64 most, .agg #[.int .i64 m1, .int .i64 m2, .int .i64 m3]] w fun e w' => e = .returned (.bool true) ∧ Below w.heap.size w w' := by
  have d0 : decide ((N : Int) > 150) = false := decide_eq_false (by omega)
  have HK := Lib.hid K
  have HRL := Lib.hid (ok_insAll hRl)
  have HM1 := Lib.hid hm1
  clear hRl hm1
  have HR := Lib.hid Rl
  obtain ⟨w3, hw3⟩ : ∃ w3, ((w.alloc (.cells #[.int .i64 a, .int .i64 b] 24)).alloc (.cells #[.int .i64 most] 3)).alloc (.cells #[.int .i64 m1, .int .i64 m2, .int .i64 m3] 30) = w3 := ⟨_, rfl⟩
  have hb1 := (Below.refl w.heap.size w).alloc (Nat.le_refl _) (.cells #[.int .i64 a, .int .i64 b] 24)
  have HX0 := Lib.hid (show Blk w3 w.heap.size #[.int .i64 a, .int .i64 b] by rw [← hw3]; exact ((Blk.new w _ _).alloc _).alloc _)
  have HX1 := Lib.hid (show Blk w3 (w.heap.size + 1) #[.int .i64 most] by
    rw [← hw3]
    have := (Blk.new (w.alloc (.cells #[.int .i64 a, .int .i64 b] 24)) #[.int .i64 most] 3).alloc (.cells #[.int .i64 m1, .int .i64 m2, .int .i64 m3] 30)
    simpa using this)
  have HX2 := Lib.hid (show Blk w3 (w.heap.size + 1 + 1) #[.int .i64 m1, .int .i64 m2, .int .i64 m3] by
    rw [← hw3]
    have := Blk.new ((w.alloc (.cells #[.int .i64 a, .int .i64 b] 24)).alloc (.cells #[.int .i64 most] 3)) #[.int .i64 m1, .int .i64 m2, .int .i64 m3] 30
    simpa using this)
  have HB3 := Lib.hid (show Below w.heap.size w w3 by
    rw [← hw3]
    exact (((Below.refl w.heap.size w).alloc (Nat.le_refl _) _).alloc (by simp) _).alloc (by simp; omega) _)
  clear K Rl hb1
  refine calls_of_wp_marks Try.func4 rfl ?_
  simp only [Try.ntmps4, List.size_toArray, List.length_cons, List.length_nil, Nat.reduceAdd, Nat.reduceSub, Array.replicate_succ, Array.replicate_zero, List.push_toArray, List.append_toArray, List.nil_append, List.cons_append]
  go_wp2_with fail
  refine (lmade_any HK.out.toAvlK0 A N c l _ (HR.out.keep HB3.out) (by omega)).mono ?_
  rintro e w5 ⟨q, rfl, s5⟩
  have HLL := Lib.hid (show (insAll l).length ≤ 150 by have := insAll_length l; have := Itm.count HR.out; omega)
  have HOK := Lib.hid (fun k => ok_again (x := (m1, m2, m3)) HRL.out HM1.out k)
  clear HRL HM1
  generalize insAll l = L at *
  have S5 := Lib.hid s5
  have x0 := (HX0.out.keep s5.bl).get 0 rfl
  have x1 := (HX0.out.keep s5.bl).get 1 rfl
  clear s5
  have HA0 := Lib.hid (show Calls Try.prog 18 #[.pointer (some q), .agg #[.int .i64 a, .int .i64 b]] w5 _ from by
    obtain ⟨F, h1, h2, h3, h4⟩ := S5.out
    exact HK.out.all w5 _ F 1000 L a b h1 (by have := HLL.out; omega))
  go_wp2_with fail
  refine HA0.out.mono ?_
  rintro e w6 ⟨gf, lb, rfl, b6, enters, hall⟩
  have hnn := seq_not_nil gf lb
  have hst0 : StA Rep w3 w6 w5.heap.size (.pointer (some q)) (againL (m1, m2, m3) L 0) [] w6 := by
    obtain ⟨F, h1, h2, h3, h4⟩ := S5.out
    exact ⟨F, HK.out.keep h1 (Off.of (F := fun _ => False) b6) (fun _ _ e => e), h2, h3.trans (b6.mono h3.size), fun k hk _ => ⟨rfl, fun e => by have := HK.out.lt h1 k e; omega⟩, Nat.le_refl _, Marks.nil _ _, fun _ h => absurd h List.not_mem_nil⟩
  go_wp2_with fail
  refine wp_loop (fun a' w' => ∃ (k : Nat) (Ds : List Nat) (v11 v12 v13 v28 v29 v30 v31 v32 v33 v34 v35 v36 v37 v38 v39 v40 v41 v42 v43 v44 v45 v46 v47 v48 v49 v50 v51 v52 v53 v54 v55 : Value), a' = { tmps := #[.slice A N c, .agg #[.int .i64 a, .int .i64 b], .int .i64 most, .agg #[.int .i64 m1, .int .i64 m2, .int .i64 m3], undef, .pointer (some ⟨w.heap.size, 0, none⟩), .pointer (some ⟨w.heap.size + 1, 0, none⟩), .pointer (some ⟨w.heap.size + 1 + 1, 0, none⟩), .bool false, .pointer (some q), .func (.func gf) #[] lb, v11, v12, v13, .slice A N c, .int .i64 (N : Int), .bool false, undef, .slice A N c, .pointer (some q), .pointer (some q), .bool false, .pointer (some q), .agg #[.int .i64 a, .int .i64 b], .func (.func gf) #[] lb, .func (.func gf) #[] lb, .bool false, .int .i64 (k : Int), v28, v29, v30, v31, v32, v33, v34, v35, v36, v37, v38, v39, v40, v41, v42, v43, v44, v45, v46, v47, v48, v49, v50, v51, v52, v53, v54, v55, undef], defers := Ds.map markD } ∧ k ≤ 2 ∧ StA Rep w3 w6 w5.heap.size (.pointer (some q)) (againL (m1, m2, m3) L k) Ds w') (fun a' _ => 2 - (intOf (a'.tmps.getD 27 undef)).toNat) ?atStart ?round
  case atStart => exact ⟨0, [], _, _, _, _, _, _, _, _, _, _, _, _, _, _, _, _, _, _, _, _, _, _, _, _, _, _, _, _, _, _, _, rfl, by omega, hst0⟩
  case round =>
    rintro a' wr ⟨k, Ds, v11, v12, v13, v28, v29, v30, v31, v32, v33, v34, v35, v36, v37, v38, v39, v40, v41, v42, v43, v44, v45, v46, v47, v48, v49, v50, v51, v52, v53, v54, v55, rfl, hk, hst⟩
    have HST := Lib.hid hst
    have HLE := Lib.hid (show (againL (m1, m2, m3) L k).length ≤ 152 by have := againL_len (m1, m2, m3) L k; have := HLL.out; omega)
    have x0 := (HX0.out.keep hst.bl).get 0 rfl
    have x1 := (HX0.out.keep hst.bl).get 1 rfl
    clear hst
    by_cases hlt : k < 2
    · have HO := Lib.hid (show Calls Try.prog 16 #[.pointer (some q), .agg #[.int .i64 a, .int .i64 b]] wr _ from by
        obtain ⟨F, h1, _⟩ := HST.out
        exact HK.out.over wr _ F 1000 _ a b h1 (by have := HLE.out; omega) (HOK.out k))
      go_wp2_with fail
      refine HO.out.mono ?_
      rintro e w7 ⟨A7, n7, c7, rfl, o7, b7⟩
      have HST7 := Lib.hid (HST.out.keep HK.out.toRepOk b7)
      have HO7 := Lib.hid o7
      clear o7
      go_wp2_with fail
      obtain ⟨L7, hL7⟩ : ∃ L7, (againL (m1, m2, m3) L k).filter (overB a b) = L7 := ⟨_, rfl⟩
      obtain ⟨G, hG⟩ : ∃ G, w7.heap.size = G := ⟨_, rfl⟩
      have hseq : SeqOwn Try.prog gf lb (fun x : It => #[itV x]) G (fun ys => ys = L7) (fun pre => pre <+: L7) L7.length (w7.alloc (.cells #[.slice none 0 0] 22)) := by
        obtain ⟨F, q1, q2, q3, q4, q5, q6, q7⟩ := HST7.out
        have ba := (Below.refl w7.heap.size w7).alloc (Nat.le_refl _) (.cells #[.slice none 0 0] 22)
        have := hall _ F 1000 _ G (HK.out.keep q1 (Off.of (F := fun _ => False) ba) (fun _ _ e => e)) (by have := HLE.out; omega) (HOK.out k) (fun k hk hk' => (ba.block k (Nat.lt_of_lt_of_le hk' q5)).trans (q4 k hk hk').1) (fun k hk => by rw [← hG]; exact HK.out.lt q1 k hk) (by rw [← hG]; exact q5) (by simp; omega)
        rw [hL7] at this
        exact this
      have hs9 : (w7.alloc (.cells #[.slice none 0 0] 22)).heap.size = G + 1 := by simp [hG]
      refine wp_range_mid (fun D W => G ≤ D ∧ W.heap[D]? = some (.deferred (some [])) ∧ Below G w7 W ∧ ∃ (m : Nat) (v : Value), Boxed W G 22 v ∧ W.ownsRow G 30 3 v m (cells3 (L7.take m)) ∧ ((m : Int) = max 0 (min most (L7.length : Int)))) ?loop ?rest
      case loop =>
        refine wp_rangeFunc_seq (gf := gf) (lb := lb) rfl enters (by rw [hs9]; omega) hseq (fun _ => rfl)
          (fun P pre W => ((pre.length : Int) ≤ max 0 most) ∧ OwnI 22 30 3 G P pre.length (cells3 pre) W ∧ SideI w7 G P W)
          (fun c pre W => (c = .exit 2 ∧ most ≤ (pre.dropLast.length : Int) ∧ (pre.dropLast.length : Int) ≤ max 0 most) ∧ OwnI 22 30 3 G (fun _ => False) pre.dropLast.length (cells3 pre.dropLast) W ∧ SideI w7 G (fun _ => False) W)
          (fun P pre W W' h ho => ⟨h.1, h.2.1.grow (fun k hk => (h.2.2.2 k hk).1) ho, h.2.2.grow h.2.1.lt ho⟩)
          (fun P s W l o o' h h1 h2 h3 h4 => ⟨h.1, ownI_obj _ (fun (pre : ItL) => pre.length) (fun pre => cells3 pre) s W l o o' h.2.1 h1 h2 h3 h4, sideI_obj (β := ItL) _ (by rw [hs9]; omega) s W l o o' h.2.2 h1 h2 h3 h4⟩)
          (fun c s W l o o' h h1 h2 h3 h4 => ⟨h.1, ownI_obj _ (fun (pre : ItL) => pre.dropLast.length) (fun pre => cells3 pre.dropLast) s W l o o' h.2.1 h1 h2 h3 h4, sideI_obj (β := ItL) _ (by rw [hs9]; omega) s W l o o' h.2.2 h1 h2 h3 h4⟩)
          ?start (fun x a' W => ∃ Bx : Nat, G < Bx ∧ Blk W Bx #[.int .i64 x.1, .int .i64 x.2.1, .int .i64 x.2.2] ∧ a' = { tmps := #[.slice A N c, .agg #[.int .i64 a, .int .i64 b], .int .i64 most, .agg #[.int .i64 m1, .int .i64 m2, .int .i64 m3], undef, .pointer (some ⟨w.heap.size, 0, none⟩), .pointer (some ⟨w.heap.size + 1, 0, none⟩), .pointer (some ⟨w.heap.size + 1 + 1, 0, none⟩), .bool false, .pointer (some q), .func (.func gf) #[] lb, .slice A7 n7 c7, .pointer (some ⟨G, 0, none⟩), .pointer (some ⟨Bx, 0, none⟩), .slice A N c, .int .i64 (N : Int), .bool false, undef, .slice A N c, .pointer (some q), .pointer (some q), .bool false, .pointer (some q), .agg #[.int .i64 a, .int .i64 b], .func (.func gf) #[] lb, .func (.func gf) #[] lb, .bool false, .int .i64 (k : Int), .bool true, .pointer (some q), .agg #[.int .i64 a, .int .i64 b], .slice A7 n7 c7, .func (.func gf) #[] lb, itV x, v34, v35, v36, v37, v38, v39, v40, v41, v42, v43, v44, v45, v46, v47, v48, v49, v50, v51, v52, v53, v54, v55, undef], defers := [] }) ?ax ?assign ?body ?done ?stop
        case start =>
          intro W hb
          rw [hs9] at hb
          have h0 : Boxed (w7.alloc (.cells #[.slice none 0 0] 22)) G 22 (.slice none 0 0) := by rw [← hG]; exact Boxed.new w7 _ _
          have h1 : Below G w7 (w7.alloc (.cells #[.slice none 0 0] 22)) := by rw [← hG]; exact (Below.refl _ w7).alloc (Nat.le_refl _) _
          exact ⟨by simp; omega, ⟨_, (hb.block G (by omega)).trans h0, World.ownsRow_nil _ _ _ _, fun k hk => by cases hk⟩, h1.trans (hb.mono (by omega)), fun k hk => hk.elim⟩
        case ax =>
          rintro y a' _ W l o o' ⟨Bx, h1, ⟨T, h2⟩, h3⟩ _ _ ho hc
          refine ⟨Bx, h1, ⟨T, (World.putObj_heap_other fun e => ?_).trans h2⟩, h3⟩
          subst e
          rw [h2] at ho; cases ho; cases hc
        case assign =>
          intro l' P pre y W K hsz hi hK
          obtain ⟨y1, y2, y3⟩ := y
          gi_wp2
          obtain ⟨hi1, ho1, hb1, hs1⟩ := hi
          have hlt := ho1.lt
          have ha : Below W.heap.size W (W.alloc (.cells #[.int .i64 y1, .int .i64 y2, .int .i64 y3] 30)) := (Below.refl _ W).alloc (Nat.le_refl _) _
          refine hK _ _ ((KeepsOthers.alloc _ _).from _) ⟨ha.mono (by omega), fun k hk => ha.block k (hs1 k hk).2⟩ ⟨hi1, ?_, hb1.trans (ha.mono (by omega)), fun k hk => ⟨(hs1 k hk).1, Nat.lt_of_lt_of_le (hs1 k hk).2 ha.size⟩⟩ ⟨W.heap.size, hlt, Blk.new W _ _, rfl⟩
          obtain ⟨v, h1, h2, h3⟩ := ho1
          exact ⟨v, h1.alloc _, h2.alloc _, h3⟩
        case body =>
          rintro l' P pre ⟨y1, y2, y3⟩ a' W hl hsz ⟨hi1, ⟨v, hv, hr, hP⟩, hS⟩ ⟨Bx, hBx, hX, rfl⟩ hpn
          have hb := hS.1
          have hc := hv.cell
          have hf := hv.frozen
          have hGW : G < W.heap.size := hv.lt
          obtain ⟨A', c', rfl, hlies⟩ := Lies.of_own hr hr.1
          have hb3 : Below w3.heap.size w3 W := HST7.out.bl.trans (hb.mono (by rw [← hG]; exact HST7.out.bl.size))
          have z1 := (HX1.out.keep hb3).get 0 rfl
          have t0 := hX.c30; have t1 := hX.c31; have t2 := hX.c32
          have hp150 : pre.length ≤ 152 := by
            have h1 : L7.length ≤ (againL (m1, m2, m3) L k).length := by rw [← hL7]; exact List.length_filter_le _ _
            have := HLE.out; omega
          by_cases hbr : most ≤ (pre.length : Int)
          · have e1 : decide ((pre.length : Int) ≥ most) = true := decide_eq_true hbr
            gi_wp2
            refine ⟨KeepsFrom.refl _ _, ⟨rfl, by simp; omega, by simp; omega⟩, ⟨_, hv, by simpa using hr, fun _ _ h => h⟩, hS.1, fun k hk => hk.elim⟩
          · have e1 : decide ((pre.length : Int) ≥ most) = false := decide_eq_false hbr
            gi_wp2_with (gi_at_builtin; refine wpListIn_app2 rfl _ _ 22 rfl [.int .i64 y1, .int .i64 y2, .int .i64 y3] (ad := ⟨W.heap.size, 0, none⟩) (m := 1) (c := 1) elem_item rfl (hr.alloc _) rfl rfl (new_cells W [.int .i64 y1, .int .i64 y2, .int .i64 y3] _) (by simp [Value.oneCell']) (by omega) (by unfold maxLen; omega) (by simp; omega) ?_; intro v' w1 hown' hgrow hnew; obtain ⟨g', cap', rfl⟩ := ownsRow_succ hown'; obtain ⟨hv1, ho2, hk2, hb2, hg2, hs2⟩ := OwnI.appended hv (by decide) hr hP hS.2 hown' hgrow hnew; have hc1 := hv1.cell; have hf1 := hv1.frozen)
            exact ⟨hk2.from _, ⟨hb2, hg2⟩, by simp; omega, by simpa [cells3_append, cells3] using ho2, hS.1.trans hb2, hs2⟩
        case done =>
          rintro D P xs W hD rfl ⟨hi1, ⟨v, hv, hr, _⟩, hb, _⟩ hK
          refine ⟨.inl rfl, D, rfl, by omega, hK, hb, xs.length, v, hv, by rw [List.take_length]; exact hr, by omega⟩
        case stop =>
          rintro D cc pre W hD hpre ⟨⟨rfl, i1, i2⟩, ⟨v, hv, hr, _⟩, hb, _⟩ hK
          have hlen := hpre.length_le
          have hdl : pre.dropLast.length = pre.length - 1 := List.length_dropLast
          have htk : L7.take pre.dropLast.length = pre.dropLast := by
            obtain ⟨r, hr'⟩ := hpre
            have h1 : pre.take (pre.length - 1) = pre.dropLast := List.dropLast_eq_take.symm
            rw [← hr', hdl, List.take_append_of_le_length (by omega), h1]
          refine wp_exit ⟨.inr rfl, D, rfl, by omega, hK, hb, pre.dropLast.length, v, hv, by rw [htk]; exact hr, by omega⟩
      case rest =>
        rintro D W ⟨hD, hK, hb, m, v, hv, hr, hm⟩
        dsimp only
        subst hG
        have hlies := Lies.of_own (n := m) hr hr.1
        obtain ⟨Av, cv, rfl, hlv⟩ := hlies
        have hST9 := Lib.hid (HST7.out.loop HK.out.toRepOk hb hD hK)
        have HL7 := Lib.hid ((own_lies HO7.out).keep hb)
        have xg := hv.cell
        have xm := (HX1.out.keep hST9.out.bl).get 0 rfl
        have xn := HX2.out.keep hST9.out.bl
        have xn0 := xn.c30; have xn1 := xn.c31; have xn2 := xn.c32
        clear xn
        have hgl : w7.heap.size < W.heap.size := hv.lt
        have hml : w.heap.size + 1 < W.heap.size := Lib.lt_of_cell xm
        have hn7 : L7.length = n7 := by have := Itm.count (own_lies HO7.out); rw [← hL7]; exact this
        rw [hn7] at hm
        have hmn7 : m ≤ n7 := by omega
        obtain ⟨mn, hmn⟩ : ∃ mn, (if (n7 : Int) < most then (n7 : Int) else most) = mn := ⟨_, rfl⟩
        have hmm : (if 0 < mn then mn else 0) = (m : Int) := by rw [hm, ← hmn]; split <;> split <;> omega
        have hls : Itm W A7 m c7 (L7.take m) := by
          have h1 := HL7.out
          rw [hL7] at h1
          have := Lies.take h1 hmn7
          rwa [← cells3_take] at this
        have hc7 : (m : Int) ≤ (c7 : Int) := by have := hls.cap; omega
        clear hm
        have hl7 : (L7.take m).length ≤ 100000 := by
          have := HLE.out
          have h1 : L7.length ≤ (againL (m1, m2, m3) L k).length := by rw [← hL7]; exact List.length_filter_le _ _
          rw [List.length_take]; omega
        clear hmn7
        go_upto_region 17 with fail
        -- REGION 17
        refine wp_region_rel 10 (Ext W)
          (fun i => List.getD [VE (.slice Av m cv), VE (.slice A7 n7 c7), VE (.int .i64 most), VE (.slice A7 n7 c7), VE (.int .i64 (n7 : Int)), VE (.int .i64 mn), VE (.int .i64 (m : Int)), VE (.slice A7 m c7), VE (.bool true), VE (.bool false)] i (fun _ _ => False)) [] [1, 3, 4, 5, 6, 7, 9] (by kernel_rfl) (by kernel_rfl) (Ext.start W) (fun _ _ h hb => h.grow hb)
          (stays_all (stays_cons (stays_VE _) (stays_cons (stays_VE _) (stays_cons (stays_VE _) (stays_cons (stays_VE _) (stays_cons (stays_VE _) (stays_cons (stays_VE _) (stays_cons (stays_VE _) (stays_cons (stays_VE _) (stays_cons (stays_VE _) (stays_cons (stays_VE _) stays_nil))))))))))) ⟨?_, ?_, ?_, ?_, ?_, ?_, ?_, ?_, ?_, ?_, trivial⟩ ?_
        · intro ev wv hE hw hd
          refine ifw rfl (ifn rfl ?_)
          have v12 : ev (.tmp 12) = .pointer (some ⟨w7.heap.size, 0, none⟩) := hE.tmp 12 rfl
          have kx := (Below.cell (p := ⟨w7.heap.size, 0, none⟩) hw hgl).trans xg
          refine rel_val (u := .slice Av m cv) (w' := wv) ?_ (Below.refl _ _) ⟨rfl, fun h => by cases h⟩
          have e1 := hE.const; clear hE hd hw
          go_simp
        · intro ev wv hE hw hd
          refine ifw rfl (ifw rfl ?_)
          have v11 : ev (.tmp 11) = .slice A7 n7 c7 := hE.tmp 11 rfl
          refine ⟨.slice A7 n7 c7, fun w => ?_, rfl⟩
          have e1 := hE.const; have e2 := hE.func; clear hE hd hw
          go_simp
        · intro ev wv hE hw hd
          refine ifw rfl (ifn rfl ?_)
          have v6 : ev (.tmp 6) = .pointer (some ⟨w.heap.size + 1, 0, none⟩) := hE.tmp 6 rfl
          have kx := (Below.cell (p := ⟨w.heap.size + 1, 0, none⟩) hw hml).trans xm
          refine rel_val (u := .int .i64 most) (w' := wv) ?_ (Below.refl _ _) ⟨rfl, fun h => by cases h⟩
          have e1 := hE.const; clear hE hd hw
          go_simp
        · intro ev wv hE hw hd
          refine ifw rfl (ifw rfl ?_)
          have v11 : ev (.tmp 11) = .slice A7 n7 c7 := hE.tmp 11 rfl
          refine ⟨.slice A7 n7 c7, fun w => ?_, rfl⟩
          have e1 := hE.const; have e2 := hE.func; clear hE hd hw
          go_simp
        · intro ev wv hE hw hd
          refine ifw rfl (ifw rfl ?_)
          have v45 : ev (.tmp 45) = .slice A7 n7 c7 := hd 3 (by decide)
          refine ⟨.int .i64 (n7 : Int), fun w => ?_, rfl⟩
          have e1 := hE.const; have e2 := hE.func; clear hE hd hw
          go_simp
        · intro ev wv hE hw hd
          refine ifw rfl (ifw rfl ?_)
          have v44 : ev (.tmp 44) = .int .i64 most := hd 2 (by decide)
          have v46 : ev (.tmp 46) = .int .i64 (n7 : Int) := hd 4 (by decide)
          refine ⟨.int .i64 mn, fun w => ?_, rfl⟩
          have e1 := hE.const; have e2 := hE.func; clear hE hd hw
          go_simp
        · intro ev wv hE hw hd
          refine ifw rfl (ifw rfl ?_)
          have v47 : ev (.tmp 47) = .int .i64 mn := hd 5 (by decide)
          refine ⟨.int .i64 (m : Int), fun w => ?_, rfl⟩
          have e1 := hE.const; have e2 := hE.func; clear hE hd hw
          go_simp
        · intro ev wv hE hw hd
          refine ifw rfl (ifw rfl ?_)
          have v43 : ev (.tmp 43) = .slice A7 n7 c7 := hd 1 (by decide)
          have v48 : ev (.tmp 48) = .int .i64 (m : Int) := hd 6 (by decide)
          refine ⟨.slice A7 m c7, fun w => ?_, rfl⟩
          have e1 := hE.const; have e2 := hE.func; clear hE hd hw
          go_simp
        · intro ev wv hE hw hd
          refine ifw rfl (ifn rfl ?_)
          have v42 : ev (.tmp 42) = .slice Av m cv := hd 0 (by decide)
          have v49 : ev (.tmp 49) = .slice A7 m c7 := hd 7 (by decide)
          refine rel_call (f := 13) (args := #[.slice Av m cv, .slice A7 m c7]) ?_ (itsame2 (Lies.keep hlv hw) (Lies.keep hls hw) hl7) ?_
          · have e0 := hE.func; have e1 := hE.const; clear hE hd hw
            go_simp
          · rintro e w' ⟨rfl, hb⟩
            exact ⟨_, rfl, hb, rfl, fun h => by cases h⟩
        · intro ev wv hE hw hd
          refine ifw rfl (ifw rfl ?_)
          have v50 : ev (.tmp 50) = .bool true := hd 8 (by decide)
          refine ⟨.bool false, fun w => ?_, rfl⟩
          have e1 := hE.const; have e2 := hE.func; clear hE hd hw
          go_simp
        · intro wz hw
          intro v0 h0 _ v1 h1 _ v2 h2 _ v3 h3 _ v4 h4 _ v5 h5 _ v6 h6 _ v7 h7 _ v8 h8 _ v9 h9 _
          simp only [Act.put, List.setIfInBounds_toArray, List.set_cons_zero, List.set_cons_succ, List.drop_succ_cons, List.drop_zero]
          obtain rfl : v0 = _ := h0
          obtain rfl : v1 = _ := h1
          obtain rfl : v2 = _ := h2
          obtain rfl : v3 = _ := h3
          obtain rfl : v4 = _ := h4
          obtain rfl : v5 = _ := h5
          obtain rfl : v6 = _ := h6
          obtain rfl : v7 = _ := h7
          obtain rfl : v8 = _ := h8
          obtain rfl : v9 = _ := h9
          change wpList Try.prog _ _ _ _ wz
          have HST10 := Lib.hid (hST9.out.keep HK.out.toRepOk hw)
          have xn0 := (Below.cell (p := ⟨w.heap.size + 1 + 1, 0, none⟩) hw (Lib.lt_of_cell xn0)).trans xn0
          have xn1 := (Below.cell (p := ⟨w.heap.size + 1 + 1, 1, none⟩) hw (Lib.lt_of_cell xn1)).trans xn1
          have xn2 := (Below.cell (p := ⟨w.heap.size + 1 + 1, 2, none⟩) hw (Lib.lt_of_cell xn2)).trans xn2
          have HI := Lib.hid (show Calls Try.prog 19 #[.pointer (some q), .agg #[.int .i64 m1, .int .i64 m2, .int .i64 m3]] wz (fun e w' => (∃ r, e = .returned (.int .i64 r)) ∧ StA Rep w3 w6 w5.heap.size (.pointer (some q)) (againL (m1, m2, m3) L (k + 1)) (D :: Ds) w') from by
            obtain ⟨F, q1, q2, q3, q4, q5, q6, q7⟩ := HST10.out
            refine (HK.out.insert wz _ F 1000 _ (m1, m2, m3) q1 (by have := HLE.out; omega)).mono ?_
            rintro e w' ⟨F', he, hr', ho, hF⟩
            exact ⟨⟨_, he⟩, StA.turn q2 q3 q4 q5 q6 q7 hr' ho hF⟩)
          clear hw hST9 HST10 xg xm hgl hml hls hlv hv hr hb hK hseq HL7
          go_wp2_with fail
          refine calm_normal ?_
          go_wp2_with fail
          refine HI.out.mono ?_
          rintro e w11 ⟨⟨r, rfl⟩, hs11⟩
          have HS11 := Lib.hid hs11
          clear hs11
          go_wp2_with fail
          exact ⟨⟨k + 1, D :: Ds, _, _, _, _, _, _, _, _, _, _, _, _, _, _, _, _, _, _, _, _, _, _, _, _, _, _, _, _, _, _, _, rfl, by omega, HS11.out⟩, by show 2 - (intOf (.int .i64 ((k : Int) + 1))).toNat < 2 - (intOf (.int .i64 (k : Int))).toNat; simp [intOf]; omega⟩
    · have hk2 : k = 2 := by omega
      subst hk2
      go_wp2_with fail
      refine (itknown_any HK.out.toItK _).mono ?_
      rintro e w8 ⟨rfl, b8⟩
      have HS8 := Lib.hid (HST.out.keep HK.out.toRepOk b8)
      have HB8 := Lib.hid (HB3.out.trans (HS8.out.bl.mono HB3.out.size))
      clear b8
      go_wp2_with fail
      exact leaves_marks (fun W hb => ⟨_, results_tmp rfl _ _ _, rfl, hb⟩) Ds w8 (HS8.out.marks.mono HB3.out.size) HB8.out
theorem itall_long {Rep : RepT} (K : ItA Rep) (A : Option Addr) (N c : Nat) (a b most m1 m2 m3 : Int) (w : World) (hN : ¬ N ≤ 150) :
    Calls Try.prog 4 #[.slice A N c, .agg #[.int .i64 a, .int .i64 b], .int .i64 most, .agg #[.int .i64 m1, .int .i64 m2, .int .i64 m3]] w fun e w' => e = .returned (.bool true) ∧ Below w.heap.size w w' := by
  have d0 : decide ((N : Int) > 150) = true := decide_eq_true (by omega)
  have HK := Lib.hid K
  have HB3 := Lib.hid ((((Below.refl w.heap.size w).alloc (Nat.le_refl _) (.cells #[.int .i64 a, .int .i64 b] 24)).alloc (by simp) (.cells #[.int .i64 most] 3)).alloc (by simp; omega) (.cells #[.int .i64 m1, .int .i64 m2, .int .i64 m3] 30))
  clear K hN
  refine calls_of_wp_marks Try.func4 rfl ?_
  simp only [Try.ntmps4, List.size_toArray, List.length_cons, List.length_nil, Nat.reduceAdd, Nat.reduceSub, Array.replicate_succ, Array.replicate_zero, List.push_toArray, List.append_toArray, List.nil_append, List.cons_append]
  go_wp2_with fail
  refine (itknown_any HK.out.toItK _).mono ?_
  rintro e w8 ⟨rfl, b8⟩
  have HB8 := Lib.hid (HB3.out.trans (b8.mono HB3.out.size))
  clear b8
  go_wp2_with fail
  exact leaves_marks (fun W hb => ⟨_, results_tmp rfl _ _ _, rfl, hb⟩) [] w8 (Marks.nil _ _) HB8.out
theorem itall_any {Rep : RepT} (K : ItA Rep) (A : Option Addr) (N c : Nat) (l : ItL) (a b most m1 m2 m3 : Int) (w : World) (Rl : Itm w A N c l) (hRl : okR l) (hm1 : lowI ≤ m1) :
    Calls Try.prog 4 #[.slice A N c, .agg #[.int .i64 a, .int .i64 b], .int .i64 most, .agg #[.int .i64 m1, .int .i64 m2, .int .i64 m3]] w fun e w' => e = .returned (.bool true) ∧ Below w.heap.size w w' := by
  by_cases hN : N ≤ 150
  · exact itall_main K A N c l a b most m1 m2 m3 w Rl hRl hm1 hN
  · exact itall_long K A N c a b most m1 m2 m3 w hN
end Go.Proofs.Ytolmkagedlcjiaa
