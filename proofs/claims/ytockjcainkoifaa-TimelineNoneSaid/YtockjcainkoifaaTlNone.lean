/- The law TimelineNone. -/
import Derived.Test.YtockjcainkoifaaTlKnown
import Derived.Test.YtockjcainkoifaaRelVal
namespace Go.Proofs.Ytockjcainkoifaa
set_option maxRecDepth 8000
open Go.RowKit Corr
set_option linter.unusedVariables false
set_option linter.unusedSimpArgs false
/-- What package timeline does with a timeline that is not there, or was not made. -/
structure TlN (Rep : RepL) (NilT : World → Value → (Nat → Prop) → Prop) : Prop where
  lt : ∀ {w p F}, NilT w p F → ∀ k, F k → k < w.heap.size
  keep : ∀ {w w' p F G}, NilT w p F → Off G w w' → (∀ k, F k → ¬ G k) → NilT w' p F
  nil : ∀ w : World, NilT w (.pointer none) (fun _ => False)
  zero : ∀ w : World, NilT (w.alloc (.cells #[.pointer none, .pointer none, .pointer none, .pointer none, .map none] 58)) (.pointer (some ⟨w.heap.size, 0, none⟩)) (fun k => k = w.heap.size)
  put : ∀ (w : World) (p : Value) (F : Nat → Prop) (a b v : Int), NilT w p F → Calls Try.prog 10 #[p, .agg #[.int .i64 a, .int .i64 b], .int .i64 v] w fun e w' => e = .returned (.int .i64 1) ∧ Below w.heap.size w w'
  at_ : ∀ (w : World) (p : Value) (F : Nat → Prop) (d : Int), NilT w p F → Calls Try.prog 16 #[p, .int .i64 d] w fun e w' => e = .returned (.int .i64 0) ∧ Below w.heap.size w w'
  segs : ∀ (w : World) (p : Value) (F : Nat → Prop) (a b : Int), NilT w p F → Calls Try.prog 12 #[p, .agg #[.int .i64 a, .int .i64 b]] w fun e w' => ∃ A c, e = .returned (.slice A 0 c) ∧ Below w.heap.size w w'
  ends : ∀ (w : World) (p : Value) (F : Nat → Prop) (a b : Int), NilT w p F → Calls Try.prog 14 #[p, .agg #[.int .i64 a, .int .i64 b]] w fun e w' => ∃ A c, e = .returned (.slice A 0 c) ∧ Below w.heap.size w w'
  pieces : ∀ (w : World) (p : Value) (F : Nat → Prop), NilT w p F → Calls Try.prog 18 #[p] w fun e w' => e = .returned (.int .i64 0) ∧ Below w.heap.size w w'
  copy : ∀ (w : World) (p : Value) (F : Nat → Prop), NilT w p F → Calls Try.prog 20 #[p] w fun e w' => ∃ (q : Addr) (F' : Nat → Prop), e = .returned (.pointer (some q)) ∧ Rep w' (.pointer (some q)) F' 0 (fun _ => 0) ∧ Below w.heap.size w w' ∧ ∀ k, F' k → w.heap.size ≤ k
  same1 : ∀ (w : World) (p q : Value) (F G : Nat → Prop) (N : Nat) (f : Int → Int), Rep w p F N f → NilT w q G → N ≤ 300 → Calls Try.prog 21 #[p, q] w (RetSameF w f (fun _ => 0))
  same2 : ∀ (w : World) (p q : Value) (F G : Nat → Prop) (N : Nat) (f : Int → Int), NilT w p G → Rep w q F N f → N ≤ 300 → Calls Try.prog 21 #[p, q] w (RetSameF w (fun _ => 0) f)
section
variable {Rep : RepL} {NilT : World → Value → (Nat → Prop) → Prop} {w0 w : World} {ts : List Thing} {p : Value} {i : Nat}
def nilT (V : TlN Rep NilT) (p : Value) : Thing where
  P w F := NilT w p F
  lt := V.lt
  keep := V.keep
theorem sepn (V : TlN Rep NilT) (h : Sep w0 ts w) (hi : ts[i]? = some (nilT V p)) : ∃ F, NilT w p F := by
  obtain ⟨F, hp, _⟩ := h.get hi; exact ⟨F, hp⟩
theorem sepn_copy (K : TlK Rep) (V : TlN Rep NilT) (h : Sep w0 ts w) (hi : ts[i]? = some (nilT V p)) : Calls Try.prog 20 #[p] w fun e w' => ∃ q : Addr, e = .returned (.pointer (some q)) ∧ Sep w0 (ts ++ [tlT K.toTlOk (.pointer (some q)) 0 (fun _ => 0)]) w' := by
  obtain ⟨F, hp⟩ := sepn V h hi
  refine (V.copy w p F hp).mono fun e w' hq => ?_
  obtain ⟨q, F', he, hr, hb, hF⟩ := hq
  exact ⟨q, he, h.add hb (t := tlT K.toTlOk (.pointer (some q)) 0 (fun _ => 0)) hr hF⟩
theorem sepn_same1 (K : TlK Rep) (V : TlN Rep NilT) (h : Sep w0 ts w) (hi : ts[i]? = some (nilT V p)) {j : Nat} {q : Value} {N : Nat} {f : Int → Int} (hj : ts[j]? = some (tlT K.toTlOk q N f)) (hN : N ≤ 300) : Calls Try.prog 21 #[q, p] w (RetSameF w f (fun _ => 0)) := by
  obtain ⟨F, hp⟩ := sepn V h hi
  obtain ⟨G, hq, _⟩ := h.get hj
  exact V.same1 w q p G F N f hq hp hN
/-- What becomes of a copy. -/
def cF (b : Bool) : Int → Int := match b with | true => putF (fun _ => 0) 1 2 1 | false => fun _ => 0
def cN (b : Bool) : Nat := match b with | true => 1 | false => 0
theorem cseg0 : segF (fun _ => 0) 1 3652060 [(1, 3652060, 0)] := by
  unfold segF
  rw [if_pos (by decide)]
  exact ⟨rfl, by decide, fun d _ _ => rfl, fun t ht => by simp at ht, rfl⟩
theorem cseg1 : segF (cF true) 1 3652060 [(1, 2, 1), (2, 3652060, 0)] := by
  have e : ∀ d, cF true d = if 1 ≤ d ∧ d < 2 then 1 else 0 := by
    intro d
    show putF (fun _ => 0) 1 2 1 d = _
    unfold putF updF
    rw [if_pos (show mayB 1 2 = true by decide)]
  unfold segF
  rw [if_pos (by decide)]
  refine ⟨rfl, by decide, fun d h1 h2 => ?_, fun t ht => ?_, rfl, by decide, fun d h1 h2 => ?_, fun t ht => ?_, rfl⟩
  all_goals first
  | (rw [e]; simp only at h1 h2 ⊢; (repeat' split) <;> omega)
  | (simp at ht; subst ht; decide)
  | (simp at ht; done)
/-- What holds while a round is gone through. -/
def NoneD (K : TlK Rep) (V : TlN Rep NilT) (w : World) (ts : List Thing) (c : Value) (b n : Bool) (u : Value) (wx : World) : Prop := Sep w (ts ++ [tlT K.toTlOk c (cN b) (cF b)]) wx ∧ (n = true → b = false → ∃ q G, u = .pointer (some q) ∧ Rep wx (.pointer (some q)) G 0 (fun _ => 0))
theorem NoneD.keep {K : TlK Rep} {V : TlN Rep NilT} {w wx w' : World} {ts : List Thing} {c u : Value} {b n : Bool} (h : NoneD K V w ts c b n u wx) (hb : Below wx.heap.size wx w') : NoneD K V w ts c b n u w' :=
  ⟨h.1.keep hb, fun h1 h2 => by
    obtain ⟨q, G, e, hr⟩ := h.2 h1 h2
    exact ⟨q, G, e, K.keep hr (Off.of (F := fun _ => False) hb) (fun _ _ e => e)⟩⟩
end
set_option maxRecDepth 100000 in
set_option maxHeartbeats 8000000 in
theorem tlnone_any {Rep : RepL} (K : TlK Rep) {NilT : World → Value → (Nat → Prop) → Prop} (V : TlN Rep NilT) (a b v day : Int) (w : World) : Calls Try.prog 7 #[.agg #[.int .i64 a, .int .i64 b, .int .i64 v], .int .i64 day] w fun e w' => e = .returned (.bool true) ∧ Below w.heap.size w w' := by
  have HK := Lib.hid K
  have HV := Lib.hid V
  clear K V
  have s1 := (Sep.nil w).push #[.int .i64 a, .int .i64 b, .int .i64 v] 33
  have s2 := s1.add ((Below.refl _ _).alloc (Nat.le_refl _) (.cells #[.pointer none, .pointer none, .pointer none, .pointer none, .map none] 58)) (t := nilT HV.out (.pointer (some ⟨w.heap.size + 1, 0, none⟩))) (F := fun k => k = w.heap.size + 1) (by have h := HV.out.zero (w.alloc (.cells #[.int .i64 a, .int .i64 b, .int .i64 v] 33)); simp only [size_alloc] at h; exact h) (fun k hk => by simp only [size_alloc]; omega)
  have s3 := s2.push #[.pointer none, .pointer (some ⟨w.heap.size + 1, 0, none⟩)] 26
  have s4 := s3.add (Below.refl _ _) (t := nilT HV.out (.pointer none)) (F := fun _ => False) (HV.out.nil _) (fun k hk => hk.elim)
  simp only [size_alloc, List.nil_append, List.cons_append] at s4
  have HS := Lib.hid (show Sep w [blkT w.heap.size #[.int .i64 a, .int .i64 b, .int .i64 v], nilT HV.out (.pointer (some ⟨w.heap.size + 1, 0, none⟩)), blkT (w.heap.size + 2) #[.pointer none, .pointer (some ⟨w.heap.size + 1, 0, none⟩)], nilT HV.out (.pointer none)] (((w.alloc (.cells #[.int .i64 a, .int .i64 b, .int .i64 v] 33)).alloc (.cells #[.pointer none, .pointer none, .pointer none, .pointer none, .map none] 58)).alloc (.cells #[.pointer none, .pointer (some ⟨w.heap.size + 1, 0, none⟩)] 26)) from s4)
  clear s1 s2 s3 s4
  go_enter Try.func7, Try.ntmps7
  go_wp2_with fail
  refine wp_loop_rounds 3 ?_
  rw [rounds_succ]
  have y0 := (HS.out.b 2 rfl).get 0 rfl; have y1 := (HS.out.b 2 rfl).get 1 rfl
  go_wp2_with fail
  refine (sepn_copy HK.out HV.out HS.out (i := 3) rfl).mono ?_
  rintro e w0 ⟨qc0, rfl, s1⟩
  have HC := Lib.hid (show Sep w ([blkT w.heap.size #[.int .i64 a, .int .i64 b, .int .i64 v], nilT HV.out (.pointer (some ⟨w.heap.size + 1, 0, none⟩)), blkT (w.heap.size + 2) #[.pointer none, .pointer (some ⟨w.heap.size + 1, 0, none⟩)], nilT HV.out (.pointer none)] ++ [tlT HK.out.toTlOk (.pointer (some qc0)) 0 (fun _ => 0)]) w0 from s1)
  clear s1 HS y0 y1
  go_upto_region 7 with fail
  refine wp_region_val 57 (fun S val wx => VVs 57 [(fun vv => vv = (.pointer none)), (fun vv => vv = (.pointer (some ⟨w.heap.size, 0, none⟩))), (fun vv => vv = (.agg #[.int .i64 a, .int .i64 b])), (fun vv => vv = (.pointer (some ⟨w.heap.size, 2, none⟩))), (fun vv => vv = (.int .i64 v)), (fun vv => vv = (.int .i64 1)), (fun vv => vv = (.bool false)), (fun vv => vv = (.bool false)), (fun vv => vv = (.pointer none)), (fun vv => vv = (.int .i64 day)), (fun vv => vv = (.int .i64 0)), (fun vv => vv = (.bool false)), (fun vv => vv = (.bool false)), (fun vv => vv = (.bool false)), (fun vv => vv = (.pointer none)), (fun vv => vv = (.pointer (some ⟨w.heap.size, 0, none⟩))), (fun vv => vv = (.agg #[.int .i64 a, .int .i64 b])), (fun vv => ∃ A c, vv = .slice A 0 c), (fun vv => vv = (.int .i64 0)), (fun vv => vv = (.pointer none)), (fun vv => vv = (.pointer (some ⟨w.heap.size, 0, none⟩))), (fun vv => vv = (.agg #[.int .i64 a, .int .i64 b])), (fun vv => ∃ A c, vv = .slice A 0 c), (fun vv => vv = (.int .i64 0)), (fun vv => vv = (.int .i64 0)), (fun vv => vv = (.pointer none)), (fun vv => vv = (.int .i64 0)), (fun vv => vv = (.int .i64 0)), (fun vv => vv = (.bool false)), (fun vv => vv = (.bool false)), (fun vv => vv = (.bool false)), (fun vv => vv = (.pointer (some qc0))), (fun vv => vv = (.bool false)), (fun vv => vv = (.bool false)), (fun vv => vv = (.bool false)), (fun vv => vv = (.pointer (some qc0))), (fun vv => vv = (.pointer none)), (fun vv => vv = (.bool true)), (fun vv => vv = (.bool false)), (fun vv => vv = (.bool false)), (fun vv => vv = (.bool false)), (fun vv => vv = (.pointer none)), (fun vv => ∃ q, vv = .pointer (some q)), (fun vv => vv = (.bool true)), (fun vv => vv = (.bool false)), (fun vv => vv = (.bool false)), (fun vv => vv = (.bool false)), (fun vv => vv = (.pointer (some qc0))), (fun vv => vv = (.agg #[.int .i64 1, .int .i64 2])), (fun vv => vv = (.int .i64 0)), (fun vv => vv = (.bool false)), (fun vv => vv = (.bool false)), (fun vv => vv = (.bool false)), (fun vv => vv = (.pointer (some qc0))), (fun vv => vv = (.pointer none)), (fun vv => vv = (.bool false)), (fun vv => vv = (.bool false))] S val ∧ Clo [[], [], [1], [], [3], [0, 2, 4], [5], [6], [7], [7], [7, 8, 9], [7, 10], [7, 11], [12], [13], [13], [13, 15], [13, 14, 16], [13, 17], [13], [13], [13, 20], [13, 19, 21], [13, 22], [13, 18, 23], [13], [13, 25], [13, 24, 26], [13, 27], [13, 28], [29], [30], [30, 31], [30, 32], [33], [34], [34], [34, 35, 36], [34, 37], [34, 38], [39], [40], [40], [40, 41, 42], [40, 43], [40, 44], [45], [46], [46], [46, 47, 48], [46, 49], [46, 50], [51], [52], [52], [52, 53, 54], [52, 55]] S ∧ NoneD HK.out HV.out w [blkT w.heap.size #[.int .i64 a, .int .i64 b, .int .i64 v], nilT HV.out (.pointer (some ⟨w.heap.size + 1, 0, none⟩)), blkT (w.heap.size + 2) #[.pointer none, .pointer (some ⟨w.heap.size + 1, 0, none⟩)], nilT HV.out (.pointer none)] (.pointer (some qc0)) (S 49) (S 42) (val 42) wx) [0, 1, 3, 6, 7, 8, 9, 11, 12, 13, 14, 15, 18, 19, 20, 23, 24, 25, 27, 28, 29, 30, 31, 32, 33, 34, 35, 36, 38, 39, 40, 41, 44, 45, 46, 47, 48, 50, 51, 52, 53, 54, 56] (by kernel_rfl) (by kernel_rfl) ⟨VVs.start, Clo.start, ⟨HC.out.keep (Below.refl _ _).drew, fun h => by cases h⟩⟩ ⟨?_, ?_, ?_, ?_, ?_, ?_, ?_, ?_, ?_, ?_, ?_, ?_, ?_, ?_, ?_, ?_, ?_, ?_, ?_, ?_, ?_, ?_, ?_, ?_, ?_, ?_, ?_, ?_, ?_, ?_, ?_, ?_, ?_, ?_, ?_, ?_, ?_, ?_, ?_, ?_, ?_, ?_, ?_, ?_, ?_, ?_, ?_, ?_, ?_, ?_, ?_, ?_, ?_, ?_, ?_, ?_, ?_, trivial⟩ ?_
  · rintro ev wv S val hE ⟨hV, hK, hw⟩ hS hd
    have hcl := Clo.add hK (i := 0) ((fun _ h => by cases h))
    have v8 : ev (.tmp 8) = .pointer none := hE.tmp 8 rfl
    refine ifw rfl (ifw rfl ⟨.pointer none, fun w9 => ?_, VVs.add hV rfl, hcl, hw⟩)
    have e1 := hE.const; have e2 := hE.func; clear hE hd hw hS hV hK hcl
    show _ = Result.ok (Next.value (.pointer none)) w9
    go_simp
  · rintro ev wv S val hE ⟨hV, hK, hw⟩ hS hd
    have hcl := Clo.add hK (i := 1) ((fun _ h => by cases h))
    have v2 : ev (.tmp 2) = .pointer (some ⟨w.heap.size, 0, none⟩) := hE.tmp 2 rfl
    refine ifw rfl (ifw rfl ⟨.pointer (some ⟨w.heap.size, 0, none⟩), fun w9 => ?_, VVs.add hV rfl, hcl, hw⟩)
    have e1 := hE.const; have e2 := hE.func; clear hE hd hw hS hV hK hcl
    show _ = Result.ok (Next.value (.pointer (some ⟨w.heap.size, 0, none⟩))) w9
    go_simp
  · rintro ev wv S val hE ⟨hV, hK, hw⟩ hS hd
    have hcl := Clo.add hK (i := 2) (List.forall_mem_cons.2 ⟨(hd 1 (by decide)).1, (fun _ h => by cases h)⟩)
    have v20 : ev (.tmp 20) = (.pointer (some ⟨w.heap.size, 0, none⟩)) := (hd 1 (by decide)).2.trans (hV 1 (by decide) (hd 1 (by decide)).1)
    have B := Sep.b hw.1 0 rfl
    have kx := B.get 0 rfl; have ky := B.get 1 rfl
    clear B
    refine ifw rfl (ifn rfl ?_)
    refine set_val (u := .agg #[.int .i64 a, .int .i64 b]) (w' := wv) ?_ ⟨VVs.add hV rfl, hcl, hw⟩
    have e1 := hE.const; clear hE hd hw hS hV hK hcl
    go_simp
  · rintro ev wv S val hE ⟨hV, hK, hw⟩ hS hd
    have hcl := Clo.add hK (i := 3) ((fun _ h => by cases h))
    have v2 : ev (.tmp 2) = .pointer (some ⟨w.heap.size, 0, none⟩) := hE.tmp 2 rfl
    refine ifw rfl (ifw rfl ⟨.pointer (some ⟨w.heap.size, 2, none⟩), fun w9 => ?_, VVs.add hV rfl, hcl, hw⟩)
    have e1 := hE.const; have e2 := hE.func; clear hE hd hw hS hV hK hcl
    show _ = Result.ok (Next.value (.pointer (some ⟨w.heap.size, 2, none⟩))) w9
    go_simp
  · rintro ev wv S val hE ⟨hV, hK, hw⟩ hS hd
    have hcl := Clo.add hK (i := 4) (List.forall_mem_cons.2 ⟨(hd 3 (by decide)).1, (fun _ h => by cases h)⟩)
    have v22 : ev (.tmp 22) = (.pointer (some ⟨w.heap.size, 2, none⟩)) := (hd 3 (by decide)).2.trans (hV 3 (by decide) (hd 3 (by decide)).1)
    have B := Sep.b hw.1 0 rfl
    have kx := B.get 2 rfl
    clear B
    refine ifw rfl (ifn rfl ?_)
    refine set_val (u := .int .i64 v) (w' := wv) ?_ ⟨VVs.add hV rfl, hcl, hw⟩
    have e1 := hE.const; clear hE hd hw hS hV hK hcl
    go_simp
  · rintro ev wv S val hE ⟨hV, hK, hw⟩ hS hd
    have hcl := Clo.add hK (i := 5) (List.forall_mem_cons.2 ⟨(hd 0 (by decide)).1, List.forall_mem_cons.2 ⟨(hd 2 (by decide)).1, List.forall_mem_cons.2 ⟨(hd 4 (by decide)).1, (fun _ h => by cases h)⟩⟩⟩)
    have v19 : ev (.tmp 19) = (.pointer none) := (hd 0 (by decide)).2.trans (hV 0 (by decide) (hd 0 (by decide)).1)
    have v21 : ev (.tmp 21) = (.agg #[.int .i64 a, .int .i64 b]) := (hd 2 (by decide)).2.trans (hV 2 (by decide) (hd 2 (by decide)).1)
    have v23 : ev (.tmp 23) = (.int .i64 v) := (hd 4 (by decide)).2.trans (hV 4 (by decide) (hd 4 (by decide)).1)
    obtain ⟨G, hn⟩ := sepn HV.out hw.1 (i := 3) rfl
    refine ifw rfl (ifn rfl ?_)
    refine set_call (f := 10) (args := #[.pointer none, .agg #[.int .i64 a, .int .i64 b], .int .i64 v]) ?_ (HV.out.put _ (.pointer none) G a b v hn) ?_
    · have e0 := hE.func; have e1 := hE.const; clear hE hd hw hS hV hK hcl
      go_simp
    · rintro e w' ⟨rfl, hb⟩
      exact ⟨_, rfl, VVs.add hV (rfl), hcl, hw.keep hb⟩
  · rintro ev wv S val hE ⟨hV, hK, hw⟩ hS hd
    have hcl := Clo.add hK (i := 6) (List.forall_mem_cons.2 ⟨(hd 5 (by decide)).1, (fun _ h => by cases h)⟩)
    have v24 : ev (.tmp 24) = (.int .i64 1) := (hd 5 (by decide)).2.trans (hV 5 (by decide) (hd 5 (by decide)).1)
    refine ifw rfl (ifw rfl ⟨.bool false, fun w9 => ?_, VVs.add hV rfl, hcl, hw⟩)
    have e1 := hE.const; have e2 := hE.func; clear hE hd hw hS hV hK hcl
    show _ = Result.ok (Next.value (.bool false)) w9
    go_simp
  · rintro ev wv S val hE ⟨hV, hK, hw⟩ hS hd
    have hcl := Clo.add hK (i := 7) (List.forall_mem_cons.2 ⟨(hd 6 (by decide)).1, (fun _ h => by cases h)⟩)
    have v25 : ev (.tmp 25) = (.bool false) := (hd 6 (by decide)).2.trans (hV 6 (by decide) (hd 6 (by decide)).1)
    refine ifw rfl (ifw rfl ⟨.bool false, fun w9 => ?_, VVs.add hV rfl, hcl, hw⟩)
    have e1 := hE.const; have e2 := hE.func; clear hE hd hw hS hV hK hcl
    show _ = Result.ok (Next.value (.bool false)) w9
    go_simp
  · rintro ev wv S val hE ⟨hV, hK, hw⟩ hS hd
    have vg : ev (.tmp 26) = (.bool false) := (hd 7 (by decide)).2.trans (hV 7 (by decide) (hd 7 (by decide)).1)
    have hcl := Clo.add hK (i := 8) (List.forall_mem_cons.2 ⟨(hd 7 (by decide)).1, (fun _ h => by cases h)⟩)
    have v8 : ev (.tmp 8) = .pointer none := hE.tmp 8 rfl
    refine ifw (by show (yv (ev (.tmp 26)) == some false) = true; rw [vg]; rfl) (ifw rfl ⟨.pointer none, fun w9 => ?_, VVs.add hV rfl, hcl, hw⟩)
    clear vg
    have e1 := hE.const; have e2 := hE.func; clear hE hd hw hS hV hK hcl
    show _ = Result.ok (Next.value (.pointer none)) w9
    go_simp
  · rintro ev wv S val hE ⟨hV, hK, hw⟩ hS hd
    have vg : ev (.tmp 26) = (.bool false) := (hd 7 (by decide)).2.trans (hV 7 (by decide) (hd 7 (by decide)).1)
    have hcl := Clo.add hK (i := 9) (List.forall_mem_cons.2 ⟨(hd 7 (by decide)).1, (fun _ h => by cases h)⟩)
    have v1 : ev (.tmp 1) = .int .i64 day := hE.tmp 1 rfl
    refine ifw (by show (yv (ev (.tmp 26)) == some false) = true; rw [vg]; rfl) (ifw rfl ⟨.int .i64 day, fun w9 => ?_, VVs.add hV rfl, hcl, hw⟩)
    clear vg
    have e1 := hE.const; have e2 := hE.func; clear hE hd hw hS hV hK hcl
    show _ = Result.ok (Next.value (.int .i64 day)) w9
    go_simp
  · rintro ev wv S val hE ⟨hV, hK, hw⟩ hS hd
    have vg : ev (.tmp 26) = (.bool false) := (hd 7 (by decide)).2.trans (hV 7 (by decide) (hd 7 (by decide)).1)
    have hcl := Clo.add hK (i := 10) (List.forall_mem_cons.2 ⟨(hd 7 (by decide)).1, List.forall_mem_cons.2 ⟨(hd 8 (by decide)).1, List.forall_mem_cons.2 ⟨(hd 9 (by decide)).1, (fun _ h => by cases h)⟩⟩⟩)
    have v27 : ev (.tmp 27) = (.pointer none) := (hd 8 (by decide)).2.trans (hV 8 (by decide) (hd 8 (by decide)).1)
    have v28 : ev (.tmp 28) = (.int .i64 day) := (hd 9 (by decide)).2.trans (hV 9 (by decide) (hd 9 (by decide)).1)
    obtain ⟨G, hn⟩ := sepn HV.out hw.1 (i := 3) rfl
    refine ifw (by show (yv (ev (.tmp 26)) == some false) = true; rw [vg]; rfl) (ifn rfl ?_)
    clear vg
    refine set_call (f := 16) (args := #[.pointer none, .int .i64 day]) ?_ (HV.out.at_ _ (.pointer none) G day hn) ?_
    · have e0 := hE.func; have e1 := hE.const; clear hE hd hw hS hV hK hcl
      go_simp
    · rintro e w' ⟨rfl, hb⟩
      exact ⟨_, rfl, VVs.add hV (rfl), hcl, hw.keep hb⟩
  · rintro ev wv S val hE ⟨hV, hK, hw⟩ hS hd
    have vg : ev (.tmp 26) = (.bool false) := (hd 7 (by decide)).2.trans (hV 7 (by decide) (hd 7 (by decide)).1)
    have hcl := Clo.add hK (i := 11) (List.forall_mem_cons.2 ⟨(hd 7 (by decide)).1, List.forall_mem_cons.2 ⟨(hd 10 (by decide)).1, (fun _ h => by cases h)⟩⟩)
    have v29 : ev (.tmp 29) = (.int .i64 0) := (hd 10 (by decide)).2.trans (hV 10 (by decide) (hd 10 (by decide)).1)
    refine ifw (by show (yv (ev (.tmp 26)) == some false) = true; rw [vg]; rfl) (ifw rfl ⟨.bool false, fun w9 => ?_, VVs.add hV rfl, hcl, hw⟩)
    clear vg
    have e1 := hE.const; have e2 := hE.func; clear hE hd hw hS hV hK hcl
    show _ = Result.ok (Next.value (.bool false)) w9
    go_simp
  · rintro ev wv S val hE ⟨hV, hK, hw⟩ hS hd
    have hcl := Clo.add hK (i := 12) (List.forall_mem_cons.2 ⟨(hd 7 (by decide)).1, List.forall_mem_cons.2 ⟨(hd 11 (by decide)).1, (fun _ h => by cases h)⟩⟩)
    have v26 : ev (.tmp 26) = (.bool false) := (hd 7 (by decide)).2.trans (hV 7 (by decide) (hd 7 (by decide)).1)
    have v30 : ev (.tmp 30) = (.bool false) := (hd 11 (by decide)).2.trans (hV 11 (by decide) (hd 11 (by decide)).1)
    refine ifw rfl (ifw rfl ⟨.bool false, fun w9 => ?_, VVs.add hV rfl, hcl, hw⟩)
    have e1 := hE.const; have e2 := hE.func; clear hE hd hw hS hV hK hcl
    show _ = Result.ok (Next.value (.bool false)) w9
    go_simp
  · rintro ev wv S val hE ⟨hV, hK, hw⟩ hS hd
    have hcl := Clo.add hK (i := 13) (List.forall_mem_cons.2 ⟨(hd 12 (by decide)).1, (fun _ h => by cases h)⟩)
    have v31 : ev (.tmp 31) = (.bool false) := (hd 12 (by decide)).2.trans (hV 12 (by decide) (hd 12 (by decide)).1)
    refine ifw rfl (ifw rfl ⟨.bool false, fun w9 => ?_, VVs.add hV rfl, hcl, hw⟩)
    have e1 := hE.const; have e2 := hE.func; clear hE hd hw hS hV hK hcl
    show _ = Result.ok (Next.value (.bool false)) w9
    go_simp
  · rintro ev wv S val hE ⟨hV, hK, hw⟩ hS hd
    have vg : ev (.tmp 32) = (.bool false) := (hd 13 (by decide)).2.trans (hV 13 (by decide) (hd 13 (by decide)).1)
    have hcl := Clo.add hK (i := 14) (List.forall_mem_cons.2 ⟨(hd 13 (by decide)).1, (fun _ h => by cases h)⟩)
    have v8 : ev (.tmp 8) = .pointer none := hE.tmp 8 rfl
    refine ifw (by show (yv (ev (.tmp 32)) == some false) = true; rw [vg]; rfl) (ifw rfl ⟨.pointer none, fun w9 => ?_, VVs.add hV rfl, hcl, hw⟩)
    clear vg
    have e1 := hE.const; have e2 := hE.func; clear hE hd hw hS hV hK hcl
    show _ = Result.ok (Next.value (.pointer none)) w9
    go_simp
  · rintro ev wv S val hE ⟨hV, hK, hw⟩ hS hd
    have vg : ev (.tmp 32) = (.bool false) := (hd 13 (by decide)).2.trans (hV 13 (by decide) (hd 13 (by decide)).1)
    have hcl := Clo.add hK (i := 15) (List.forall_mem_cons.2 ⟨(hd 13 (by decide)).1, (fun _ h => by cases h)⟩)
    have v2 : ev (.tmp 2) = .pointer (some ⟨w.heap.size, 0, none⟩) := hE.tmp 2 rfl
    refine ifw (by show (yv (ev (.tmp 32)) == some false) = true; rw [vg]; rfl) (ifw rfl ⟨.pointer (some ⟨w.heap.size, 0, none⟩), fun w9 => ?_, VVs.add hV rfl, hcl, hw⟩)
    clear vg
    have e1 := hE.const; have e2 := hE.func; clear hE hd hw hS hV hK hcl
    show _ = Result.ok (Next.value (.pointer (some ⟨w.heap.size, 0, none⟩))) w9
    go_simp
  · rintro ev wv S val hE ⟨hV, hK, hw⟩ hS hd
    have vg : ev (.tmp 32) = (.bool false) := (hd 13 (by decide)).2.trans (hV 13 (by decide) (hd 13 (by decide)).1)
    have hcl := Clo.add hK (i := 16) (List.forall_mem_cons.2 ⟨(hd 13 (by decide)).1, List.forall_mem_cons.2 ⟨(hd 15 (by decide)).1, (fun _ h => by cases h)⟩⟩)
    have v34 : ev (.tmp 34) = (.pointer (some ⟨w.heap.size, 0, none⟩)) := (hd 15 (by decide)).2.trans (hV 15 (by decide) (hd 15 (by decide)).1)
    have B := Sep.b hw.1 0 rfl
    have kx := B.get 0 rfl; have ky := B.get 1 rfl
    clear B
    refine ifw (by show (yv (ev (.tmp 32)) == some false) = true; rw [vg]; rfl) (ifn rfl ?_)
    clear vg
    refine set_val (u := .agg #[.int .i64 a, .int .i64 b]) (w' := wv) ?_ ⟨VVs.add hV rfl, hcl, hw⟩
    have e1 := hE.const; clear hE hd hw hS hV hK hcl
    go_simp
  · rintro ev wv S val hE ⟨hV, hK, hw⟩ hS hd
    have vg : ev (.tmp 32) = (.bool false) := (hd 13 (by decide)).2.trans (hV 13 (by decide) (hd 13 (by decide)).1)
    have hcl := Clo.add hK (i := 17) (List.forall_mem_cons.2 ⟨(hd 13 (by decide)).1, List.forall_mem_cons.2 ⟨(hd 14 (by decide)).1, List.forall_mem_cons.2 ⟨(hd 16 (by decide)).1, (fun _ h => by cases h)⟩⟩⟩)
    have v33 : ev (.tmp 33) = (.pointer none) := (hd 14 (by decide)).2.trans (hV 14 (by decide) (hd 14 (by decide)).1)
    have v35 : ev (.tmp 35) = (.agg #[.int .i64 a, .int .i64 b]) := (hd 16 (by decide)).2.trans (hV 16 (by decide) (hd 16 (by decide)).1)
    obtain ⟨G, hn⟩ := sepn HV.out hw.1 (i := 3) rfl
    refine ifw (by show (yv (ev (.tmp 32)) == some false) = true; rw [vg]; rfl) (ifn rfl ?_)
    clear vg
    refine set_call (f := 12) (args := #[.pointer none, .agg #[.int .i64 a, .int .i64 b]]) ?_ (HV.out.segs _ (.pointer none) G a b hn) ?_
    · have e0 := hE.func; have e1 := hE.const; clear hE hd hw hS hV hK hcl
      go_simp
    · rintro e w' ⟨A, c, rfl, hb⟩
      exact ⟨_, rfl, VVs.add hV (⟨A, c, rfl⟩), hcl, hw.keep hb⟩
  · rintro ev wv S val hE ⟨hV, hK, hw⟩ hS hd
    have vg : ev (.tmp 32) = (.bool false) := (hd 13 (by decide)).2.trans (hV 13 (by decide) (hd 13 (by decide)).1)
    have hcl := Clo.add hK (i := 18) (List.forall_mem_cons.2 ⟨(hd 13 (by decide)).1, List.forall_mem_cons.2 ⟨(hd 17 (by decide)).1, (fun _ h => by cases h)⟩⟩)
    obtain ⟨A17, c17, g17⟩ := hV 17 (by decide) (hd 17 (by decide)).1
    have v36 : ev (.tmp 36) = .slice A17 0 c17 := (hd 17 (by decide)).2.trans g17
    refine ifw (by show (yv (ev (.tmp 32)) == some false) = true; rw [vg]; rfl) (ifw rfl ⟨.int .i64 0, fun w9 => ?_, VVs.add hV rfl, hcl, hw⟩)
    clear vg
    have e1 := hE.const; have e2 := hE.func; clear hE hd hw hS hV hK hcl
    show _ = Result.ok (Next.value (.int .i64 0)) w9
    go_simp
  · rintro ev wv S val hE ⟨hV, hK, hw⟩ hS hd
    have vg : ev (.tmp 32) = (.bool false) := (hd 13 (by decide)).2.trans (hV 13 (by decide) (hd 13 (by decide)).1)
    have hcl := Clo.add hK (i := 19) (List.forall_mem_cons.2 ⟨(hd 13 (by decide)).1, (fun _ h => by cases h)⟩)
    have v8 : ev (.tmp 8) = .pointer none := hE.tmp 8 rfl
    refine ifw (by show (yv (ev (.tmp 32)) == some false) = true; rw [vg]; rfl) (ifw rfl ⟨.pointer none, fun w9 => ?_, VVs.add hV rfl, hcl, hw⟩)
    clear vg
    have e1 := hE.const; have e2 := hE.func; clear hE hd hw hS hV hK hcl
    show _ = Result.ok (Next.value (.pointer none)) w9
    go_simp
  · rintro ev wv S val hE ⟨hV, hK, hw⟩ hS hd
    have vg : ev (.tmp 32) = (.bool false) := (hd 13 (by decide)).2.trans (hV 13 (by decide) (hd 13 (by decide)).1)
    have hcl := Clo.add hK (i := 20) (List.forall_mem_cons.2 ⟨(hd 13 (by decide)).1, (fun _ h => by cases h)⟩)
    have v2 : ev (.tmp 2) = .pointer (some ⟨w.heap.size, 0, none⟩) := hE.tmp 2 rfl
    refine ifw (by show (yv (ev (.tmp 32)) == some false) = true; rw [vg]; rfl) (ifw rfl ⟨.pointer (some ⟨w.heap.size, 0, none⟩), fun w9 => ?_, VVs.add hV rfl, hcl, hw⟩)
    clear vg
    have e1 := hE.const; have e2 := hE.func; clear hE hd hw hS hV hK hcl
    show _ = Result.ok (Next.value (.pointer (some ⟨w.heap.size, 0, none⟩))) w9
    go_simp
  · rintro ev wv S val hE ⟨hV, hK, hw⟩ hS hd
    have vg : ev (.tmp 32) = (.bool false) := (hd 13 (by decide)).2.trans (hV 13 (by decide) (hd 13 (by decide)).1)
    have hcl := Clo.add hK (i := 21) (List.forall_mem_cons.2 ⟨(hd 13 (by decide)).1, List.forall_mem_cons.2 ⟨(hd 20 (by decide)).1, (fun _ h => by cases h)⟩⟩)
    have v39 : ev (.tmp 39) = (.pointer (some ⟨w.heap.size, 0, none⟩)) := (hd 20 (by decide)).2.trans (hV 20 (by decide) (hd 20 (by decide)).1)
    have B := Sep.b hw.1 0 rfl
    have kx := B.get 0 rfl; have ky := B.get 1 rfl
    clear B
    refine ifw (by show (yv (ev (.tmp 32)) == some false) = true; rw [vg]; rfl) (ifn rfl ?_)
    clear vg
    refine set_val (u := .agg #[.int .i64 a, .int .i64 b]) (w' := wv) ?_ ⟨VVs.add hV rfl, hcl, hw⟩
    have e1 := hE.const; clear hE hd hw hS hV hK hcl
    go_simp
  · rintro ev wv S val hE ⟨hV, hK, hw⟩ hS hd
    have vg : ev (.tmp 32) = (.bool false) := (hd 13 (by decide)).2.trans (hV 13 (by decide) (hd 13 (by decide)).1)
    have hcl := Clo.add hK (i := 22) (List.forall_mem_cons.2 ⟨(hd 13 (by decide)).1, List.forall_mem_cons.2 ⟨(hd 19 (by decide)).1, List.forall_mem_cons.2 ⟨(hd 21 (by decide)).1, (fun _ h => by cases h)⟩⟩⟩)
    have v38 : ev (.tmp 38) = (.pointer none) := (hd 19 (by decide)).2.trans (hV 19 (by decide) (hd 19 (by decide)).1)
    have v40 : ev (.tmp 40) = (.agg #[.int .i64 a, .int .i64 b]) := (hd 21 (by decide)).2.trans (hV 21 (by decide) (hd 21 (by decide)).1)
    obtain ⟨G, hn⟩ := sepn HV.out hw.1 (i := 3) rfl
    refine ifw (by show (yv (ev (.tmp 32)) == some false) = true; rw [vg]; rfl) (ifn rfl ?_)
    clear vg
    refine set_call (f := 14) (args := #[.pointer none, .agg #[.int .i64 a, .int .i64 b]]) ?_ (HV.out.ends _ (.pointer none) G a b hn) ?_
    · have e0 := hE.func; have e1 := hE.const; clear hE hd hw hS hV hK hcl
      go_simp
    · rintro e w' ⟨A, c, rfl, hb⟩
      exact ⟨_, rfl, VVs.add hV (⟨A, c, rfl⟩), hcl, hw.keep hb⟩
  · rintro ev wv S val hE ⟨hV, hK, hw⟩ hS hd
    have vg : ev (.tmp 32) = (.bool false) := (hd 13 (by decide)).2.trans (hV 13 (by decide) (hd 13 (by decide)).1)
    have hcl := Clo.add hK (i := 23) (List.forall_mem_cons.2 ⟨(hd 13 (by decide)).1, List.forall_mem_cons.2 ⟨(hd 22 (by decide)).1, (fun _ h => by cases h)⟩⟩)
    obtain ⟨A22, c22, g22⟩ := hV 22 (by decide) (hd 22 (by decide)).1
    have v41 : ev (.tmp 41) = .slice A22 0 c22 := (hd 22 (by decide)).2.trans g22
    refine ifw (by show (yv (ev (.tmp 32)) == some false) = true; rw [vg]; rfl) (ifw rfl ⟨.int .i64 0, fun w9 => ?_, VVs.add hV rfl, hcl, hw⟩)
    clear vg
    have e1 := hE.const; have e2 := hE.func; clear hE hd hw hS hV hK hcl
    show _ = Result.ok (Next.value (.int .i64 0)) w9
    go_simp
  · rintro ev wv S val hE ⟨hV, hK, hw⟩ hS hd
    have vg : ev (.tmp 32) = (.bool false) := (hd 13 (by decide)).2.trans (hV 13 (by decide) (hd 13 (by decide)).1)
    have hcl := Clo.add hK (i := 24) (List.forall_mem_cons.2 ⟨(hd 13 (by decide)).1, List.forall_mem_cons.2 ⟨(hd 18 (by decide)).1, List.forall_mem_cons.2 ⟨(hd 23 (by decide)).1, (fun _ h => by cases h)⟩⟩⟩)
    have v37 : ev (.tmp 37) = (.int .i64 0) := (hd 18 (by decide)).2.trans (hV 18 (by decide) (hd 18 (by decide)).1)
    have v42 : ev (.tmp 42) = (.int .i64 0) := (hd 23 (by decide)).2.trans (hV 23 (by decide) (hd 23 (by decide)).1)
    refine ifw (by show (yv (ev (.tmp 32)) == some false) = true; rw [vg]; rfl) (ifw rfl ⟨.int .i64 0, fun w9 => ?_, VVs.add hV rfl, hcl, hw⟩)
    clear vg
    have e1 := hE.const; have e2 := hE.func; clear hE hd hw hS hV hK hcl
    have hw0 : IntKind.i64.wrap 0 = 0 := rfl
    show _ = Result.ok (Next.value (.int .i64 0)) w9
    go_simp
  · rintro ev wv S val hE ⟨hV, hK, hw⟩ hS hd
    have vg : ev (.tmp 32) = (.bool false) := (hd 13 (by decide)).2.trans (hV 13 (by decide) (hd 13 (by decide)).1)
    have hcl := Clo.add hK (i := 25) (List.forall_mem_cons.2 ⟨(hd 13 (by decide)).1, (fun _ h => by cases h)⟩)
    have v8 : ev (.tmp 8) = .pointer none := hE.tmp 8 rfl
    refine ifw (by show (yv (ev (.tmp 32)) == some false) = true; rw [vg]; rfl) (ifw rfl ⟨.pointer none, fun w9 => ?_, VVs.add hV rfl, hcl, hw⟩)
    clear vg
    have e1 := hE.const; have e2 := hE.func; clear hE hd hw hS hV hK hcl
    show _ = Result.ok (Next.value (.pointer none)) w9
    go_simp
  · rintro ev wv S val hE ⟨hV, hK, hw⟩ hS hd
    have vg : ev (.tmp 32) = (.bool false) := (hd 13 (by decide)).2.trans (hV 13 (by decide) (hd 13 (by decide)).1)
    have hcl := Clo.add hK (i := 26) (List.forall_mem_cons.2 ⟨(hd 13 (by decide)).1, List.forall_mem_cons.2 ⟨(hd 25 (by decide)).1, (fun _ h => by cases h)⟩⟩)
    have v44 : ev (.tmp 44) = (.pointer none) := (hd 25 (by decide)).2.trans (hV 25 (by decide) (hd 25 (by decide)).1)
    obtain ⟨G, hn⟩ := sepn HV.out hw.1 (i := 3) rfl
    refine ifw (by show (yv (ev (.tmp 32)) == some false) = true; rw [vg]; rfl) (ifn rfl ?_)
    clear vg
    refine set_call (f := 18) (args := #[.pointer none]) ?_ (HV.out.pieces _ (.pointer none) G hn) ?_
    · have e0 := hE.func; have e1 := hE.const; clear hE hd hw hS hV hK hcl
      go_simp
    · rintro e w' ⟨rfl, hb⟩
      exact ⟨_, rfl, VVs.add hV (rfl), hcl, hw.keep hb⟩
  · rintro ev wv S val hE ⟨hV, hK, hw⟩ hS hd
    have vg : ev (.tmp 32) = (.bool false) := (hd 13 (by decide)).2.trans (hV 13 (by decide) (hd 13 (by decide)).1)
    have hcl := Clo.add hK (i := 27) (List.forall_mem_cons.2 ⟨(hd 13 (by decide)).1, List.forall_mem_cons.2 ⟨(hd 24 (by decide)).1, List.forall_mem_cons.2 ⟨(hd 26 (by decide)).1, (fun _ h => by cases h)⟩⟩⟩)
    have v43 : ev (.tmp 43) = (.int .i64 0) := (hd 24 (by decide)).2.trans (hV 24 (by decide) (hd 24 (by decide)).1)
    have v45 : ev (.tmp 45) = (.int .i64 0) := (hd 26 (by decide)).2.trans (hV 26 (by decide) (hd 26 (by decide)).1)
    refine ifw (by show (yv (ev (.tmp 32)) == some false) = true; rw [vg]; rfl) (ifw rfl ⟨.int .i64 0, fun w9 => ?_, VVs.add hV rfl, hcl, hw⟩)
    clear vg
    have e1 := hE.const; have e2 := hE.func; clear hE hd hw hS hV hK hcl
    have hw0 : IntKind.i64.wrap 0 = 0 := rfl
    show _ = Result.ok (Next.value (.int .i64 0)) w9
    go_simp
  · rintro ev wv S val hE ⟨hV, hK, hw⟩ hS hd
    have vg : ev (.tmp 32) = (.bool false) := (hd 13 (by decide)).2.trans (hV 13 (by decide) (hd 13 (by decide)).1)
    have hcl := Clo.add hK (i := 28) (List.forall_mem_cons.2 ⟨(hd 13 (by decide)).1, List.forall_mem_cons.2 ⟨(hd 27 (by decide)).1, (fun _ h => by cases h)⟩⟩)
    have v46 : ev (.tmp 46) = (.int .i64 0) := (hd 27 (by decide)).2.trans (hV 27 (by decide) (hd 27 (by decide)).1)
    refine ifw (by show (yv (ev (.tmp 32)) == some false) = true; rw [vg]; rfl) (ifw rfl ⟨.bool false, fun w9 => ?_, VVs.add hV rfl, hcl, hw⟩)
    clear vg
    have e1 := hE.const; have e2 := hE.func; clear hE hd hw hS hV hK hcl
    show _ = Result.ok (Next.value (.bool false)) w9
    go_simp
  · rintro ev wv S val hE ⟨hV, hK, hw⟩ hS hd
    have hcl := Clo.add hK (i := 29) (List.forall_mem_cons.2 ⟨(hd 13 (by decide)).1, List.forall_mem_cons.2 ⟨(hd 28 (by decide)).1, (fun _ h => by cases h)⟩⟩)
    have v32 : ev (.tmp 32) = (.bool false) := (hd 13 (by decide)).2.trans (hV 13 (by decide) (hd 13 (by decide)).1)
    have v47 : ev (.tmp 47) = (.bool false) := (hd 28 (by decide)).2.trans (hV 28 (by decide) (hd 28 (by decide)).1)
    refine ifw rfl (ifw rfl ⟨.bool false, fun w9 => ?_, VVs.add hV rfl, hcl, hw⟩)
    have e1 := hE.const; have e2 := hE.func; clear hE hd hw hS hV hK hcl
    show _ = Result.ok (Next.value (.bool false)) w9
    go_simp
  · rintro ev wv S val hE ⟨hV, hK, hw⟩ hS hd
    have hcl := Clo.add hK (i := 30) (List.forall_mem_cons.2 ⟨(hd 29 (by decide)).1, (fun _ h => by cases h)⟩)
    have v48 : ev (.tmp 48) = (.bool false) := (hd 29 (by decide)).2.trans (hV 29 (by decide) (hd 29 (by decide)).1)
    refine ifw rfl (ifw rfl ⟨.bool false, fun w9 => ?_, VVs.add hV rfl, hcl, hw⟩)
    have e1 := hE.const; have e2 := hE.func; clear hE hd hw hS hV hK hcl
    show _ = Result.ok (Next.value (.bool false)) w9
    go_simp
  · rintro ev wv S val hE ⟨hV, hK, hw⟩ hS hd
    have vg : ev (.tmp 49) = (.bool false) := (hd 30 (by decide)).2.trans (hV 30 (by decide) (hd 30 (by decide)).1)
    have hcl := Clo.add hK (i := 31) (List.forall_mem_cons.2 ⟨(hd 30 (by decide)).1, (fun _ h => by cases h)⟩)
    have v9 : ev (.tmp 9) = .pointer (some qc0) := hE.tmp 9 rfl
    refine ifw (by show (yv (ev (.tmp 49)) == some false) = true; rw [vg]; rfl) (ifw rfl ⟨.pointer (some qc0), fun w9 => ?_, VVs.add hV rfl, hcl, hw⟩)
    clear vg
    have e1 := hE.const; have e2 := hE.func; clear hE hd hw hS hV hK hcl
    show _ = Result.ok (Next.value (.pointer (some qc0))) w9
    go_simp
  · rintro ev wv S val hE ⟨hV, hK, hw⟩ hS hd
    have vg : ev (.tmp 49) = (.bool false) := (hd 30 (by decide)).2.trans (hV 30 (by decide) (hd 30 (by decide)).1)
    have hcl := Clo.add hK (i := 32) (List.forall_mem_cons.2 ⟨(hd 30 (by decide)).1, List.forall_mem_cons.2 ⟨(hd 31 (by decide)).1, (fun _ h => by cases h)⟩⟩)
    have v50 : ev (.tmp 50) = (.pointer (some qc0)) := (hd 31 (by decide)).2.trans (hV 31 (by decide) (hd 31 (by decide)).1)
    refine ifw (by show (yv (ev (.tmp 49)) == some false) = true; rw [vg]; rfl) (ifw rfl ⟨.bool false, fun w9 => ?_, VVs.add hV rfl, hcl, hw⟩)
    clear vg
    have e1 := hE.const; have e2 := hE.func; clear hE hd hw hS hV hK hcl
    show _ = Result.ok (Next.value (.bool false)) w9
    go_simp
  · rintro ev wv S val hE ⟨hV, hK, hw⟩ hS hd
    have hcl := Clo.add hK (i := 33) (List.forall_mem_cons.2 ⟨(hd 30 (by decide)).1, List.forall_mem_cons.2 ⟨(hd 32 (by decide)).1, (fun _ h => by cases h)⟩⟩)
    have v49 : ev (.tmp 49) = (.bool false) := (hd 30 (by decide)).2.trans (hV 30 (by decide) (hd 30 (by decide)).1)
    have v51 : ev (.tmp 51) = (.bool false) := (hd 32 (by decide)).2.trans (hV 32 (by decide) (hd 32 (by decide)).1)
    refine ifw rfl (ifw rfl ⟨.bool false, fun w9 => ?_, VVs.add hV rfl, hcl, hw⟩)
    have e1 := hE.const; have e2 := hE.func; clear hE hd hw hS hV hK hcl
    show _ = Result.ok (Next.value (.bool false)) w9
    go_simp
  · rintro ev wv S val hE ⟨hV, hK, hw⟩ hS hd
    have hcl := Clo.add hK (i := 34) (List.forall_mem_cons.2 ⟨(hd 33 (by decide)).1, (fun _ h => by cases h)⟩)
    have v52 : ev (.tmp 52) = (.bool false) := (hd 33 (by decide)).2.trans (hV 33 (by decide) (hd 33 (by decide)).1)
    refine ifw rfl (ifw rfl ⟨.bool false, fun w9 => ?_, VVs.add hV rfl, hcl, hw⟩)
    have e1 := hE.const; have e2 := hE.func; clear hE hd hw hS hV hK hcl
    show _ = Result.ok (Next.value (.bool false)) w9
    go_simp
  · rintro ev wv S val hE ⟨hV, hK, hw⟩ hS hd
    have vg : ev (.tmp 53) = (.bool false) := (hd 34 (by decide)).2.trans (hV 34 (by decide) (hd 34 (by decide)).1)
    have hcl := Clo.add hK (i := 35) (List.forall_mem_cons.2 ⟨(hd 34 (by decide)).1, (fun _ h => by cases h)⟩)
    have v9 : ev (.tmp 9) = .pointer (some qc0) := hE.tmp 9 rfl
    refine ifw (by show (yv (ev (.tmp 53)) == some false) = true; rw [vg]; rfl) (ifw rfl ⟨.pointer (some qc0), fun w9 => ?_, VVs.add hV rfl, hcl, hw⟩)
    clear vg
    have e1 := hE.const; have e2 := hE.func; clear hE hd hw hS hV hK hcl
    show _ = Result.ok (Next.value (.pointer (some qc0))) w9
    go_simp
  · rintro ev wv S val hE ⟨hV, hK, hw⟩ hS hd
    have vg : ev (.tmp 53) = (.bool false) := (hd 34 (by decide)).2.trans (hV 34 (by decide) (hd 34 (by decide)).1)
    have hcl := Clo.add hK (i := 36) (List.forall_mem_cons.2 ⟨(hd 34 (by decide)).1, (fun _ h => by cases h)⟩)
    have v8 : ev (.tmp 8) = .pointer none := hE.tmp 8 rfl
    refine ifw (by show (yv (ev (.tmp 53)) == some false) = true; rw [vg]; rfl) (ifw rfl ⟨.pointer none, fun w9 => ?_, VVs.add hV rfl, hcl, hw⟩)
    clear vg
    have e1 := hE.const; have e2 := hE.func; clear hE hd hw hS hV hK hcl
    show _ = Result.ok (Next.value (.pointer none)) w9
    go_simp
  · rintro ev wv S val hE ⟨hV, hK, hw⟩ hS hd
    have vg : ev (.tmp 53) = (.bool false) := (hd 34 (by decide)).2.trans (hV 34 (by decide) (hd 34 (by decide)).1)
    have hcl := Clo.add hK (i := 37) (List.forall_mem_cons.2 ⟨(hd 34 (by decide)).1, List.forall_mem_cons.2 ⟨(hd 35 (by decide)).1, List.forall_mem_cons.2 ⟨(hd 36 (by decide)).1, (fun _ h => by cases h)⟩⟩⟩)
    have v54 : ev (.tmp 54) = (.pointer (some qc0)) := (hd 35 (by decide)).2.trans (hV 35 (by decide) (hd 35 (by decide)).1)
    have v55 : ev (.tmp 55) = (.pointer none) := (hd 36 (by decide)).2.trans (hV 36 (by decide) (hd 36 (by decide)).1)
    have s49 : S 49 = false := by
      cases h0 : S 49 with
      | false => rfl
      | true =>
        have q46 := hK 49 h0 46 (by decide)
        have q45 := hK 46 q46 45 (by decide)
        have q40 := hK 45 q45 40 (by decide)
        have q39 := hK 40 q40 39 (by decide)
        have q38 := hK 39 q39 38 (by decide)
        have q37 := hK 38 q38 37 (by decide)
        exact absurd q37 (by rw [hS]; decide)
    have hw1 : NoneD HK.out HV.out w [blkT w.heap.size #[.int .i64 a, .int .i64 b, .int .i64 v], nilT HV.out (.pointer (some ⟨w.heap.size + 1, 0, none⟩)), blkT (w.heap.size + 2) #[.pointer none, .pointer (some ⟨w.heap.size + 1, 0, none⟩)], nilT HV.out (.pointer none)] (.pointer (some qc0)) false (S 42) (val 42) wv := by have h := hw; rw [s49] at h; exact h
    refine ifw (by show (yv (ev (.tmp 53)) == some false) = true; rw [vg]; rfl) (ifn rfl ?_)
    clear vg
    refine set_call (f := 21) (args := #[.pointer (some qc0), .pointer none]) ?_ (sepn_same1 HK.out HV.out hw1.1 (i := 3) rfl (j := 4) rfl (by decide)) ?_
    · have e0 := hE.func; have e1 := hE.const; clear hE hd hw hS hV hK hcl
      go_simp
    · rintro e w' ⟨l1, l2, h1, h2, rfl, hb⟩
      exact ⟨_, rfl, VVs.add hV (by rw [segF_one h1 h2, decide_eq_true rfl]; rfl), hcl, hw.keep hb⟩
  · rintro ev wv S val hE ⟨hV, hK, hw⟩ hS hd
    have vg : ev (.tmp 53) = (.bool false) := (hd 34 (by decide)).2.trans (hV 34 (by decide) (hd 34 (by decide)).1)
    have hcl := Clo.add hK (i := 38) (List.forall_mem_cons.2 ⟨(hd 34 (by decide)).1, List.forall_mem_cons.2 ⟨(hd 37 (by decide)).1, (fun _ h => by cases h)⟩⟩)
    have v56 : ev (.tmp 56) = (.bool true) := (hd 37 (by decide)).2.trans (hV 37 (by decide) (hd 37 (by decide)).1)
    refine ifw (by show (yv (ev (.tmp 53)) == some false) = true; rw [vg]; rfl) (ifw rfl ⟨.bool false, fun w9 => ?_, VVs.add hV rfl, hcl, hw⟩)
    clear vg
    have e1 := hE.const; have e2 := hE.func; clear hE hd hw hS hV hK hcl
    show _ = Result.ok (Next.value (.bool false)) w9
    go_simp
  · rintro ev wv S val hE ⟨hV, hK, hw⟩ hS hd
    have hcl := Clo.add hK (i := 39) (List.forall_mem_cons.2 ⟨(hd 34 (by decide)).1, List.forall_mem_cons.2 ⟨(hd 38 (by decide)).1, (fun _ h => by cases h)⟩⟩)
    have v53 : ev (.tmp 53) = (.bool false) := (hd 34 (by decide)).2.trans (hV 34 (by decide) (hd 34 (by decide)).1)
    have v57 : ev (.tmp 57) = (.bool false) := (hd 38 (by decide)).2.trans (hV 38 (by decide) (hd 38 (by decide)).1)
    refine ifw rfl (ifw rfl ⟨.bool false, fun w9 => ?_, VVs.add hV rfl, hcl, hw⟩)
    have e1 := hE.const; have e2 := hE.func; clear hE hd hw hS hV hK hcl
    show _ = Result.ok (Next.value (.bool false)) w9
    go_simp
  · rintro ev wv S val hE ⟨hV, hK, hw⟩ hS hd
    have hcl := Clo.add hK (i := 40) (List.forall_mem_cons.2 ⟨(hd 39 (by decide)).1, (fun _ h => by cases h)⟩)
    have v58 : ev (.tmp 58) = (.bool false) := (hd 39 (by decide)).2.trans (hV 39 (by decide) (hd 39 (by decide)).1)
    refine ifw rfl (ifw rfl ⟨.bool false, fun w9 => ?_, VVs.add hV rfl, hcl, hw⟩)
    have e1 := hE.const; have e2 := hE.func; clear hE hd hw hS hV hK hcl
    show _ = Result.ok (Next.value (.bool false)) w9
    go_simp
  · rintro ev wv S val hE ⟨hV, hK, hw⟩ hS hd
    have vg : ev (.tmp 59) = (.bool false) := (hd 40 (by decide)).2.trans (hV 40 (by decide) (hd 40 (by decide)).1)
    have hcl := Clo.add hK (i := 41) (List.forall_mem_cons.2 ⟨(hd 40 (by decide)).1, (fun _ h => by cases h)⟩)
    have v8 : ev (.tmp 8) = .pointer none := hE.tmp 8 rfl
    refine ifw (by show (yv (ev (.tmp 59)) == some false) = true; rw [vg]; rfl) (ifw rfl ⟨.pointer none, fun w9 => ?_, VVs.add hV rfl, hcl, hw⟩)
    clear vg
    have e1 := hE.const; have e2 := hE.func; clear hE hd hw hS hV hK hcl
    show _ = Result.ok (Next.value (.pointer none)) w9
    go_simp
  · rintro ev wv S val hE ⟨hV, hK, hw⟩ hS hd
    have vg : ev (.tmp 59) = (.bool false) := (hd 40 (by decide)).2.trans (hV 40 (by decide) (hd 40 (by decide)).1)
    have hcl := Clo.add hK (i := 42) (List.forall_mem_cons.2 ⟨(hd 40 (by decide)).1, (fun _ h => by cases h)⟩)
    refine ifw (by show (yv (ev (.tmp 59)) == some false) = true; rw [vg]; rfl) (ifn rfl ?_)
    clear vg
    refine set_call (f := 9) (args := #[]) ?_ (HK.out.make _) ?_
    · have e0 := hE.func; have e1 := hE.const; clear hE hd hw hS hV hK hcl
      go_simp
    · rintro e w' ⟨q, G, rfl, hr, hb, hG⟩
      exact ⟨_, rfl, VVs.add hV (⟨q, rfl⟩), hcl, ⟨hw.1.keep hb, fun _ _ => ⟨q, G, rfl, hr⟩⟩⟩
  · rintro ev wv S val hE ⟨hV, hK, hw⟩ hS hd
    have vg : ev (.tmp 59) = (.bool false) := (hd 40 (by decide)).2.trans (hV 40 (by decide) (hd 40 (by decide)).1)
    have hcl := Clo.add hK (i := 43) (List.forall_mem_cons.2 ⟨(hd 40 (by decide)).1, List.forall_mem_cons.2 ⟨(hd 41 (by decide)).1, List.forall_mem_cons.2 ⟨(hd 42 (by decide)).1, (fun _ h => by cases h)⟩⟩⟩)
    have v60 : ev (.tmp 60) = (.pointer none) := (hd 41 (by decide)).2.trans (hV 41 (by decide) (hd 41 (by decide)).1)
    obtain ⟨q42, g42⟩ := hV 42 (by decide) (hd 42 (by decide)).1
    have v61 : ev (.tmp 61) = .pointer (some q42) := (hd 42 (by decide)).2.trans g42
    have s49 : S 49 = false := by
      cases h0 : S 49 with
      | false => rfl
      | true =>
        have q46 := hK 49 h0 46 (by decide)
        have q45 := hK 46 q46 45 (by decide)
        have q44 := hK 45 q45 44 (by decide)
        have q43 := hK 44 q44 43 (by decide)
        exact absurd q43 (by rw [hS]; decide)
    have hw1 : NoneD HK.out HV.out w [blkT w.heap.size #[.int .i64 a, .int .i64 b, .int .i64 v], nilT HV.out (.pointer (some ⟨w.heap.size + 1, 0, none⟩)), blkT (w.heap.size + 2) #[.pointer none, .pointer (some ⟨w.heap.size + 1, 0, none⟩)], nilT HV.out (.pointer none)] (.pointer (some qc0)) false (S 42) (val 42) wv := by have h := hw; rw [s49] at h; exact h
    obtain ⟨G, hn⟩ := sepn HV.out hw.1 (i := 3) rfl
    obtain ⟨q', G2, e', hr⟩ := hw1.2 (hd 42 (by decide)).1 rfl
    obtain rfl : q42 = q' := by rw [g42] at e'; simpa using e'
    refine ifw (by show (yv (ev (.tmp 59)) == some false) = true; rw [vg]; rfl) (ifn rfl ?_)
    clear vg
    refine set_call (f := 21) (args := #[.pointer none, .pointer (some q42)]) ?_ (HV.out.same2 _ (.pointer none) _ G2 G 0 _ hn hr (by decide)) ?_
    · have e0 := hE.func; have e1 := hE.const; clear hE hd hw hS hV hK hcl
      go_simp
    · rintro e w' ⟨l1, l2, h1, h2, rfl, hb⟩
      exact ⟨_, rfl, VVs.add hV (by rw [segF_one h1 h2, decide_eq_true rfl]; rfl), hcl, hw.keep hb⟩
  · rintro ev wv S val hE ⟨hV, hK, hw⟩ hS hd
    have vg : ev (.tmp 59) = (.bool false) := (hd 40 (by decide)).2.trans (hV 40 (by decide) (hd 40 (by decide)).1)
    have hcl := Clo.add hK (i := 44) (List.forall_mem_cons.2 ⟨(hd 40 (by decide)).1, List.forall_mem_cons.2 ⟨(hd 43 (by decide)).1, (fun _ h => by cases h)⟩⟩)
    have v62 : ev (.tmp 62) = (.bool true) := (hd 43 (by decide)).2.trans (hV 43 (by decide) (hd 43 (by decide)).1)
    refine ifw (by show (yv (ev (.tmp 59)) == some false) = true; rw [vg]; rfl) (ifw rfl ⟨.bool false, fun w9 => ?_, VVs.add hV rfl, hcl, hw⟩)
    clear vg
    have e1 := hE.const; have e2 := hE.func; clear hE hd hw hS hV hK hcl
    show _ = Result.ok (Next.value (.bool false)) w9
    go_simp
  · rintro ev wv S val hE ⟨hV, hK, hw⟩ hS hd
    have hcl := Clo.add hK (i := 45) (List.forall_mem_cons.2 ⟨(hd 40 (by decide)).1, List.forall_mem_cons.2 ⟨(hd 44 (by decide)).1, (fun _ h => by cases h)⟩⟩)
    have v59 : ev (.tmp 59) = (.bool false) := (hd 40 (by decide)).2.trans (hV 40 (by decide) (hd 40 (by decide)).1)
    have v63 : ev (.tmp 63) = (.bool false) := (hd 44 (by decide)).2.trans (hV 44 (by decide) (hd 44 (by decide)).1)
    refine ifw rfl (ifw rfl ⟨.bool false, fun w9 => ?_, VVs.add hV rfl, hcl, hw⟩)
    have e1 := hE.const; have e2 := hE.func; clear hE hd hw hS hV hK hcl
    show _ = Result.ok (Next.value (.bool false)) w9
    go_simp
  · rintro ev wv S val hE ⟨hV, hK, hw⟩ hS hd
    have hcl := Clo.add hK (i := 46) (List.forall_mem_cons.2 ⟨(hd 45 (by decide)).1, (fun _ h => by cases h)⟩)
    have v64 : ev (.tmp 64) = (.bool false) := (hd 45 (by decide)).2.trans (hV 45 (by decide) (hd 45 (by decide)).1)
    refine ifw rfl (ifw rfl ⟨.bool false, fun w9 => ?_, VVs.add hV rfl, hcl, hw⟩)
    have e1 := hE.const; have e2 := hE.func; clear hE hd hw hS hV hK hcl
    show _ = Result.ok (Next.value (.bool false)) w9
    go_simp
  · rintro ev wv S val hE ⟨hV, hK, hw⟩ hS hd
    have vg : ev (.tmp 65) = (.bool false) := (hd 46 (by decide)).2.trans (hV 46 (by decide) (hd 46 (by decide)).1)
    have hcl := Clo.add hK (i := 47) (List.forall_mem_cons.2 ⟨(hd 46 (by decide)).1, (fun _ h => by cases h)⟩)
    have v9 : ev (.tmp 9) = .pointer (some qc0) := hE.tmp 9 rfl
    refine ifw (by show (yv (ev (.tmp 65)) == some false) = true; rw [vg]; rfl) (ifw rfl ⟨.pointer (some qc0), fun w9 => ?_, VVs.add hV rfl, hcl, hw⟩)
    clear vg
    have e1 := hE.const; have e2 := hE.func; clear hE hd hw hS hV hK hcl
    show _ = Result.ok (Next.value (.pointer (some qc0))) w9
    go_simp
  · rintro ev wv S val hE ⟨hV, hK, hw⟩ hS hd
    have vg : ev (.tmp 65) = (.bool false) := (hd 46 (by decide)).2.trans (hV 46 (by decide) (hd 46 (by decide)).1)
    have hcl := Clo.add hK (i := 48) (List.forall_mem_cons.2 ⟨(hd 46 (by decide)).1, (fun _ h => by cases h)⟩)
    refine ifw (by show (yv (ev (.tmp 65)) == some false) = true; rw [vg]; rfl) (ifw rfl ⟨.agg #[.int .i64 1, .int .i64 2], fun w9 => ?_, VVs.add hV rfl, hcl, hw⟩)
    clear vg
    have e1 := hE.const; have e2 := hE.func; clear hE hd hw hS hV hK hcl
    show _ = Result.ok (Next.value (.agg #[.int .i64 1, .int .i64 2])) w9
    go_simp
  · rintro ev wv S val hE ⟨hV, hK, hw⟩ hS hd
    have vg : ev (.tmp 65) = (.bool false) := (hd 46 (by decide)).2.trans (hV 46 (by decide) (hd 46 (by decide)).1)
    have hcl := Clo.add hK (i := 49) (List.forall_mem_cons.2 ⟨(hd 46 (by decide)).1, List.forall_mem_cons.2 ⟨(hd 47 (by decide)).1, List.forall_mem_cons.2 ⟨(hd 48 (by decide)).1, (fun _ h => by cases h)⟩⟩⟩)
    have v66 : ev (.tmp 66) = (.pointer (some qc0)) := (hd 47 (by decide)).2.trans (hV 47 (by decide) (hd 47 (by decide)).1)
    have v67 : ev (.tmp 67) = (.agg #[.int .i64 1, .int .i64 2]) := (hd 48 (by decide)).2.trans (hV 48 (by decide) (hd 48 (by decide)).1)
    have s49 := hS
    have hw1 : NoneD HK.out HV.out w [blkT w.heap.size #[.int .i64 a, .int .i64 b, .int .i64 v], nilT HV.out (.pointer (some ⟨w.heap.size + 1, 0, none⟩)), blkT (w.heap.size + 2) #[.pointer none, .pointer (some ⟨w.heap.size + 1, 0, none⟩)], nilT HV.out (.pointer none)] (.pointer (some qc0)) false (S 42) (val 42) wv := by have h := hw; rw [s49] at h; exact h
    refine ifw (by show (yv (ev (.tmp 65)) == some false) = true; rw [vg]; rfl) (ifn rfl ?_)
    clear vg
    refine set_call (f := 10) (args := #[.pointer (some qc0), .agg #[.int .i64 1, .int .i64 2], .int .i64 1]) ?_ (sep_tput HK.out hw1.1 (i := 4) rfl (by decide) 1 2 1) ?_
    · have e0 := hE.func; have e1 := hE.const; clear hE hd hw hS hV hK hcl
      go_simp
    · rintro e w' ⟨rfl, s5⟩
      exact ⟨_, rfl, VVs.add hV (rfl), hcl, ⟨s5, fun _ h => by cases h⟩⟩
  · rintro ev wv S val hE ⟨hV, hK, hw⟩ hS hd
    have vg : ev (.tmp 65) = (.bool false) := (hd 46 (by decide)).2.trans (hV 46 (by decide) (hd 46 (by decide)).1)
    have hcl := Clo.add hK (i := 50) (List.forall_mem_cons.2 ⟨(hd 46 (by decide)).1, List.forall_mem_cons.2 ⟨(hd 49 (by decide)).1, (fun _ h => by cases h)⟩⟩)
    have v68 : ev (.tmp 68) = (.int .i64 0) := (hd 49 (by decide)).2.trans (hV 49 (by decide) (hd 49 (by decide)).1)
    refine ifw (by show (yv (ev (.tmp 65)) == some false) = true; rw [vg]; rfl) (ifw rfl ⟨.bool false, fun w9 => ?_, VVs.add hV rfl, hcl, hw⟩)
    clear vg
    have e1 := hE.const; have e2 := hE.func; clear hE hd hw hS hV hK hcl
    show _ = Result.ok (Next.value (.bool false)) w9
    go_simp
  · rintro ev wv S val hE ⟨hV, hK, hw⟩ hS hd
    have hcl := Clo.add hK (i := 51) (List.forall_mem_cons.2 ⟨(hd 46 (by decide)).1, List.forall_mem_cons.2 ⟨(hd 50 (by decide)).1, (fun _ h => by cases h)⟩⟩)
    have v65 : ev (.tmp 65) = (.bool false) := (hd 46 (by decide)).2.trans (hV 46 (by decide) (hd 46 (by decide)).1)
    have v69 : ev (.tmp 69) = (.bool false) := (hd 50 (by decide)).2.trans (hV 50 (by decide) (hd 50 (by decide)).1)
    refine ifw rfl (ifw rfl ⟨.bool false, fun w9 => ?_, VVs.add hV rfl, hcl, hw⟩)
    have e1 := hE.const; have e2 := hE.func; clear hE hd hw hS hV hK hcl
    show _ = Result.ok (Next.value (.bool false)) w9
    go_simp
  · rintro ev wv S val hE ⟨hV, hK, hw⟩ hS hd
    have hcl := Clo.add hK (i := 52) (List.forall_mem_cons.2 ⟨(hd 51 (by decide)).1, (fun _ h => by cases h)⟩)
    have v70 : ev (.tmp 70) = (.bool false) := (hd 51 (by decide)).2.trans (hV 51 (by decide) (hd 51 (by decide)).1)
    refine ifw rfl (ifw rfl ⟨.bool false, fun w9 => ?_, VVs.add hV rfl, hcl, hw⟩)
    have e1 := hE.const; have e2 := hE.func; clear hE hd hw hS hV hK hcl
    show _ = Result.ok (Next.value (.bool false)) w9
    go_simp
  · rintro ev wv S val hE ⟨hV, hK, hw⟩ hS hd
    have vg : ev (.tmp 71) = (.bool false) := (hd 52 (by decide)).2.trans (hV 52 (by decide) (hd 52 (by decide)).1)
    have hcl := Clo.add hK (i := 53) (List.forall_mem_cons.2 ⟨(hd 52 (by decide)).1, (fun _ h => by cases h)⟩)
    have v9 : ev (.tmp 9) = .pointer (some qc0) := hE.tmp 9 rfl
    refine ifw (by show (yv (ev (.tmp 71)) == some false) = true; rw [vg]; rfl) (ifw rfl ⟨.pointer (some qc0), fun w9 => ?_, VVs.add hV rfl, hcl, hw⟩)
    clear vg
    have e1 := hE.const; have e2 := hE.func; clear hE hd hw hS hV hK hcl
    show _ = Result.ok (Next.value (.pointer (some qc0))) w9
    go_simp
  · rintro ev wv S val hE ⟨hV, hK, hw⟩ hS hd
    have vg : ev (.tmp 71) = (.bool false) := (hd 52 (by decide)).2.trans (hV 52 (by decide) (hd 52 (by decide)).1)
    have hcl := Clo.add hK (i := 54) (List.forall_mem_cons.2 ⟨(hd 52 (by decide)).1, (fun _ h => by cases h)⟩)
    have v8 : ev (.tmp 8) = .pointer none := hE.tmp 8 rfl
    refine ifw (by show (yv (ev (.tmp 71)) == some false) = true; rw [vg]; rfl) (ifw rfl ⟨.pointer none, fun w9 => ?_, VVs.add hV rfl, hcl, hw⟩)
    clear vg
    have e1 := hE.const; have e2 := hE.func; clear hE hd hw hS hV hK hcl
    show _ = Result.ok (Next.value (.pointer none)) w9
    go_simp
  · rintro ev wv S val hE ⟨hV, hK, hw⟩ hS hd
    have vg : ev (.tmp 71) = (.bool false) := (hd 52 (by decide)).2.trans (hV 52 (by decide) (hd 52 (by decide)).1)
    have hcl := Clo.add hK (i := 55) (List.forall_mem_cons.2 ⟨(hd 52 (by decide)).1, List.forall_mem_cons.2 ⟨(hd 53 (by decide)).1, List.forall_mem_cons.2 ⟨(hd 54 (by decide)).1, (fun _ h => by cases h)⟩⟩⟩)
    have v72 : ev (.tmp 72) = (.pointer (some qc0)) := (hd 53 (by decide)).2.trans (hV 53 (by decide) (hd 53 (by decide)).1)
    have v73 : ev (.tmp 73) = (.pointer none) := (hd 54 (by decide)).2.trans (hV 54 (by decide) (hd 54 (by decide)).1)
    have q52 := (hd 52 (by decide)).1
    have q51 := hK 52 q52 51 (by decide)
    have q50 := hK 51 q51 50 (by decide)
    have q49 := hK 50 q50 49 (by decide)
    have s49 : S 49 = true := q49
    have hw1 : NoneD HK.out HV.out w [blkT w.heap.size #[.int .i64 a, .int .i64 b, .int .i64 v], nilT HV.out (.pointer (some ⟨w.heap.size + 1, 0, none⟩)), blkT (w.heap.size + 2) #[.pointer none, .pointer (some ⟨w.heap.size + 1, 0, none⟩)], nilT HV.out (.pointer none)] (.pointer (some qc0)) true (S 42) (val 42) wv := by have h := hw; rw [s49] at h; exact h
    refine ifw (by show (yv (ev (.tmp 71)) == some false) = true; rw [vg]; rfl) (ifn rfl ?_)
    clear vg
    refine set_call (f := 21) (args := #[.pointer (some qc0), .pointer none]) ?_ (sepn_same1 HK.out HV.out hw1.1 (i := 3) rfl (j := 4) rfl (by decide)) ?_
    · have e0 := hE.func; have e1 := hE.const; clear hE hd hw hS hV hK hcl
      go_simp
    · rintro e w' ⟨l1, l2, h1, h2, rfl, hb⟩
      exact ⟨_, rfl, VVs.add hV (by rw [segF_one h1 cseg1, segF_one h2 cseg0]; rfl), hcl, hw.keep hb⟩
  · rintro ev wv S val hE ⟨hV, hK, hw⟩ hS hd
    have hcl := Clo.add hK (i := 56) (List.forall_mem_cons.2 ⟨(hd 52 (by decide)).1, List.forall_mem_cons.2 ⟨(hd 55 (by decide)).1, (fun _ h => by cases h)⟩⟩)
    have v71 : ev (.tmp 71) = (.bool false) := (hd 52 (by decide)).2.trans (hV 52 (by decide) (hd 52 (by decide)).1)
    have v74 : ev (.tmp 74) = (.bool false) := (hd 55 (by decide)).2.trans (hV 55 (by decide) (hd 55 (by decide)).1)
    refine ifw rfl (ifw rfl ⟨.bool false, fun w9 => ?_, VVs.add hV rfl, hcl, hw⟩)
    have e1 := hE.const; have e2 := hE.func; clear hE hd hw hS hV hK hcl
    show _ = Result.ok (Next.value (.bool false)) w9
    go_simp
  · rintro S val wz hS ⟨hV, hK, hw⟩
    have e0 : val 0 = (.pointer none) := hV 0 (by decide) (hS 0 (by decide))
    have e1 : val 1 = (.pointer (some ⟨w.heap.size, 0, none⟩)) := hV 1 (by decide) (hS 1 (by decide))
    have e2 : val 2 = (.agg #[.int .i64 a, .int .i64 b]) := hV 2 (by decide) (hS 2 (by decide))
    have e3 : val 3 = (.pointer (some ⟨w.heap.size, 2, none⟩)) := hV 3 (by decide) (hS 3 (by decide))
    have e4 : val 4 = (.int .i64 v) := hV 4 (by decide) (hS 4 (by decide))
    have e5 : val 5 = (.int .i64 1) := hV 5 (by decide) (hS 5 (by decide))
    have e6 : val 6 = (.bool false) := hV 6 (by decide) (hS 6 (by decide))
    have e7 : val 7 = (.bool false) := hV 7 (by decide) (hS 7 (by decide))
    have e8 : val 8 = (.pointer none) := hV 8 (by decide) (hS 8 (by decide))
    have e9 : val 9 = (.int .i64 day) := hV 9 (by decide) (hS 9 (by decide))
    have e10 : val 10 = (.int .i64 0) := hV 10 (by decide) (hS 10 (by decide))
    have e11 : val 11 = (.bool false) := hV 11 (by decide) (hS 11 (by decide))
    have e12 : val 12 = (.bool false) := hV 12 (by decide) (hS 12 (by decide))
    have e13 : val 13 = (.bool false) := hV 13 (by decide) (hS 13 (by decide))
    have e14 : val 14 = (.pointer none) := hV 14 (by decide) (hS 14 (by decide))
    have e15 : val 15 = (.pointer (some ⟨w.heap.size, 0, none⟩)) := hV 15 (by decide) (hS 15 (by decide))
    have e16 : val 16 = (.agg #[.int .i64 a, .int .i64 b]) := hV 16 (by decide) (hS 16 (by decide))
    obtain ⟨A17, c17, e17⟩ := hV 17 (by decide) (hS 17 (by decide))
    have e18 : val 18 = (.int .i64 0) := hV 18 (by decide) (hS 18 (by decide))
    have e19 : val 19 = (.pointer none) := hV 19 (by decide) (hS 19 (by decide))
    have e20 : val 20 = (.pointer (some ⟨w.heap.size, 0, none⟩)) := hV 20 (by decide) (hS 20 (by decide))
    have e21 : val 21 = (.agg #[.int .i64 a, .int .i64 b]) := hV 21 (by decide) (hS 21 (by decide))
    obtain ⟨A22, c22, e22⟩ := hV 22 (by decide) (hS 22 (by decide))
    have e23 : val 23 = (.int .i64 0) := hV 23 (by decide) (hS 23 (by decide))
    have e24 : val 24 = (.int .i64 0) := hV 24 (by decide) (hS 24 (by decide))
    have e25 : val 25 = (.pointer none) := hV 25 (by decide) (hS 25 (by decide))
    have e26 : val 26 = (.int .i64 0) := hV 26 (by decide) (hS 26 (by decide))
    have e27 : val 27 = (.int .i64 0) := hV 27 (by decide) (hS 27 (by decide))
    have e28 : val 28 = (.bool false) := hV 28 (by decide) (hS 28 (by decide))
    have e29 : val 29 = (.bool false) := hV 29 (by decide) (hS 29 (by decide))
    have e30 : val 30 = (.bool false) := hV 30 (by decide) (hS 30 (by decide))
    have e31 : val 31 = (.pointer (some qc0)) := hV 31 (by decide) (hS 31 (by decide))
    have e32 : val 32 = (.bool false) := hV 32 (by decide) (hS 32 (by decide))
    have e33 : val 33 = (.bool false) := hV 33 (by decide) (hS 33 (by decide))
    have e34 : val 34 = (.bool false) := hV 34 (by decide) (hS 34 (by decide))
    have e35 : val 35 = (.pointer (some qc0)) := hV 35 (by decide) (hS 35 (by decide))
    have e36 : val 36 = (.pointer none) := hV 36 (by decide) (hS 36 (by decide))
    have e37 : val 37 = (.bool true) := hV 37 (by decide) (hS 37 (by decide))
    have e38 : val 38 = (.bool false) := hV 38 (by decide) (hS 38 (by decide))
    have e39 : val 39 = (.bool false) := hV 39 (by decide) (hS 39 (by decide))
    have e40 : val 40 = (.bool false) := hV 40 (by decide) (hS 40 (by decide))
    have e41 : val 41 = (.pointer none) := hV 41 (by decide) (hS 41 (by decide))
    obtain ⟨q42, e42⟩ := hV 42 (by decide) (hS 42 (by decide))
    have e43 : val 43 = (.bool true) := hV 43 (by decide) (hS 43 (by decide))
    have e44 : val 44 = (.bool false) := hV 44 (by decide) (hS 44 (by decide))
    have e45 : val 45 = (.bool false) := hV 45 (by decide) (hS 45 (by decide))
    have e46 : val 46 = (.bool false) := hV 46 (by decide) (hS 46 (by decide))
    have e47 : val 47 = (.pointer (some qc0)) := hV 47 (by decide) (hS 47 (by decide))
    have e48 : val 48 = (.agg #[.int .i64 1, .int .i64 2]) := hV 48 (by decide) (hS 48 (by decide))
    have e49 : val 49 = (.int .i64 0) := hV 49 (by decide) (hS 49 (by decide))
    have e50 : val 50 = (.bool false) := hV 50 (by decide) (hS 50 (by decide))
    have e51 : val 51 = (.bool false) := hV 51 (by decide) (hS 51 (by decide))
    have e52 : val 52 = (.bool false) := hV 52 (by decide) (hS 52 (by decide))
    have e53 : val 53 = (.pointer (some qc0)) := hV 53 (by decide) (hS 53 (by decide))
    have e54 : val 54 = (.pointer none) := hV 54 (by decide) (hS 54 (by decide))
    have e55 : val 55 = (.bool false) := hV 55 (by decide) (hS 55 (by decide))
    have e56 : val 56 = (.bool false) := hV 56 (by decide) (hS 56 (by decide))
    intro v0 h0 u0 v1 h1 u1 v2 h2 u2 v3 h3 u3 v4 h4 u4 v5 h5 u5 v6 h6 u6 v7 h7 u7 v8 h8 u8 v9 h9 u9 v10 h10 u10 v11 h11 u11 v12 h12 u12 v13 h13 u13 v14 h14 u14 v15 h15 u15 v16 h16 u16 v17 h17 u17 v18 h18 u18 v19 h19 u19 v20 h20 u20 v21 h21 u21 v22 h22 u22 v23 h23 u23 v24 h24 u24 v25 h25 u25 v26 h26 u26 v27 h27 u27 v28 h28 u28 v29 h29 u29 v30 h30 u30 v31 h31 u31 v32 h32 u32 v33 h33 u33 v34 h34 u34 v35 h35 u35 v36 h36 u36 v37 h37 u37 v38 h38 u38 v39 h39 u39 v40 h40 u40 v41 h41 u41 v42 h42 u42 v43 h43 u43 v44 h44 u44 v45 h45 u45 v46 h46 u46 v47 h47 u47 v48 h48 u48 v49 h49 u49 v50 h50 u50 v51 h51 u51 v52 h52 u52 v53 h53 u53 v54 h54 u54 v55 h55 u55 v56 h56 u56
    simp only [Act.put, List.setIfInBounds_toArray, List.set_cons_zero, List.set_cons_succ, List.drop_succ_cons, List.drop_zero]
    simp only [h0.trans e0, h1.trans e1, h2.trans e2, h3.trans e3, h4.trans e4, h5.trans e5, h6.trans e6, h7.trans e7, h8.trans e8, h9.trans e9, h10.trans e10, h11.trans e11, h12.trans e12, h13.trans e13, h14.trans e14, h15.trans e15, h16.trans e16, h17.trans e17, h18.trans e18, h19.trans e19, h20.trans e20, h21.trans e21, h22.trans e22, h23.trans e23, h24.trans e24, h25.trans e25, h26.trans e26, h27.trans e27, h28.trans e28, h29.trans e29, h30.trans e30, h31.trans e31, h32.trans e32, h33.trans e33, h34.trans e34, h35.trans e35, h36.trans e36, h37.trans e37, h38.trans e38, h39.trans e39, h40.trans e40, h41.trans e41, h42.trans e42, h43.trans e43, h44.trans e44, h45.trans e45, h46.trans e46, h47.trans e47, h48.trans e48, h49.trans e49, h50.trans e50, h51.trans e51, h52.trans e52, h53.trans e53, h54.trans e54, h55.trans e55, h56.trans e56]
    clear hV h0 e0 u0 v0 h1 e1 u1 v1 h2 e2 u2 v2 h3 e3 u3 v3 h4 e4 u4 v4 h5 e5 u5 v5 h6 e6 u6 v6 h7 e7 u7 v7 h8 e8 u8 v8 h9 e9 u9 v9 h10 e10 u10 v10 h11 e11 u11 v11 h12 e12 u12 v12 h13 e13 u13 v13 h14 e14 u14 v14 h15 e15 u15 v15 h16 e16 u16 v16 h17 e17 u17 v17 h18 e18 u18 v18 h19 e19 u19 v19 h20 e20 u20 v20 h21 e21 u21 v21 h22 e22 u22 v22 h23 e23 u23 v23 h24 e24 u24 v24 h25 e25 u25 v25 h26 e26 u26 v26 h27 e27 u27 v27 h28 e28 u28 v28 h29 e29 u29 v29 h30 e30 u30 v30 h31 e31 u31 v31 h32 e32 u32 v32 h33 e33 u33 v33 h34 e34 u34 v34 h35 e35 u35 v35 h36 e36 u36 v36 h37 e37 u37 v37 h38 e38 u38 v38 h39 e39 u39 v39 h40 e40 u40 v40 h41 e41 u41 v41 h42 e42 u42 v42 h43 e43 u43 v43 h44 e44 u44 v44 h45 e45 u45 v45 h46 e46 u46 v46 h47 e47 u47 v47 h48 e48 u48 v48 h49 e49 u49 v49 h50 e50 u50 v50 h51 e51 u51 v51 h52 e52 u52 v52 h53 e53 u53 v53 h54 e54 u54 v54 h55 e55 u55 v55 h56 e56 u56 v56
    change wpList Try.prog _ _ _ _ wz
    have HS := Lib.hid (show Sep w [blkT w.heap.size #[.int .i64 a, .int .i64 b, .int .i64 v], nilT HV.out (.pointer (some ⟨w.heap.size + 1, 0, none⟩)), blkT (w.heap.size + 2) #[.pointer none, .pointer (some ⟨w.heap.size + 1, 0, none⟩)], nilT HV.out (.pointer none)] wz from hw.1.take 4)
    clear hw hK HC
    have y0 := (HS.out.b 2 rfl).get 0 rfl; have y1 := (HS.out.b 2 rfl).get 1 rfl
    go_wp2_with fail
    refine calm_normal ?_
    go_wp2_with fail
    clear y0 y1
    rw [rounds_succ]
    have y0 := (HS.out.b 2 rfl).get 0 rfl; have y1 := (HS.out.b 2 rfl).get 1 rfl
    go_wp2_with fail
    refine (sepn_copy HK.out HV.out HS.out (i := 1) rfl).mono ?_
    rintro e w1 ⟨qc1, rfl, s1⟩
    have HC := Lib.hid (show Sep w ([blkT w.heap.size #[.int .i64 a, .int .i64 b, .int .i64 v], nilT HV.out (.pointer (some ⟨w.heap.size + 1, 0, none⟩)), blkT (w.heap.size + 2) #[.pointer none, .pointer (some ⟨w.heap.size + 1, 0, none⟩)], nilT HV.out (.pointer none)] ++ [tlT HK.out.toTlOk (.pointer (some qc1)) 0 (fun _ => 0)]) w1 from s1)
    clear s1 HS y0 y1
    go_upto_region 7 with fail
    refine wp_region_val 57 (fun S val wx => VVs 57 [(fun vv => vv = (.pointer (some ⟨w.heap.size + 1, 0, none⟩))), (fun vv => vv = (.pointer (some ⟨w.heap.size, 0, none⟩))), (fun vv => vv = (.agg #[.int .i64 a, .int .i64 b])), (fun vv => vv = (.pointer (some ⟨w.heap.size, 2, none⟩))), (fun vv => vv = (.int .i64 v)), (fun vv => vv = (.int .i64 1)), (fun vv => vv = (.bool false)), (fun vv => vv = (.bool false)), (fun vv => vv = (.pointer (some ⟨w.heap.size + 1, 0, none⟩))), (fun vv => vv = (.int .i64 day)), (fun vv => vv = (.int .i64 0)), (fun vv => vv = (.bool false)), (fun vv => vv = (.bool false)), (fun vv => vv = (.bool false)), (fun vv => vv = (.pointer (some ⟨w.heap.size + 1, 0, none⟩))), (fun vv => vv = (.pointer (some ⟨w.heap.size, 0, none⟩))), (fun vv => vv = (.agg #[.int .i64 a, .int .i64 b])), (fun vv => ∃ A c, vv = .slice A 0 c), (fun vv => vv = (.int .i64 0)), (fun vv => vv = (.pointer (some ⟨w.heap.size + 1, 0, none⟩))), (fun vv => vv = (.pointer (some ⟨w.heap.size, 0, none⟩))), (fun vv => vv = (.agg #[.int .i64 a, .int .i64 b])), (fun vv => ∃ A c, vv = .slice A 0 c), (fun vv => vv = (.int .i64 0)), (fun vv => vv = (.int .i64 0)), (fun vv => vv = (.pointer (some ⟨w.heap.size + 1, 0, none⟩))), (fun vv => vv = (.int .i64 0)), (fun vv => vv = (.int .i64 0)), (fun vv => vv = (.bool false)), (fun vv => vv = (.bool false)), (fun vv => vv = (.bool false)), (fun vv => vv = (.pointer (some qc1))), (fun vv => vv = (.bool false)), (fun vv => vv = (.bool false)), (fun vv => vv = (.bool false)), (fun vv => vv = (.pointer (some qc1))), (fun vv => vv = (.pointer (some ⟨w.heap.size + 1, 0, none⟩))), (fun vv => vv = (.bool true)), (fun vv => vv = (.bool false)), (fun vv => vv = (.bool false)), (fun vv => vv = (.bool false)), (fun vv => vv = (.pointer (some ⟨w.heap.size + 1, 0, none⟩))), (fun vv => ∃ q, vv = .pointer (some q)), (fun vv => vv = (.bool true)), (fun vv => vv = (.bool false)), (fun vv => vv = (.bool false)), (fun vv => vv = (.bool false)), (fun vv => vv = (.pointer (some qc1))), (fun vv => vv = (.agg #[.int .i64 1, .int .i64 2])), (fun vv => vv = (.int .i64 0)), (fun vv => vv = (.bool false)), (fun vv => vv = (.bool false)), (fun vv => vv = (.bool false)), (fun vv => vv = (.pointer (some qc1))), (fun vv => vv = (.pointer (some ⟨w.heap.size + 1, 0, none⟩))), (fun vv => vv = (.bool false)), (fun vv => vv = (.bool false))] S val ∧ Clo [[], [], [1], [], [3], [0, 2, 4], [5], [6], [7], [7], [7, 8, 9], [7, 10], [7, 11], [12], [13], [13], [13, 15], [13, 14, 16], [13, 17], [13], [13], [13, 20], [13, 19, 21], [13, 22], [13, 18, 23], [13], [13, 25], [13, 24, 26], [13, 27], [13, 28], [29], [30], [30, 31], [30, 32], [33], [34], [34], [34, 35, 36], [34, 37], [34, 38], [39], [40], [40], [40, 41, 42], [40, 43], [40, 44], [45], [46], [46], [46, 47, 48], [46, 49], [46, 50], [51], [52], [52], [52, 53, 54], [52, 55]] S ∧ NoneD HK.out HV.out w [blkT w.heap.size #[.int .i64 a, .int .i64 b, .int .i64 v], nilT HV.out (.pointer (some ⟨w.heap.size + 1, 0, none⟩)), blkT (w.heap.size + 2) #[.pointer none, .pointer (some ⟨w.heap.size + 1, 0, none⟩)], nilT HV.out (.pointer none)] (.pointer (some qc1)) (S 49) (S 42) (val 42) wx) [0, 1, 3, 6, 7, 8, 9, 11, 12, 13, 14, 15, 18, 19, 20, 23, 24, 25, 27, 28, 29, 30, 31, 32, 33, 34, 35, 36, 38, 39, 40, 41, 44, 45, 46, 47, 48, 50, 51, 52, 53, 54, 56] (by kernel_rfl) (by kernel_rfl) ⟨VVs.start, Clo.start, ⟨HC.out.keep (Below.refl _ _).drew, fun h => by cases h⟩⟩ ⟨?_, ?_, ?_, ?_, ?_, ?_, ?_, ?_, ?_, ?_, ?_, ?_, ?_, ?_, ?_, ?_, ?_, ?_, ?_, ?_, ?_, ?_, ?_, ?_, ?_, ?_, ?_, ?_, ?_, ?_, ?_, ?_, ?_, ?_, ?_, ?_, ?_, ?_, ?_, ?_, ?_, ?_, ?_, ?_, ?_, ?_, ?_, ?_, ?_, ?_, ?_, ?_, ?_, ?_, ?_, ?_, ?_, trivial⟩ ?_
    · rintro ev wv S val hE ⟨hV, hK, hw⟩ hS hd
      have hcl := Clo.add hK (i := 0) ((fun _ h => by cases h))
      have v8 : ev (.tmp 8) = .pointer (some ⟨w.heap.size + 1, 0, none⟩) := hE.tmp 8 rfl
      refine ifw rfl (ifw rfl ⟨.pointer (some ⟨w.heap.size + 1, 0, none⟩), fun w9 => ?_, VVs.add hV rfl, hcl, hw⟩)
      have e1 := hE.const; have e2 := hE.func; clear hE hd hw hS hV hK hcl
      show _ = Result.ok (Next.value (.pointer (some ⟨w.heap.size + 1, 0, none⟩))) w9
      go_simp
    · rintro ev wv S val hE ⟨hV, hK, hw⟩ hS hd
      have hcl := Clo.add hK (i := 1) ((fun _ h => by cases h))
      have v2 : ev (.tmp 2) = .pointer (some ⟨w.heap.size, 0, none⟩) := hE.tmp 2 rfl
      refine ifw rfl (ifw rfl ⟨.pointer (some ⟨w.heap.size, 0, none⟩), fun w9 => ?_, VVs.add hV rfl, hcl, hw⟩)
      have e1 := hE.const; have e2 := hE.func; clear hE hd hw hS hV hK hcl
      show _ = Result.ok (Next.value (.pointer (some ⟨w.heap.size, 0, none⟩))) w9
      go_simp
    · rintro ev wv S val hE ⟨hV, hK, hw⟩ hS hd
      have hcl := Clo.add hK (i := 2) (List.forall_mem_cons.2 ⟨(hd 1 (by decide)).1, (fun _ h => by cases h)⟩)
      have v20 : ev (.tmp 20) = (.pointer (some ⟨w.heap.size, 0, none⟩)) := (hd 1 (by decide)).2.trans (hV 1 (by decide) (hd 1 (by decide)).1)
      have B := Sep.b hw.1 0 rfl
      have kx := B.get 0 rfl; have ky := B.get 1 rfl
      clear B
      refine ifw rfl (ifn rfl ?_)
      refine set_val (u := .agg #[.int .i64 a, .int .i64 b]) (w' := wv) ?_ ⟨VVs.add hV rfl, hcl, hw⟩
      have e1 := hE.const; clear hE hd hw hS hV hK hcl
      go_simp
    · rintro ev wv S val hE ⟨hV, hK, hw⟩ hS hd
      have hcl := Clo.add hK (i := 3) ((fun _ h => by cases h))
      have v2 : ev (.tmp 2) = .pointer (some ⟨w.heap.size, 0, none⟩) := hE.tmp 2 rfl
      refine ifw rfl (ifw rfl ⟨.pointer (some ⟨w.heap.size, 2, none⟩), fun w9 => ?_, VVs.add hV rfl, hcl, hw⟩)
      have e1 := hE.const; have e2 := hE.func; clear hE hd hw hS hV hK hcl
      show _ = Result.ok (Next.value (.pointer (some ⟨w.heap.size, 2, none⟩))) w9
      go_simp
    · rintro ev wv S val hE ⟨hV, hK, hw⟩ hS hd
      have hcl := Clo.add hK (i := 4) (List.forall_mem_cons.2 ⟨(hd 3 (by decide)).1, (fun _ h => by cases h)⟩)
      have v22 : ev (.tmp 22) = (.pointer (some ⟨w.heap.size, 2, none⟩)) := (hd 3 (by decide)).2.trans (hV 3 (by decide) (hd 3 (by decide)).1)
      have B := Sep.b hw.1 0 rfl
      have kx := B.get 2 rfl
      clear B
      refine ifw rfl (ifn rfl ?_)
      refine set_val (u := .int .i64 v) (w' := wv) ?_ ⟨VVs.add hV rfl, hcl, hw⟩
      have e1 := hE.const; clear hE hd hw hS hV hK hcl
      go_simp
    · rintro ev wv S val hE ⟨hV, hK, hw⟩ hS hd
      have hcl := Clo.add hK (i := 5) (List.forall_mem_cons.2 ⟨(hd 0 (by decide)).1, List.forall_mem_cons.2 ⟨(hd 2 (by decide)).1, List.forall_mem_cons.2 ⟨(hd 4 (by decide)).1, (fun _ h => by cases h)⟩⟩⟩)
      have v19 : ev (.tmp 19) = (.pointer (some ⟨w.heap.size + 1, 0, none⟩)) := (hd 0 (by decide)).2.trans (hV 0 (by decide) (hd 0 (by decide)).1)
      have v21 : ev (.tmp 21) = (.agg #[.int .i64 a, .int .i64 b]) := (hd 2 (by decide)).2.trans (hV 2 (by decide) (hd 2 (by decide)).1)
      have v23 : ev (.tmp 23) = (.int .i64 v) := (hd 4 (by decide)).2.trans (hV 4 (by decide) (hd 4 (by decide)).1)
      obtain ⟨G, hn⟩ := sepn HV.out hw.1 (i := 1) rfl
      refine ifw rfl (ifn rfl ?_)
      refine set_call (f := 10) (args := #[.pointer (some ⟨w.heap.size + 1, 0, none⟩), .agg #[.int .i64 a, .int .i64 b], .int .i64 v]) ?_ (HV.out.put _ (.pointer (some ⟨w.heap.size + 1, 0, none⟩)) G a b v hn) ?_
      · have e0 := hE.func; have e1 := hE.const; clear hE hd hw hS hV hK hcl
        go_simp
      · rintro e w' ⟨rfl, hb⟩
        exact ⟨_, rfl, VVs.add hV (rfl), hcl, hw.keep hb⟩
    · rintro ev wv S val hE ⟨hV, hK, hw⟩ hS hd
      have hcl := Clo.add hK (i := 6) (List.forall_mem_cons.2 ⟨(hd 5 (by decide)).1, (fun _ h => by cases h)⟩)
      have v24 : ev (.tmp 24) = (.int .i64 1) := (hd 5 (by decide)).2.trans (hV 5 (by decide) (hd 5 (by decide)).1)
      refine ifw rfl (ifw rfl ⟨.bool false, fun w9 => ?_, VVs.add hV rfl, hcl, hw⟩)
      have e1 := hE.const; have e2 := hE.func; clear hE hd hw hS hV hK hcl
      show _ = Result.ok (Next.value (.bool false)) w9
      go_simp
    · rintro ev wv S val hE ⟨hV, hK, hw⟩ hS hd
      have hcl := Clo.add hK (i := 7) (List.forall_mem_cons.2 ⟨(hd 6 (by decide)).1, (fun _ h => by cases h)⟩)
      have v25 : ev (.tmp 25) = (.bool false) := (hd 6 (by decide)).2.trans (hV 6 (by decide) (hd 6 (by decide)).1)
      refine ifw rfl (ifw rfl ⟨.bool false, fun w9 => ?_, VVs.add hV rfl, hcl, hw⟩)
      have e1 := hE.const; have e2 := hE.func; clear hE hd hw hS hV hK hcl
      show _ = Result.ok (Next.value (.bool false)) w9
      go_simp
    · rintro ev wv S val hE ⟨hV, hK, hw⟩ hS hd
      have vg : ev (.tmp 26) = (.bool false) := (hd 7 (by decide)).2.trans (hV 7 (by decide) (hd 7 (by decide)).1)
      have hcl := Clo.add hK (i := 8) (List.forall_mem_cons.2 ⟨(hd 7 (by decide)).1, (fun _ h => by cases h)⟩)
      have v8 : ev (.tmp 8) = .pointer (some ⟨w.heap.size + 1, 0, none⟩) := hE.tmp 8 rfl
      refine ifw (by show (yv (ev (.tmp 26)) == some false) = true; rw [vg]; rfl) (ifw rfl ⟨.pointer (some ⟨w.heap.size + 1, 0, none⟩), fun w9 => ?_, VVs.add hV rfl, hcl, hw⟩)
      clear vg
      have e1 := hE.const; have e2 := hE.func; clear hE hd hw hS hV hK hcl
      show _ = Result.ok (Next.value (.pointer (some ⟨w.heap.size + 1, 0, none⟩))) w9
      go_simp
    · rintro ev wv S val hE ⟨hV, hK, hw⟩ hS hd
      have vg : ev (.tmp 26) = (.bool false) := (hd 7 (by decide)).2.trans (hV 7 (by decide) (hd 7 (by decide)).1)
      have hcl := Clo.add hK (i := 9) (List.forall_mem_cons.2 ⟨(hd 7 (by decide)).1, (fun _ h => by cases h)⟩)
      have v1 : ev (.tmp 1) = .int .i64 day := hE.tmp 1 rfl
      refine ifw (by show (yv (ev (.tmp 26)) == some false) = true; rw [vg]; rfl) (ifw rfl ⟨.int .i64 day, fun w9 => ?_, VVs.add hV rfl, hcl, hw⟩)
      clear vg
      have e1 := hE.const; have e2 := hE.func; clear hE hd hw hS hV hK hcl
      show _ = Result.ok (Next.value (.int .i64 day)) w9
      go_simp
    · rintro ev wv S val hE ⟨hV, hK, hw⟩ hS hd
      have vg : ev (.tmp 26) = (.bool false) := (hd 7 (by decide)).2.trans (hV 7 (by decide) (hd 7 (by decide)).1)
      have hcl := Clo.add hK (i := 10) (List.forall_mem_cons.2 ⟨(hd 7 (by decide)).1, List.forall_mem_cons.2 ⟨(hd 8 (by decide)).1, List.forall_mem_cons.2 ⟨(hd 9 (by decide)).1, (fun _ h => by cases h)⟩⟩⟩)
      have v27 : ev (.tmp 27) = (.pointer (some ⟨w.heap.size + 1, 0, none⟩)) := (hd 8 (by decide)).2.trans (hV 8 (by decide) (hd 8 (by decide)).1)
      have v28 : ev (.tmp 28) = (.int .i64 day) := (hd 9 (by decide)).2.trans (hV 9 (by decide) (hd 9 (by decide)).1)
      obtain ⟨G, hn⟩ := sepn HV.out hw.1 (i := 1) rfl
      refine ifw (by show (yv (ev (.tmp 26)) == some false) = true; rw [vg]; rfl) (ifn rfl ?_)
      clear vg
      refine set_call (f := 16) (args := #[.pointer (some ⟨w.heap.size + 1, 0, none⟩), .int .i64 day]) ?_ (HV.out.at_ _ (.pointer (some ⟨w.heap.size + 1, 0, none⟩)) G day hn) ?_
      · have e0 := hE.func; have e1 := hE.const; clear hE hd hw hS hV hK hcl
        go_simp
      · rintro e w' ⟨rfl, hb⟩
        exact ⟨_, rfl, VVs.add hV (rfl), hcl, hw.keep hb⟩
    · rintro ev wv S val hE ⟨hV, hK, hw⟩ hS hd
      have vg : ev (.tmp 26) = (.bool false) := (hd 7 (by decide)).2.trans (hV 7 (by decide) (hd 7 (by decide)).1)
      have hcl := Clo.add hK (i := 11) (List.forall_mem_cons.2 ⟨(hd 7 (by decide)).1, List.forall_mem_cons.2 ⟨(hd 10 (by decide)).1, (fun _ h => by cases h)⟩⟩)
      have v29 : ev (.tmp 29) = (.int .i64 0) := (hd 10 (by decide)).2.trans (hV 10 (by decide) (hd 10 (by decide)).1)
      refine ifw (by show (yv (ev (.tmp 26)) == some false) = true; rw [vg]; rfl) (ifw rfl ⟨.bool false, fun w9 => ?_, VVs.add hV rfl, hcl, hw⟩)
      clear vg
      have e1 := hE.const; have e2 := hE.func; clear hE hd hw hS hV hK hcl
      show _ = Result.ok (Next.value (.bool false)) w9
      go_simp
    · rintro ev wv S val hE ⟨hV, hK, hw⟩ hS hd
      have hcl := Clo.add hK (i := 12) (List.forall_mem_cons.2 ⟨(hd 7 (by decide)).1, List.forall_mem_cons.2 ⟨(hd 11 (by decide)).1, (fun _ h => by cases h)⟩⟩)
      have v26 : ev (.tmp 26) = (.bool false) := (hd 7 (by decide)).2.trans (hV 7 (by decide) (hd 7 (by decide)).1)
      have v30 : ev (.tmp 30) = (.bool false) := (hd 11 (by decide)).2.trans (hV 11 (by decide) (hd 11 (by decide)).1)
      refine ifw rfl (ifw rfl ⟨.bool false, fun w9 => ?_, VVs.add hV rfl, hcl, hw⟩)
      have e1 := hE.const; have e2 := hE.func; clear hE hd hw hS hV hK hcl
      show _ = Result.ok (Next.value (.bool false)) w9
      go_simp
    · rintro ev wv S val hE ⟨hV, hK, hw⟩ hS hd
      have hcl := Clo.add hK (i := 13) (List.forall_mem_cons.2 ⟨(hd 12 (by decide)).1, (fun _ h => by cases h)⟩)
      have v31 : ev (.tmp 31) = (.bool false) := (hd 12 (by decide)).2.trans (hV 12 (by decide) (hd 12 (by decide)).1)
      refine ifw rfl (ifw rfl ⟨.bool false, fun w9 => ?_, VVs.add hV rfl, hcl, hw⟩)
      have e1 := hE.const; have e2 := hE.func; clear hE hd hw hS hV hK hcl
      show _ = Result.ok (Next.value (.bool false)) w9
      go_simp
    · rintro ev wv S val hE ⟨hV, hK, hw⟩ hS hd
      have vg : ev (.tmp 32) = (.bool false) := (hd 13 (by decide)).2.trans (hV 13 (by decide) (hd 13 (by decide)).1)
      have hcl := Clo.add hK (i := 14) (List.forall_mem_cons.2 ⟨(hd 13 (by decide)).1, (fun _ h => by cases h)⟩)
      have v8 : ev (.tmp 8) = .pointer (some ⟨w.heap.size + 1, 0, none⟩) := hE.tmp 8 rfl
      refine ifw (by show (yv (ev (.tmp 32)) == some false) = true; rw [vg]; rfl) (ifw rfl ⟨.pointer (some ⟨w.heap.size + 1, 0, none⟩), fun w9 => ?_, VVs.add hV rfl, hcl, hw⟩)
      clear vg
      have e1 := hE.const; have e2 := hE.func; clear hE hd hw hS hV hK hcl
      show _ = Result.ok (Next.value (.pointer (some ⟨w.heap.size + 1, 0, none⟩))) w9
      go_simp
    · rintro ev wv S val hE ⟨hV, hK, hw⟩ hS hd
      have vg : ev (.tmp 32) = (.bool false) := (hd 13 (by decide)).2.trans (hV 13 (by decide) (hd 13 (by decide)).1)
      have hcl := Clo.add hK (i := 15) (List.forall_mem_cons.2 ⟨(hd 13 (by decide)).1, (fun _ h => by cases h)⟩)
      have v2 : ev (.tmp 2) = .pointer (some ⟨w.heap.size, 0, none⟩) := hE.tmp 2 rfl
      refine ifw (by show (yv (ev (.tmp 32)) == some false) = true; rw [vg]; rfl) (ifw rfl ⟨.pointer (some ⟨w.heap.size, 0, none⟩), fun w9 => ?_, VVs.add hV rfl, hcl, hw⟩)
      clear vg
      have e1 := hE.const; have e2 := hE.func; clear hE hd hw hS hV hK hcl
      show _ = Result.ok (Next.value (.pointer (some ⟨w.heap.size, 0, none⟩))) w9
      go_simp
    · rintro ev wv S val hE ⟨hV, hK, hw⟩ hS hd
      have vg : ev (.tmp 32) = (.bool false) := (hd 13 (by decide)).2.trans (hV 13 (by decide) (hd 13 (by decide)).1)
      have hcl := Clo.add hK (i := 16) (List.forall_mem_cons.2 ⟨(hd 13 (by decide)).1, List.forall_mem_cons.2 ⟨(hd 15 (by decide)).1, (fun _ h => by cases h)⟩⟩)
      have v34 : ev (.tmp 34) = (.pointer (some ⟨w.heap.size, 0, none⟩)) := (hd 15 (by decide)).2.trans (hV 15 (by decide) (hd 15 (by decide)).1)
      have B := Sep.b hw.1 0 rfl
      have kx := B.get 0 rfl; have ky := B.get 1 rfl
      clear B
      refine ifw (by show (yv (ev (.tmp 32)) == some false) = true; rw [vg]; rfl) (ifn rfl ?_)
      clear vg
      refine set_val (u := .agg #[.int .i64 a, .int .i64 b]) (w' := wv) ?_ ⟨VVs.add hV rfl, hcl, hw⟩
      have e1 := hE.const; clear hE hd hw hS hV hK hcl
      go_simp
    · rintro ev wv S val hE ⟨hV, hK, hw⟩ hS hd
      have vg : ev (.tmp 32) = (.bool false) := (hd 13 (by decide)).2.trans (hV 13 (by decide) (hd 13 (by decide)).1)
      have hcl := Clo.add hK (i := 17) (List.forall_mem_cons.2 ⟨(hd 13 (by decide)).1, List.forall_mem_cons.2 ⟨(hd 14 (by decide)).1, List.forall_mem_cons.2 ⟨(hd 16 (by decide)).1, (fun _ h => by cases h)⟩⟩⟩)
      have v33 : ev (.tmp 33) = (.pointer (some ⟨w.heap.size + 1, 0, none⟩)) := (hd 14 (by decide)).2.trans (hV 14 (by decide) (hd 14 (by decide)).1)
      have v35 : ev (.tmp 35) = (.agg #[.int .i64 a, .int .i64 b]) := (hd 16 (by decide)).2.trans (hV 16 (by decide) (hd 16 (by decide)).1)
      obtain ⟨G, hn⟩ := sepn HV.out hw.1 (i := 1) rfl
      refine ifw (by show (yv (ev (.tmp 32)) == some false) = true; rw [vg]; rfl) (ifn rfl ?_)
      clear vg
      refine set_call (f := 12) (args := #[.pointer (some ⟨w.heap.size + 1, 0, none⟩), .agg #[.int .i64 a, .int .i64 b]]) ?_ (HV.out.segs _ (.pointer (some ⟨w.heap.size + 1, 0, none⟩)) G a b hn) ?_
      · have e0 := hE.func; have e1 := hE.const; clear hE hd hw hS hV hK hcl
        go_simp
      · rintro e w' ⟨A, c, rfl, hb⟩
        exact ⟨_, rfl, VVs.add hV (⟨A, c, rfl⟩), hcl, hw.keep hb⟩
    · rintro ev wv S val hE ⟨hV, hK, hw⟩ hS hd
      have vg : ev (.tmp 32) = (.bool false) := (hd 13 (by decide)).2.trans (hV 13 (by decide) (hd 13 (by decide)).1)
      have hcl := Clo.add hK (i := 18) (List.forall_mem_cons.2 ⟨(hd 13 (by decide)).1, List.forall_mem_cons.2 ⟨(hd 17 (by decide)).1, (fun _ h => by cases h)⟩⟩)
      obtain ⟨A17, c17, g17⟩ := hV 17 (by decide) (hd 17 (by decide)).1
      have v36 : ev (.tmp 36) = .slice A17 0 c17 := (hd 17 (by decide)).2.trans g17
      refine ifw (by show (yv (ev (.tmp 32)) == some false) = true; rw [vg]; rfl) (ifw rfl ⟨.int .i64 0, fun w9 => ?_, VVs.add hV rfl, hcl, hw⟩)
      clear vg
      have e1 := hE.const; have e2 := hE.func; clear hE hd hw hS hV hK hcl
      show _ = Result.ok (Next.value (.int .i64 0)) w9
      go_simp
    · rintro ev wv S val hE ⟨hV, hK, hw⟩ hS hd
      have vg : ev (.tmp 32) = (.bool false) := (hd 13 (by decide)).2.trans (hV 13 (by decide) (hd 13 (by decide)).1)
      have hcl := Clo.add hK (i := 19) (List.forall_mem_cons.2 ⟨(hd 13 (by decide)).1, (fun _ h => by cases h)⟩)
      have v8 : ev (.tmp 8) = .pointer (some ⟨w.heap.size + 1, 0, none⟩) := hE.tmp 8 rfl
      refine ifw (by show (yv (ev (.tmp 32)) == some false) = true; rw [vg]; rfl) (ifw rfl ⟨.pointer (some ⟨w.heap.size + 1, 0, none⟩), fun w9 => ?_, VVs.add hV rfl, hcl, hw⟩)
      clear vg
      have e1 := hE.const; have e2 := hE.func; clear hE hd hw hS hV hK hcl
      show _ = Result.ok (Next.value (.pointer (some ⟨w.heap.size + 1, 0, none⟩))) w9
      go_simp
    · rintro ev wv S val hE ⟨hV, hK, hw⟩ hS hd
      have vg : ev (.tmp 32) = (.bool false) := (hd 13 (by decide)).2.trans (hV 13 (by decide) (hd 13 (by decide)).1)
      have hcl := Clo.add hK (i := 20) (List.forall_mem_cons.2 ⟨(hd 13 (by decide)).1, (fun _ h => by cases h)⟩)
      have v2 : ev (.tmp 2) = .pointer (some ⟨w.heap.size, 0, none⟩) := hE.tmp 2 rfl
      refine ifw (by show (yv (ev (.tmp 32)) == some false) = true; rw [vg]; rfl) (ifw rfl ⟨.pointer (some ⟨w.heap.size, 0, none⟩), fun w9 => ?_, VVs.add hV rfl, hcl, hw⟩)
      clear vg
      have e1 := hE.const; have e2 := hE.func; clear hE hd hw hS hV hK hcl
      show _ = Result.ok (Next.value (.pointer (some ⟨w.heap.size, 0, none⟩))) w9
      go_simp
    · rintro ev wv S val hE ⟨hV, hK, hw⟩ hS hd
      have vg : ev (.tmp 32) = (.bool false) := (hd 13 (by decide)).2.trans (hV 13 (by decide) (hd 13 (by decide)).1)
      have hcl := Clo.add hK (i := 21) (List.forall_mem_cons.2 ⟨(hd 13 (by decide)).1, List.forall_mem_cons.2 ⟨(hd 20 (by decide)).1, (fun _ h => by cases h)⟩⟩)
      have v39 : ev (.tmp 39) = (.pointer (some ⟨w.heap.size, 0, none⟩)) := (hd 20 (by decide)).2.trans (hV 20 (by decide) (hd 20 (by decide)).1)
      have B := Sep.b hw.1 0 rfl
      have kx := B.get 0 rfl; have ky := B.get 1 rfl
      clear B
      refine ifw (by show (yv (ev (.tmp 32)) == some false) = true; rw [vg]; rfl) (ifn rfl ?_)
      clear vg
      refine set_val (u := .agg #[.int .i64 a, .int .i64 b]) (w' := wv) ?_ ⟨VVs.add hV rfl, hcl, hw⟩
      have e1 := hE.const; clear hE hd hw hS hV hK hcl
      go_simp
    · rintro ev wv S val hE ⟨hV, hK, hw⟩ hS hd
      have vg : ev (.tmp 32) = (.bool false) := (hd 13 (by decide)).2.trans (hV 13 (by decide) (hd 13 (by decide)).1)
      have hcl := Clo.add hK (i := 22) (List.forall_mem_cons.2 ⟨(hd 13 (by decide)).1, List.forall_mem_cons.2 ⟨(hd 19 (by decide)).1, List.forall_mem_cons.2 ⟨(hd 21 (by decide)).1, (fun _ h => by cases h)⟩⟩⟩)
      have v38 : ev (.tmp 38) = (.pointer (some ⟨w.heap.size + 1, 0, none⟩)) := (hd 19 (by decide)).2.trans (hV 19 (by decide) (hd 19 (by decide)).1)
      have v40 : ev (.tmp 40) = (.agg #[.int .i64 a, .int .i64 b]) := (hd 21 (by decide)).2.trans (hV 21 (by decide) (hd 21 (by decide)).1)
      obtain ⟨G, hn⟩ := sepn HV.out hw.1 (i := 1) rfl
      refine ifw (by show (yv (ev (.tmp 32)) == some false) = true; rw [vg]; rfl) (ifn rfl ?_)
      clear vg
      refine set_call (f := 14) (args := #[.pointer (some ⟨w.heap.size + 1, 0, none⟩), .agg #[.int .i64 a, .int .i64 b]]) ?_ (HV.out.ends _ (.pointer (some ⟨w.heap.size + 1, 0, none⟩)) G a b hn) ?_
      · have e0 := hE.func; have e1 := hE.const; clear hE hd hw hS hV hK hcl
        go_simp
      · rintro e w' ⟨A, c, rfl, hb⟩
        exact ⟨_, rfl, VVs.add hV (⟨A, c, rfl⟩), hcl, hw.keep hb⟩
    · rintro ev wv S val hE ⟨hV, hK, hw⟩ hS hd
      have vg : ev (.tmp 32) = (.bool false) := (hd 13 (by decide)).2.trans (hV 13 (by decide) (hd 13 (by decide)).1)
      have hcl := Clo.add hK (i := 23) (List.forall_mem_cons.2 ⟨(hd 13 (by decide)).1, List.forall_mem_cons.2 ⟨(hd 22 (by decide)).1, (fun _ h => by cases h)⟩⟩)
      obtain ⟨A22, c22, g22⟩ := hV 22 (by decide) (hd 22 (by decide)).1
      have v41 : ev (.tmp 41) = .slice A22 0 c22 := (hd 22 (by decide)).2.trans g22
      refine ifw (by show (yv (ev (.tmp 32)) == some false) = true; rw [vg]; rfl) (ifw rfl ⟨.int .i64 0, fun w9 => ?_, VVs.add hV rfl, hcl, hw⟩)
      clear vg
      have e1 := hE.const; have e2 := hE.func; clear hE hd hw hS hV hK hcl
      show _ = Result.ok (Next.value (.int .i64 0)) w9
      go_simp
    · rintro ev wv S val hE ⟨hV, hK, hw⟩ hS hd
      have vg : ev (.tmp 32) = (.bool false) := (hd 13 (by decide)).2.trans (hV 13 (by decide) (hd 13 (by decide)).1)
      have hcl := Clo.add hK (i := 24) (List.forall_mem_cons.2 ⟨(hd 13 (by decide)).1, List.forall_mem_cons.2 ⟨(hd 18 (by decide)).1, List.forall_mem_cons.2 ⟨(hd 23 (by decide)).1, (fun _ h => by cases h)⟩⟩⟩)
      have v37 : ev (.tmp 37) = (.int .i64 0) := (hd 18 (by decide)).2.trans (hV 18 (by decide) (hd 18 (by decide)).1)
      have v42 : ev (.tmp 42) = (.int .i64 0) := (hd 23 (by decide)).2.trans (hV 23 (by decide) (hd 23 (by decide)).1)
      refine ifw (by show (yv (ev (.tmp 32)) == some false) = true; rw [vg]; rfl) (ifw rfl ⟨.int .i64 0, fun w9 => ?_, VVs.add hV rfl, hcl, hw⟩)
      clear vg
      have e1 := hE.const; have e2 := hE.func; clear hE hd hw hS hV hK hcl
      have hw0 : IntKind.i64.wrap 0 = 0 := rfl
      show _ = Result.ok (Next.value (.int .i64 0)) w9
      go_simp
    · rintro ev wv S val hE ⟨hV, hK, hw⟩ hS hd
      have vg : ev (.tmp 32) = (.bool false) := (hd 13 (by decide)).2.trans (hV 13 (by decide) (hd 13 (by decide)).1)
      have hcl := Clo.add hK (i := 25) (List.forall_mem_cons.2 ⟨(hd 13 (by decide)).1, (fun _ h => by cases h)⟩)
      have v8 : ev (.tmp 8) = .pointer (some ⟨w.heap.size + 1, 0, none⟩) := hE.tmp 8 rfl
      refine ifw (by show (yv (ev (.tmp 32)) == some false) = true; rw [vg]; rfl) (ifw rfl ⟨.pointer (some ⟨w.heap.size + 1, 0, none⟩), fun w9 => ?_, VVs.add hV rfl, hcl, hw⟩)
      clear vg
      have e1 := hE.const; have e2 := hE.func; clear hE hd hw hS hV hK hcl
      show _ = Result.ok (Next.value (.pointer (some ⟨w.heap.size + 1, 0, none⟩))) w9
      go_simp
    · rintro ev wv S val hE ⟨hV, hK, hw⟩ hS hd
      have vg : ev (.tmp 32) = (.bool false) := (hd 13 (by decide)).2.trans (hV 13 (by decide) (hd 13 (by decide)).1)
      have hcl := Clo.add hK (i := 26) (List.forall_mem_cons.2 ⟨(hd 13 (by decide)).1, List.forall_mem_cons.2 ⟨(hd 25 (by decide)).1, (fun _ h => by cases h)⟩⟩)
      have v44 : ev (.tmp 44) = (.pointer (some ⟨w.heap.size + 1, 0, none⟩)) := (hd 25 (by decide)).2.trans (hV 25 (by decide) (hd 25 (by decide)).1)
      obtain ⟨G, hn⟩ := sepn HV.out hw.1 (i := 1) rfl
      refine ifw (by show (yv (ev (.tmp 32)) == some false) = true; rw [vg]; rfl) (ifn rfl ?_)
      clear vg
      refine set_call (f := 18) (args := #[.pointer (some ⟨w.heap.size + 1, 0, none⟩)]) ?_ (HV.out.pieces _ (.pointer (some ⟨w.heap.size + 1, 0, none⟩)) G hn) ?_
      · have e0 := hE.func; have e1 := hE.const; clear hE hd hw hS hV hK hcl
        go_simp
      · rintro e w' ⟨rfl, hb⟩
        exact ⟨_, rfl, VVs.add hV (rfl), hcl, hw.keep hb⟩
    · rintro ev wv S val hE ⟨hV, hK, hw⟩ hS hd
      have vg : ev (.tmp 32) = (.bool false) := (hd 13 (by decide)).2.trans (hV 13 (by decide) (hd 13 (by decide)).1)
      have hcl := Clo.add hK (i := 27) (List.forall_mem_cons.2 ⟨(hd 13 (by decide)).1, List.forall_mem_cons.2 ⟨(hd 24 (by decide)).1, List.forall_mem_cons.2 ⟨(hd 26 (by decide)).1, (fun _ h => by cases h)⟩⟩⟩)
      have v43 : ev (.tmp 43) = (.int .i64 0) := (hd 24 (by decide)).2.trans (hV 24 (by decide) (hd 24 (by decide)).1)
      have v45 : ev (.tmp 45) = (.int .i64 0) := (hd 26 (by decide)).2.trans (hV 26 (by decide) (hd 26 (by decide)).1)
      refine ifw (by show (yv (ev (.tmp 32)) == some false) = true; rw [vg]; rfl) (ifw rfl ⟨.int .i64 0, fun w9 => ?_, VVs.add hV rfl, hcl, hw⟩)
      clear vg
      have e1 := hE.const; have e2 := hE.func; clear hE hd hw hS hV hK hcl
      have hw0 : IntKind.i64.wrap 0 = 0 := rfl
      show _ = Result.ok (Next.value (.int .i64 0)) w9
      go_simp
    · rintro ev wv S val hE ⟨hV, hK, hw⟩ hS hd
      have vg : ev (.tmp 32) = (.bool false) := (hd 13 (by decide)).2.trans (hV 13 (by decide) (hd 13 (by decide)).1)
      have hcl := Clo.add hK (i := 28) (List.forall_mem_cons.2 ⟨(hd 13 (by decide)).1, List.forall_mem_cons.2 ⟨(hd 27 (by decide)).1, (fun _ h => by cases h)⟩⟩)
      have v46 : ev (.tmp 46) = (.int .i64 0) := (hd 27 (by decide)).2.trans (hV 27 (by decide) (hd 27 (by decide)).1)
      refine ifw (by show (yv (ev (.tmp 32)) == some false) = true; rw [vg]; rfl) (ifw rfl ⟨.bool false, fun w9 => ?_, VVs.add hV rfl, hcl, hw⟩)
      clear vg
      have e1 := hE.const; have e2 := hE.func; clear hE hd hw hS hV hK hcl
      show _ = Result.ok (Next.value (.bool false)) w9
      go_simp
    · rintro ev wv S val hE ⟨hV, hK, hw⟩ hS hd
      have hcl := Clo.add hK (i := 29) (List.forall_mem_cons.2 ⟨(hd 13 (by decide)).1, List.forall_mem_cons.2 ⟨(hd 28 (by decide)).1, (fun _ h => by cases h)⟩⟩)
      have v32 : ev (.tmp 32) = (.bool false) := (hd 13 (by decide)).2.trans (hV 13 (by decide) (hd 13 (by decide)).1)
      have v47 : ev (.tmp 47) = (.bool false) := (hd 28 (by decide)).2.trans (hV 28 (by decide) (hd 28 (by decide)).1)
      refine ifw rfl (ifw rfl ⟨.bool false, fun w9 => ?_, VVs.add hV rfl, hcl, hw⟩)
      have e1 := hE.const; have e2 := hE.func; clear hE hd hw hS hV hK hcl
      show _ = Result.ok (Next.value (.bool false)) w9
      go_simp
    · rintro ev wv S val hE ⟨hV, hK, hw⟩ hS hd
      have hcl := Clo.add hK (i := 30) (List.forall_mem_cons.2 ⟨(hd 29 (by decide)).1, (fun _ h => by cases h)⟩)
      have v48 : ev (.tmp 48) = (.bool false) := (hd 29 (by decide)).2.trans (hV 29 (by decide) (hd 29 (by decide)).1)
      refine ifw rfl (ifw rfl ⟨.bool false, fun w9 => ?_, VVs.add hV rfl, hcl, hw⟩)
      have e1 := hE.const; have e2 := hE.func; clear hE hd hw hS hV hK hcl
      show _ = Result.ok (Next.value (.bool false)) w9
      go_simp
    · rintro ev wv S val hE ⟨hV, hK, hw⟩ hS hd
      have vg : ev (.tmp 49) = (.bool false) := (hd 30 (by decide)).2.trans (hV 30 (by decide) (hd 30 (by decide)).1)
      have hcl := Clo.add hK (i := 31) (List.forall_mem_cons.2 ⟨(hd 30 (by decide)).1, (fun _ h => by cases h)⟩)
      have v9 : ev (.tmp 9) = .pointer (some qc1) := hE.tmp 9 rfl
      refine ifw (by show (yv (ev (.tmp 49)) == some false) = true; rw [vg]; rfl) (ifw rfl ⟨.pointer (some qc1), fun w9 => ?_, VVs.add hV rfl, hcl, hw⟩)
      clear vg
      have e1 := hE.const; have e2 := hE.func; clear hE hd hw hS hV hK hcl
      show _ = Result.ok (Next.value (.pointer (some qc1))) w9
      go_simp
    · rintro ev wv S val hE ⟨hV, hK, hw⟩ hS hd
      have vg : ev (.tmp 49) = (.bool false) := (hd 30 (by decide)).2.trans (hV 30 (by decide) (hd 30 (by decide)).1)
      have hcl := Clo.add hK (i := 32) (List.forall_mem_cons.2 ⟨(hd 30 (by decide)).1, List.forall_mem_cons.2 ⟨(hd 31 (by decide)).1, (fun _ h => by cases h)⟩⟩)
      have v50 : ev (.tmp 50) = (.pointer (some qc1)) := (hd 31 (by decide)).2.trans (hV 31 (by decide) (hd 31 (by decide)).1)
      refine ifw (by show (yv (ev (.tmp 49)) == some false) = true; rw [vg]; rfl) (ifw rfl ⟨.bool false, fun w9 => ?_, VVs.add hV rfl, hcl, hw⟩)
      clear vg
      have e1 := hE.const; have e2 := hE.func; clear hE hd hw hS hV hK hcl
      show _ = Result.ok (Next.value (.bool false)) w9
      go_simp
    · rintro ev wv S val hE ⟨hV, hK, hw⟩ hS hd
      have hcl := Clo.add hK (i := 33) (List.forall_mem_cons.2 ⟨(hd 30 (by decide)).1, List.forall_mem_cons.2 ⟨(hd 32 (by decide)).1, (fun _ h => by cases h)⟩⟩)
      have v49 : ev (.tmp 49) = (.bool false) := (hd 30 (by decide)).2.trans (hV 30 (by decide) (hd 30 (by decide)).1)
      have v51 : ev (.tmp 51) = (.bool false) := (hd 32 (by decide)).2.trans (hV 32 (by decide) (hd 32 (by decide)).1)
      refine ifw rfl (ifw rfl ⟨.bool false, fun w9 => ?_, VVs.add hV rfl, hcl, hw⟩)
      have e1 := hE.const; have e2 := hE.func; clear hE hd hw hS hV hK hcl
      show _ = Result.ok (Next.value (.bool false)) w9
      go_simp
    · rintro ev wv S val hE ⟨hV, hK, hw⟩ hS hd
      have hcl := Clo.add hK (i := 34) (List.forall_mem_cons.2 ⟨(hd 33 (by decide)).1, (fun _ h => by cases h)⟩)
      have v52 : ev (.tmp 52) = (.bool false) := (hd 33 (by decide)).2.trans (hV 33 (by decide) (hd 33 (by decide)).1)
      refine ifw rfl (ifw rfl ⟨.bool false, fun w9 => ?_, VVs.add hV rfl, hcl, hw⟩)
      have e1 := hE.const; have e2 := hE.func; clear hE hd hw hS hV hK hcl
      show _ = Result.ok (Next.value (.bool false)) w9
      go_simp
    · rintro ev wv S val hE ⟨hV, hK, hw⟩ hS hd
      have vg : ev (.tmp 53) = (.bool false) := (hd 34 (by decide)).2.trans (hV 34 (by decide) (hd 34 (by decide)).1)
      have hcl := Clo.add hK (i := 35) (List.forall_mem_cons.2 ⟨(hd 34 (by decide)).1, (fun _ h => by cases h)⟩)
      have v9 : ev (.tmp 9) = .pointer (some qc1) := hE.tmp 9 rfl
      refine ifw (by show (yv (ev (.tmp 53)) == some false) = true; rw [vg]; rfl) (ifw rfl ⟨.pointer (some qc1), fun w9 => ?_, VVs.add hV rfl, hcl, hw⟩)
      clear vg
      have e1 := hE.const; have e2 := hE.func; clear hE hd hw hS hV hK hcl
      show _ = Result.ok (Next.value (.pointer (some qc1))) w9
      go_simp
    · rintro ev wv S val hE ⟨hV, hK, hw⟩ hS hd
      have vg : ev (.tmp 53) = (.bool false) := (hd 34 (by decide)).2.trans (hV 34 (by decide) (hd 34 (by decide)).1)
      have hcl := Clo.add hK (i := 36) (List.forall_mem_cons.2 ⟨(hd 34 (by decide)).1, (fun _ h => by cases h)⟩)
      have v8 : ev (.tmp 8) = .pointer (some ⟨w.heap.size + 1, 0, none⟩) := hE.tmp 8 rfl
      refine ifw (by show (yv (ev (.tmp 53)) == some false) = true; rw [vg]; rfl) (ifw rfl ⟨.pointer (some ⟨w.heap.size + 1, 0, none⟩), fun w9 => ?_, VVs.add hV rfl, hcl, hw⟩)
      clear vg
      have e1 := hE.const; have e2 := hE.func; clear hE hd hw hS hV hK hcl
      show _ = Result.ok (Next.value (.pointer (some ⟨w.heap.size + 1, 0, none⟩))) w9
      go_simp
    · rintro ev wv S val hE ⟨hV, hK, hw⟩ hS hd
      have vg : ev (.tmp 53) = (.bool false) := (hd 34 (by decide)).2.trans (hV 34 (by decide) (hd 34 (by decide)).1)
      have hcl := Clo.add hK (i := 37) (List.forall_mem_cons.2 ⟨(hd 34 (by decide)).1, List.forall_mem_cons.2 ⟨(hd 35 (by decide)).1, List.forall_mem_cons.2 ⟨(hd 36 (by decide)).1, (fun _ h => by cases h)⟩⟩⟩)
      have v54 : ev (.tmp 54) = (.pointer (some qc1)) := (hd 35 (by decide)).2.trans (hV 35 (by decide) (hd 35 (by decide)).1)
      have v55 : ev (.tmp 55) = (.pointer (some ⟨w.heap.size + 1, 0, none⟩)) := (hd 36 (by decide)).2.trans (hV 36 (by decide) (hd 36 (by decide)).1)
      have s49 : S 49 = false := by
        cases h0 : S 49 with
        | false => rfl
        | true =>
          have q46 := hK 49 h0 46 (by decide)
          have q45 := hK 46 q46 45 (by decide)
          have q40 := hK 45 q45 40 (by decide)
          have q39 := hK 40 q40 39 (by decide)
          have q38 := hK 39 q39 38 (by decide)
          have q37 := hK 38 q38 37 (by decide)
          exact absurd q37 (by rw [hS]; decide)
      have hw1 : NoneD HK.out HV.out w [blkT w.heap.size #[.int .i64 a, .int .i64 b, .int .i64 v], nilT HV.out (.pointer (some ⟨w.heap.size + 1, 0, none⟩)), blkT (w.heap.size + 2) #[.pointer none, .pointer (some ⟨w.heap.size + 1, 0, none⟩)], nilT HV.out (.pointer none)] (.pointer (some qc1)) false (S 42) (val 42) wv := by have h := hw; rw [s49] at h; exact h
      refine ifw (by show (yv (ev (.tmp 53)) == some false) = true; rw [vg]; rfl) (ifn rfl ?_)
      clear vg
      refine set_call (f := 21) (args := #[.pointer (some qc1), .pointer (some ⟨w.heap.size + 1, 0, none⟩)]) ?_ (sepn_same1 HK.out HV.out hw1.1 (i := 1) rfl (j := 4) rfl (by decide)) ?_
      · have e0 := hE.func; have e1 := hE.const; clear hE hd hw hS hV hK hcl
        go_simp
      · rintro e w' ⟨l1, l2, h1, h2, rfl, hb⟩
        exact ⟨_, rfl, VVs.add hV (by rw [segF_one h1 h2, decide_eq_true rfl]; rfl), hcl, hw.keep hb⟩
    · rintro ev wv S val hE ⟨hV, hK, hw⟩ hS hd
      have vg : ev (.tmp 53) = (.bool false) := (hd 34 (by decide)).2.trans (hV 34 (by decide) (hd 34 (by decide)).1)
      have hcl := Clo.add hK (i := 38) (List.forall_mem_cons.2 ⟨(hd 34 (by decide)).1, List.forall_mem_cons.2 ⟨(hd 37 (by decide)).1, (fun _ h => by cases h)⟩⟩)
      have v56 : ev (.tmp 56) = (.bool true) := (hd 37 (by decide)).2.trans (hV 37 (by decide) (hd 37 (by decide)).1)
      refine ifw (by show (yv (ev (.tmp 53)) == some false) = true; rw [vg]; rfl) (ifw rfl ⟨.bool false, fun w9 => ?_, VVs.add hV rfl, hcl, hw⟩)
      clear vg
      have e1 := hE.const; have e2 := hE.func; clear hE hd hw hS hV hK hcl
      show _ = Result.ok (Next.value (.bool false)) w9
      go_simp
    · rintro ev wv S val hE ⟨hV, hK, hw⟩ hS hd
      have hcl := Clo.add hK (i := 39) (List.forall_mem_cons.2 ⟨(hd 34 (by decide)).1, List.forall_mem_cons.2 ⟨(hd 38 (by decide)).1, (fun _ h => by cases h)⟩⟩)
      have v53 : ev (.tmp 53) = (.bool false) := (hd 34 (by decide)).2.trans (hV 34 (by decide) (hd 34 (by decide)).1)
      have v57 : ev (.tmp 57) = (.bool false) := (hd 38 (by decide)).2.trans (hV 38 (by decide) (hd 38 (by decide)).1)
      refine ifw rfl (ifw rfl ⟨.bool false, fun w9 => ?_, VVs.add hV rfl, hcl, hw⟩)
      have e1 := hE.const; have e2 := hE.func; clear hE hd hw hS hV hK hcl
      show _ = Result.ok (Next.value (.bool false)) w9
      go_simp
    · rintro ev wv S val hE ⟨hV, hK, hw⟩ hS hd
      have hcl := Clo.add hK (i := 40) (List.forall_mem_cons.2 ⟨(hd 39 (by decide)).1, (fun _ h => by cases h)⟩)
      have v58 : ev (.tmp 58) = (.bool false) := (hd 39 (by decide)).2.trans (hV 39 (by decide) (hd 39 (by decide)).1)
      refine ifw rfl (ifw rfl ⟨.bool false, fun w9 => ?_, VVs.add hV rfl, hcl, hw⟩)
      have e1 := hE.const; have e2 := hE.func; clear hE hd hw hS hV hK hcl
      show _ = Result.ok (Next.value (.bool false)) w9
      go_simp
    · rintro ev wv S val hE ⟨hV, hK, hw⟩ hS hd
      have vg : ev (.tmp 59) = (.bool false) := (hd 40 (by decide)).2.trans (hV 40 (by decide) (hd 40 (by decide)).1)
      have hcl := Clo.add hK (i := 41) (List.forall_mem_cons.2 ⟨(hd 40 (by decide)).1, (fun _ h => by cases h)⟩)
      have v8 : ev (.tmp 8) = .pointer (some ⟨w.heap.size + 1, 0, none⟩) := hE.tmp 8 rfl
      refine ifw (by show (yv (ev (.tmp 59)) == some false) = true; rw [vg]; rfl) (ifw rfl ⟨.pointer (some ⟨w.heap.size + 1, 0, none⟩), fun w9 => ?_, VVs.add hV rfl, hcl, hw⟩)
      clear vg
      have e1 := hE.const; have e2 := hE.func; clear hE hd hw hS hV hK hcl
      show _ = Result.ok (Next.value (.pointer (some ⟨w.heap.size + 1, 0, none⟩))) w9
      go_simp
    · rintro ev wv S val hE ⟨hV, hK, hw⟩ hS hd
      have vg : ev (.tmp 59) = (.bool false) := (hd 40 (by decide)).2.trans (hV 40 (by decide) (hd 40 (by decide)).1)
      have hcl := Clo.add hK (i := 42) (List.forall_mem_cons.2 ⟨(hd 40 (by decide)).1, (fun _ h => by cases h)⟩)
      refine ifw (by show (yv (ev (.tmp 59)) == some false) = true; rw [vg]; rfl) (ifn rfl ?_)
      clear vg
      refine set_call (f := 9) (args := #[]) ?_ (HK.out.make _) ?_
      · have e0 := hE.func; have e1 := hE.const; clear hE hd hw hS hV hK hcl
        go_simp
      · rintro e w' ⟨q, G, rfl, hr, hb, hG⟩
        exact ⟨_, rfl, VVs.add hV (⟨q, rfl⟩), hcl, ⟨hw.1.keep hb, fun _ _ => ⟨q, G, rfl, hr⟩⟩⟩
    · rintro ev wv S val hE ⟨hV, hK, hw⟩ hS hd
      have vg : ev (.tmp 59) = (.bool false) := (hd 40 (by decide)).2.trans (hV 40 (by decide) (hd 40 (by decide)).1)
      have hcl := Clo.add hK (i := 43) (List.forall_mem_cons.2 ⟨(hd 40 (by decide)).1, List.forall_mem_cons.2 ⟨(hd 41 (by decide)).1, List.forall_mem_cons.2 ⟨(hd 42 (by decide)).1, (fun _ h => by cases h)⟩⟩⟩)
      have v60 : ev (.tmp 60) = (.pointer (some ⟨w.heap.size + 1, 0, none⟩)) := (hd 41 (by decide)).2.trans (hV 41 (by decide) (hd 41 (by decide)).1)
      obtain ⟨q42, g42⟩ := hV 42 (by decide) (hd 42 (by decide)).1
      have v61 : ev (.tmp 61) = .pointer (some q42) := (hd 42 (by decide)).2.trans g42
      have s49 : S 49 = false := by
        cases h0 : S 49 with
        | false => rfl
        | true =>
          have q46 := hK 49 h0 46 (by decide)
          have q45 := hK 46 q46 45 (by decide)
          have q44 := hK 45 q45 44 (by decide)
          have q43 := hK 44 q44 43 (by decide)
          exact absurd q43 (by rw [hS]; decide)
      have hw1 : NoneD HK.out HV.out w [blkT w.heap.size #[.int .i64 a, .int .i64 b, .int .i64 v], nilT HV.out (.pointer (some ⟨w.heap.size + 1, 0, none⟩)), blkT (w.heap.size + 2) #[.pointer none, .pointer (some ⟨w.heap.size + 1, 0, none⟩)], nilT HV.out (.pointer none)] (.pointer (some qc1)) false (S 42) (val 42) wv := by have h := hw; rw [s49] at h; exact h
      obtain ⟨G, hn⟩ := sepn HV.out hw.1 (i := 1) rfl
      obtain ⟨q', G2, e', hr⟩ := hw1.2 (hd 42 (by decide)).1 rfl
      obtain rfl : q42 = q' := by rw [g42] at e'; simpa using e'
      refine ifw (by show (yv (ev (.tmp 59)) == some false) = true; rw [vg]; rfl) (ifn rfl ?_)
      clear vg
      refine set_call (f := 21) (args := #[.pointer (some ⟨w.heap.size + 1, 0, none⟩), .pointer (some q42)]) ?_ (HV.out.same2 _ (.pointer (some ⟨w.heap.size + 1, 0, none⟩)) _ G2 G 0 _ hn hr (by decide)) ?_
      · have e0 := hE.func; have e1 := hE.const; clear hE hd hw hS hV hK hcl
        go_simp
      · rintro e w' ⟨l1, l2, h1, h2, rfl, hb⟩
        exact ⟨_, rfl, VVs.add hV (by rw [segF_one h1 h2, decide_eq_true rfl]; rfl), hcl, hw.keep hb⟩
    · rintro ev wv S val hE ⟨hV, hK, hw⟩ hS hd
      have vg : ev (.tmp 59) = (.bool false) := (hd 40 (by decide)).2.trans (hV 40 (by decide) (hd 40 (by decide)).1)
      have hcl := Clo.add hK (i := 44) (List.forall_mem_cons.2 ⟨(hd 40 (by decide)).1, List.forall_mem_cons.2 ⟨(hd 43 (by decide)).1, (fun _ h => by cases h)⟩⟩)
      have v62 : ev (.tmp 62) = (.bool true) := (hd 43 (by decide)).2.trans (hV 43 (by decide) (hd 43 (by decide)).1)
      refine ifw (by show (yv (ev (.tmp 59)) == some false) = true; rw [vg]; rfl) (ifw rfl ⟨.bool false, fun w9 => ?_, VVs.add hV rfl, hcl, hw⟩)
      clear vg
      have e1 := hE.const; have e2 := hE.func; clear hE hd hw hS hV hK hcl
      show _ = Result.ok (Next.value (.bool false)) w9
      go_simp
    · rintro ev wv S val hE ⟨hV, hK, hw⟩ hS hd
      have hcl := Clo.add hK (i := 45) (List.forall_mem_cons.2 ⟨(hd 40 (by decide)).1, List.forall_mem_cons.2 ⟨(hd 44 (by decide)).1, (fun _ h => by cases h)⟩⟩)
      have v59 : ev (.tmp 59) = (.bool false) := (hd 40 (by decide)).2.trans (hV 40 (by decide) (hd 40 (by decide)).1)
      have v63 : ev (.tmp 63) = (.bool false) := (hd 44 (by decide)).2.trans (hV 44 (by decide) (hd 44 (by decide)).1)
      refine ifw rfl (ifw rfl ⟨.bool false, fun w9 => ?_, VVs.add hV rfl, hcl, hw⟩)
      have e1 := hE.const; have e2 := hE.func; clear hE hd hw hS hV hK hcl
      show _ = Result.ok (Next.value (.bool false)) w9
      go_simp
    · rintro ev wv S val hE ⟨hV, hK, hw⟩ hS hd
      have hcl := Clo.add hK (i := 46) (List.forall_mem_cons.2 ⟨(hd 45 (by decide)).1, (fun _ h => by cases h)⟩)
      have v64 : ev (.tmp 64) = (.bool false) := (hd 45 (by decide)).2.trans (hV 45 (by decide) (hd 45 (by decide)).1)
      refine ifw rfl (ifw rfl ⟨.bool false, fun w9 => ?_, VVs.add hV rfl, hcl, hw⟩)
      have e1 := hE.const; have e2 := hE.func; clear hE hd hw hS hV hK hcl
      show _ = Result.ok (Next.value (.bool false)) w9
      go_simp
    · rintro ev wv S val hE ⟨hV, hK, hw⟩ hS hd
      have vg : ev (.tmp 65) = (.bool false) := (hd 46 (by decide)).2.trans (hV 46 (by decide) (hd 46 (by decide)).1)
      have hcl := Clo.add hK (i := 47) (List.forall_mem_cons.2 ⟨(hd 46 (by decide)).1, (fun _ h => by cases h)⟩)
      have v9 : ev (.tmp 9) = .pointer (some qc1) := hE.tmp 9 rfl
      refine ifw (by show (yv (ev (.tmp 65)) == some false) = true; rw [vg]; rfl) (ifw rfl ⟨.pointer (some qc1), fun w9 => ?_, VVs.add hV rfl, hcl, hw⟩)
      clear vg
      have e1 := hE.const; have e2 := hE.func; clear hE hd hw hS hV hK hcl
      show _ = Result.ok (Next.value (.pointer (some qc1))) w9
      go_simp
    · rintro ev wv S val hE ⟨hV, hK, hw⟩ hS hd
      have vg : ev (.tmp 65) = (.bool false) := (hd 46 (by decide)).2.trans (hV 46 (by decide) (hd 46 (by decide)).1)
      have hcl := Clo.add hK (i := 48) (List.forall_mem_cons.2 ⟨(hd 46 (by decide)).1, (fun _ h => by cases h)⟩)
      refine ifw (by show (yv (ev (.tmp 65)) == some false) = true; rw [vg]; rfl) (ifw rfl ⟨.agg #[.int .i64 1, .int .i64 2], fun w9 => ?_, VVs.add hV rfl, hcl, hw⟩)
      clear vg
      have e1 := hE.const; have e2 := hE.func; clear hE hd hw hS hV hK hcl
      show _ = Result.ok (Next.value (.agg #[.int .i64 1, .int .i64 2])) w9
      go_simp
    · rintro ev wv S val hE ⟨hV, hK, hw⟩ hS hd
      have vg : ev (.tmp 65) = (.bool false) := (hd 46 (by decide)).2.trans (hV 46 (by decide) (hd 46 (by decide)).1)
      have hcl := Clo.add hK (i := 49) (List.forall_mem_cons.2 ⟨(hd 46 (by decide)).1, List.forall_mem_cons.2 ⟨(hd 47 (by decide)).1, List.forall_mem_cons.2 ⟨(hd 48 (by decide)).1, (fun _ h => by cases h)⟩⟩⟩)
      have v66 : ev (.tmp 66) = (.pointer (some qc1)) := (hd 47 (by decide)).2.trans (hV 47 (by decide) (hd 47 (by decide)).1)
      have v67 : ev (.tmp 67) = (.agg #[.int .i64 1, .int .i64 2]) := (hd 48 (by decide)).2.trans (hV 48 (by decide) (hd 48 (by decide)).1)
      have s49 := hS
      have hw1 : NoneD HK.out HV.out w [blkT w.heap.size #[.int .i64 a, .int .i64 b, .int .i64 v], nilT HV.out (.pointer (some ⟨w.heap.size + 1, 0, none⟩)), blkT (w.heap.size + 2) #[.pointer none, .pointer (some ⟨w.heap.size + 1, 0, none⟩)], nilT HV.out (.pointer none)] (.pointer (some qc1)) false (S 42) (val 42) wv := by have h := hw; rw [s49] at h; exact h
      refine ifw (by show (yv (ev (.tmp 65)) == some false) = true; rw [vg]; rfl) (ifn rfl ?_)
      clear vg
      refine set_call (f := 10) (args := #[.pointer (some qc1), .agg #[.int .i64 1, .int .i64 2], .int .i64 1]) ?_ (sep_tput HK.out hw1.1 (i := 4) rfl (by decide) 1 2 1) ?_
      · have e0 := hE.func; have e1 := hE.const; clear hE hd hw hS hV hK hcl
        go_simp
      · rintro e w' ⟨rfl, s5⟩
        exact ⟨_, rfl, VVs.add hV (rfl), hcl, ⟨s5, fun _ h => by cases h⟩⟩
    · rintro ev wv S val hE ⟨hV, hK, hw⟩ hS hd
      have vg : ev (.tmp 65) = (.bool false) := (hd 46 (by decide)).2.trans (hV 46 (by decide) (hd 46 (by decide)).1)
      have hcl := Clo.add hK (i := 50) (List.forall_mem_cons.2 ⟨(hd 46 (by decide)).1, List.forall_mem_cons.2 ⟨(hd 49 (by decide)).1, (fun _ h => by cases h)⟩⟩)
      have v68 : ev (.tmp 68) = (.int .i64 0) := (hd 49 (by decide)).2.trans (hV 49 (by decide) (hd 49 (by decide)).1)
      refine ifw (by show (yv (ev (.tmp 65)) == some false) = true; rw [vg]; rfl) (ifw rfl ⟨.bool false, fun w9 => ?_, VVs.add hV rfl, hcl, hw⟩)
      clear vg
      have e1 := hE.const; have e2 := hE.func; clear hE hd hw hS hV hK hcl
      show _ = Result.ok (Next.value (.bool false)) w9
      go_simp
    · rintro ev wv S val hE ⟨hV, hK, hw⟩ hS hd
      have hcl := Clo.add hK (i := 51) (List.forall_mem_cons.2 ⟨(hd 46 (by decide)).1, List.forall_mem_cons.2 ⟨(hd 50 (by decide)).1, (fun _ h => by cases h)⟩⟩)
      have v65 : ev (.tmp 65) = (.bool false) := (hd 46 (by decide)).2.trans (hV 46 (by decide) (hd 46 (by decide)).1)
      have v69 : ev (.tmp 69) = (.bool false) := (hd 50 (by decide)).2.trans (hV 50 (by decide) (hd 50 (by decide)).1)
      refine ifw rfl (ifw rfl ⟨.bool false, fun w9 => ?_, VVs.add hV rfl, hcl, hw⟩)
      have e1 := hE.const; have e2 := hE.func; clear hE hd hw hS hV hK hcl
      show _ = Result.ok (Next.value (.bool false)) w9
      go_simp
    · rintro ev wv S val hE ⟨hV, hK, hw⟩ hS hd
      have hcl := Clo.add hK (i := 52) (List.forall_mem_cons.2 ⟨(hd 51 (by decide)).1, (fun _ h => by cases h)⟩)
      have v70 : ev (.tmp 70) = (.bool false) := (hd 51 (by decide)).2.trans (hV 51 (by decide) (hd 51 (by decide)).1)
      refine ifw rfl (ifw rfl ⟨.bool false, fun w9 => ?_, VVs.add hV rfl, hcl, hw⟩)
      have e1 := hE.const; have e2 := hE.func; clear hE hd hw hS hV hK hcl
      show _ = Result.ok (Next.value (.bool false)) w9
      go_simp
    · rintro ev wv S val hE ⟨hV, hK, hw⟩ hS hd
      have vg : ev (.tmp 71) = (.bool false) := (hd 52 (by decide)).2.trans (hV 52 (by decide) (hd 52 (by decide)).1)
      have hcl := Clo.add hK (i := 53) (List.forall_mem_cons.2 ⟨(hd 52 (by decide)).1, (fun _ h => by cases h)⟩)
      have v9 : ev (.tmp 9) = .pointer (some qc1) := hE.tmp 9 rfl
      refine ifw (by show (yv (ev (.tmp 71)) == some false) = true; rw [vg]; rfl) (ifw rfl ⟨.pointer (some qc1), fun w9 => ?_, VVs.add hV rfl, hcl, hw⟩)
      clear vg
      have e1 := hE.const; have e2 := hE.func; clear hE hd hw hS hV hK hcl
      show _ = Result.ok (Next.value (.pointer (some qc1))) w9
      go_simp
    · rintro ev wv S val hE ⟨hV, hK, hw⟩ hS hd
      have vg : ev (.tmp 71) = (.bool false) := (hd 52 (by decide)).2.trans (hV 52 (by decide) (hd 52 (by decide)).1)
      have hcl := Clo.add hK (i := 54) (List.forall_mem_cons.2 ⟨(hd 52 (by decide)).1, (fun _ h => by cases h)⟩)
      have v8 : ev (.tmp 8) = .pointer (some ⟨w.heap.size + 1, 0, none⟩) := hE.tmp 8 rfl
      refine ifw (by show (yv (ev (.tmp 71)) == some false) = true; rw [vg]; rfl) (ifw rfl ⟨.pointer (some ⟨w.heap.size + 1, 0, none⟩), fun w9 => ?_, VVs.add hV rfl, hcl, hw⟩)
      clear vg
      have e1 := hE.const; have e2 := hE.func; clear hE hd hw hS hV hK hcl
      show _ = Result.ok (Next.value (.pointer (some ⟨w.heap.size + 1, 0, none⟩))) w9
      go_simp
    · rintro ev wv S val hE ⟨hV, hK, hw⟩ hS hd
      have vg : ev (.tmp 71) = (.bool false) := (hd 52 (by decide)).2.trans (hV 52 (by decide) (hd 52 (by decide)).1)
      have hcl := Clo.add hK (i := 55) (List.forall_mem_cons.2 ⟨(hd 52 (by decide)).1, List.forall_mem_cons.2 ⟨(hd 53 (by decide)).1, List.forall_mem_cons.2 ⟨(hd 54 (by decide)).1, (fun _ h => by cases h)⟩⟩⟩)
      have v72 : ev (.tmp 72) = (.pointer (some qc1)) := (hd 53 (by decide)).2.trans (hV 53 (by decide) (hd 53 (by decide)).1)
      have v73 : ev (.tmp 73) = (.pointer (some ⟨w.heap.size + 1, 0, none⟩)) := (hd 54 (by decide)).2.trans (hV 54 (by decide) (hd 54 (by decide)).1)
      have q52 := (hd 52 (by decide)).1
      have q51 := hK 52 q52 51 (by decide)
      have q50 := hK 51 q51 50 (by decide)
      have q49 := hK 50 q50 49 (by decide)
      have s49 : S 49 = true := q49
      have hw1 : NoneD HK.out HV.out w [blkT w.heap.size #[.int .i64 a, .int .i64 b, .int .i64 v], nilT HV.out (.pointer (some ⟨w.heap.size + 1, 0, none⟩)), blkT (w.heap.size + 2) #[.pointer none, .pointer (some ⟨w.heap.size + 1, 0, none⟩)], nilT HV.out (.pointer none)] (.pointer (some qc1)) true (S 42) (val 42) wv := by have h := hw; rw [s49] at h; exact h
      refine ifw (by show (yv (ev (.tmp 71)) == some false) = true; rw [vg]; rfl) (ifn rfl ?_)
      clear vg
      refine set_call (f := 21) (args := #[.pointer (some qc1), .pointer (some ⟨w.heap.size + 1, 0, none⟩)]) ?_ (sepn_same1 HK.out HV.out hw1.1 (i := 1) rfl (j := 4) rfl (by decide)) ?_
      · have e0 := hE.func; have e1 := hE.const; clear hE hd hw hS hV hK hcl
        go_simp
      · rintro e w' ⟨l1, l2, h1, h2, rfl, hb⟩
        exact ⟨_, rfl, VVs.add hV (by rw [segF_one h1 cseg1, segF_one h2 cseg0]; rfl), hcl, hw.keep hb⟩
    · rintro ev wv S val hE ⟨hV, hK, hw⟩ hS hd
      have hcl := Clo.add hK (i := 56) (List.forall_mem_cons.2 ⟨(hd 52 (by decide)).1, List.forall_mem_cons.2 ⟨(hd 55 (by decide)).1, (fun _ h => by cases h)⟩⟩)
      have v71 : ev (.tmp 71) = (.bool false) := (hd 52 (by decide)).2.trans (hV 52 (by decide) (hd 52 (by decide)).1)
      have v74 : ev (.tmp 74) = (.bool false) := (hd 55 (by decide)).2.trans (hV 55 (by decide) (hd 55 (by decide)).1)
      refine ifw rfl (ifw rfl ⟨.bool false, fun w9 => ?_, VVs.add hV rfl, hcl, hw⟩)
      have e1 := hE.const; have e2 := hE.func; clear hE hd hw hS hV hK hcl
      show _ = Result.ok (Next.value (.bool false)) w9
      go_simp
    · rintro S val wz hS ⟨hV, hK, hw⟩
      have e0 : val 0 = (.pointer (some ⟨w.heap.size + 1, 0, none⟩)) := hV 0 (by decide) (hS 0 (by decide))
      have e1 : val 1 = (.pointer (some ⟨w.heap.size, 0, none⟩)) := hV 1 (by decide) (hS 1 (by decide))
      have e2 : val 2 = (.agg #[.int .i64 a, .int .i64 b]) := hV 2 (by decide) (hS 2 (by decide))
      have e3 : val 3 = (.pointer (some ⟨w.heap.size, 2, none⟩)) := hV 3 (by decide) (hS 3 (by decide))
      have e4 : val 4 = (.int .i64 v) := hV 4 (by decide) (hS 4 (by decide))
      have e5 : val 5 = (.int .i64 1) := hV 5 (by decide) (hS 5 (by decide))
      have e6 : val 6 = (.bool false) := hV 6 (by decide) (hS 6 (by decide))
      have e7 : val 7 = (.bool false) := hV 7 (by decide) (hS 7 (by decide))
      have e8 : val 8 = (.pointer (some ⟨w.heap.size + 1, 0, none⟩)) := hV 8 (by decide) (hS 8 (by decide))
      have e9 : val 9 = (.int .i64 day) := hV 9 (by decide) (hS 9 (by decide))
      have e10 : val 10 = (.int .i64 0) := hV 10 (by decide) (hS 10 (by decide))
      have e11 : val 11 = (.bool false) := hV 11 (by decide) (hS 11 (by decide))
      have e12 : val 12 = (.bool false) := hV 12 (by decide) (hS 12 (by decide))
      have e13 : val 13 = (.bool false) := hV 13 (by decide) (hS 13 (by decide))
      have e14 : val 14 = (.pointer (some ⟨w.heap.size + 1, 0, none⟩)) := hV 14 (by decide) (hS 14 (by decide))
      have e15 : val 15 = (.pointer (some ⟨w.heap.size, 0, none⟩)) := hV 15 (by decide) (hS 15 (by decide))
      have e16 : val 16 = (.agg #[.int .i64 a, .int .i64 b]) := hV 16 (by decide) (hS 16 (by decide))
      obtain ⟨A17, c17, e17⟩ := hV 17 (by decide) (hS 17 (by decide))
      have e18 : val 18 = (.int .i64 0) := hV 18 (by decide) (hS 18 (by decide))
      have e19 : val 19 = (.pointer (some ⟨w.heap.size + 1, 0, none⟩)) := hV 19 (by decide) (hS 19 (by decide))
      have e20 : val 20 = (.pointer (some ⟨w.heap.size, 0, none⟩)) := hV 20 (by decide) (hS 20 (by decide))
      have e21 : val 21 = (.agg #[.int .i64 a, .int .i64 b]) := hV 21 (by decide) (hS 21 (by decide))
      obtain ⟨A22, c22, e22⟩ := hV 22 (by decide) (hS 22 (by decide))
      have e23 : val 23 = (.int .i64 0) := hV 23 (by decide) (hS 23 (by decide))
      have e24 : val 24 = (.int .i64 0) := hV 24 (by decide) (hS 24 (by decide))
      have e25 : val 25 = (.pointer (some ⟨w.heap.size + 1, 0, none⟩)) := hV 25 (by decide) (hS 25 (by decide))
      have e26 : val 26 = (.int .i64 0) := hV 26 (by decide) (hS 26 (by decide))
      have e27 : val 27 = (.int .i64 0) := hV 27 (by decide) (hS 27 (by decide))
      have e28 : val 28 = (.bool false) := hV 28 (by decide) (hS 28 (by decide))
      have e29 : val 29 = (.bool false) := hV 29 (by decide) (hS 29 (by decide))
      have e30 : val 30 = (.bool false) := hV 30 (by decide) (hS 30 (by decide))
      have e31 : val 31 = (.pointer (some qc1)) := hV 31 (by decide) (hS 31 (by decide))
      have e32 : val 32 = (.bool false) := hV 32 (by decide) (hS 32 (by decide))
      have e33 : val 33 = (.bool false) := hV 33 (by decide) (hS 33 (by decide))
      have e34 : val 34 = (.bool false) := hV 34 (by decide) (hS 34 (by decide))
      have e35 : val 35 = (.pointer (some qc1)) := hV 35 (by decide) (hS 35 (by decide))
      have e36 : val 36 = (.pointer (some ⟨w.heap.size + 1, 0, none⟩)) := hV 36 (by decide) (hS 36 (by decide))
      have e37 : val 37 = (.bool true) := hV 37 (by decide) (hS 37 (by decide))
      have e38 : val 38 = (.bool false) := hV 38 (by decide) (hS 38 (by decide))
      have e39 : val 39 = (.bool false) := hV 39 (by decide) (hS 39 (by decide))
      have e40 : val 40 = (.bool false) := hV 40 (by decide) (hS 40 (by decide))
      have e41 : val 41 = (.pointer (some ⟨w.heap.size + 1, 0, none⟩)) := hV 41 (by decide) (hS 41 (by decide))
      obtain ⟨q42, e42⟩ := hV 42 (by decide) (hS 42 (by decide))
      have e43 : val 43 = (.bool true) := hV 43 (by decide) (hS 43 (by decide))
      have e44 : val 44 = (.bool false) := hV 44 (by decide) (hS 44 (by decide))
      have e45 : val 45 = (.bool false) := hV 45 (by decide) (hS 45 (by decide))
      have e46 : val 46 = (.bool false) := hV 46 (by decide) (hS 46 (by decide))
      have e47 : val 47 = (.pointer (some qc1)) := hV 47 (by decide) (hS 47 (by decide))
      have e48 : val 48 = (.agg #[.int .i64 1, .int .i64 2]) := hV 48 (by decide) (hS 48 (by decide))
      have e49 : val 49 = (.int .i64 0) := hV 49 (by decide) (hS 49 (by decide))
      have e50 : val 50 = (.bool false) := hV 50 (by decide) (hS 50 (by decide))
      have e51 : val 51 = (.bool false) := hV 51 (by decide) (hS 51 (by decide))
      have e52 : val 52 = (.bool false) := hV 52 (by decide) (hS 52 (by decide))
      have e53 : val 53 = (.pointer (some qc1)) := hV 53 (by decide) (hS 53 (by decide))
      have e54 : val 54 = (.pointer (some ⟨w.heap.size + 1, 0, none⟩)) := hV 54 (by decide) (hS 54 (by decide))
      have e55 : val 55 = (.bool false) := hV 55 (by decide) (hS 55 (by decide))
      have e56 : val 56 = (.bool false) := hV 56 (by decide) (hS 56 (by decide))
      intro v0 h0 u0 v1 h1 u1 v2 h2 u2 v3 h3 u3 v4 h4 u4 v5 h5 u5 v6 h6 u6 v7 h7 u7 v8 h8 u8 v9 h9 u9 v10 h10 u10 v11 h11 u11 v12 h12 u12 v13 h13 u13 v14 h14 u14 v15 h15 u15 v16 h16 u16 v17 h17 u17 v18 h18 u18 v19 h19 u19 v20 h20 u20 v21 h21 u21 v22 h22 u22 v23 h23 u23 v24 h24 u24 v25 h25 u25 v26 h26 u26 v27 h27 u27 v28 h28 u28 v29 h29 u29 v30 h30 u30 v31 h31 u31 v32 h32 u32 v33 h33 u33 v34 h34 u34 v35 h35 u35 v36 h36 u36 v37 h37 u37 v38 h38 u38 v39 h39 u39 v40 h40 u40 v41 h41 u41 v42 h42 u42 v43 h43 u43 v44 h44 u44 v45 h45 u45 v46 h46 u46 v47 h47 u47 v48 h48 u48 v49 h49 u49 v50 h50 u50 v51 h51 u51 v52 h52 u52 v53 h53 u53 v54 h54 u54 v55 h55 u55 v56 h56 u56
      simp only [Act.put, List.setIfInBounds_toArray, List.set_cons_zero, List.set_cons_succ, List.drop_succ_cons, List.drop_zero]
      simp only [h0.trans e0, h1.trans e1, h2.trans e2, h3.trans e3, h4.trans e4, h5.trans e5, h6.trans e6, h7.trans e7, h8.trans e8, h9.trans e9, h10.trans e10, h11.trans e11, h12.trans e12, h13.trans e13, h14.trans e14, h15.trans e15, h16.trans e16, h17.trans e17, h18.trans e18, h19.trans e19, h20.trans e20, h21.trans e21, h22.trans e22, h23.trans e23, h24.trans e24, h25.trans e25, h26.trans e26, h27.trans e27, h28.trans e28, h29.trans e29, h30.trans e30, h31.trans e31, h32.trans e32, h33.trans e33, h34.trans e34, h35.trans e35, h36.trans e36, h37.trans e37, h38.trans e38, h39.trans e39, h40.trans e40, h41.trans e41, h42.trans e42, h43.trans e43, h44.trans e44, h45.trans e45, h46.trans e46, h47.trans e47, h48.trans e48, h49.trans e49, h50.trans e50, h51.trans e51, h52.trans e52, h53.trans e53, h54.trans e54, h55.trans e55, h56.trans e56]
      clear hV h0 e0 u0 v0 h1 e1 u1 v1 h2 e2 u2 v2 h3 e3 u3 v3 h4 e4 u4 v4 h5 e5 u5 v5 h6 e6 u6 v6 h7 e7 u7 v7 h8 e8 u8 v8 h9 e9 u9 v9 h10 e10 u10 v10 h11 e11 u11 v11 h12 e12 u12 v12 h13 e13 u13 v13 h14 e14 u14 v14 h15 e15 u15 v15 h16 e16 u16 v16 h17 e17 u17 v17 h18 e18 u18 v18 h19 e19 u19 v19 h20 e20 u20 v20 h21 e21 u21 v21 h22 e22 u22 v22 h23 e23 u23 v23 h24 e24 u24 v24 h25 e25 u25 v25 h26 e26 u26 v26 h27 e27 u27 v27 h28 e28 u28 v28 h29 e29 u29 v29 h30 e30 u30 v30 h31 e31 u31 v31 h32 e32 u32 v32 h33 e33 u33 v33 h34 e34 u34 v34 h35 e35 u35 v35 h36 e36 u36 v36 h37 e37 u37 v37 h38 e38 u38 v38 h39 e39 u39 v39 h40 e40 u40 v40 h41 e41 u41 v41 h42 e42 u42 v42 h43 e43 u43 v43 h44 e44 u44 v44 h45 e45 u45 v45 h46 e46 u46 v46 h47 e47 u47 v47 h48 e48 u48 v48 h49 e49 u49 v49 h50 e50 u50 v50 h51 e51 u51 v51 h52 e52 u52 v52 h53 e53 u53 v53 h54 e54 u54 v54 h55 e55 u55 v55 h56 e56 u56 v56
      change wpList Try.prog _ _ _ _ wz
      have HS := Lib.hid (show Sep w [blkT w.heap.size #[.int .i64 a, .int .i64 b, .int .i64 v], nilT HV.out (.pointer (some ⟨w.heap.size + 1, 0, none⟩)), blkT (w.heap.size + 2) #[.pointer none, .pointer (some ⟨w.heap.size + 1, 0, none⟩)], nilT HV.out (.pointer none)] wz from hw.1.take 4)
      clear hw hK HC
      have y0 := (HS.out.b 2 rfl).get 0 rfl; have y1 := (HS.out.b 2 rfl).get 1 rfl
      go_wp2_with fail
      refine calm_normal ?_
      go_wp2_with fail
      clear y0 y1
      rw [rounds_succ]
      go_wp2_with fail
      refine (tlknown_any HK.out _).mono ?_
      rintro e w99 ⟨rfl, b1⟩
      have HB := Lib.hid ((HS.out.keep b1).bl)
      clear b1
      go_wp2_with fail
      go_ret
      exact ⟨rfl, HB.out⟩
end Go.Proofs.Ytockjcainkoifaa
