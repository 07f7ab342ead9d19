/- Contracts of package wide: Of, Neg, Mul, Times. -/
import Derived.Test.YtmccmgplgdmjbaaGreatDoorWide1
import Derived.Test.YtmccmgplgdmjbaaGreatDoorShelf
import Derived.Lib.Hide
namespace Go.Proofs.YtmccmgplgdmjbaaGreatDoor
set_option maxRecDepth 8000
open Go.RowKit Corr
set_option linter.unusedVariables false

theorem bcell {W w1 : World} (hb : Below W.heap.size W w1) : (∀ b o, b < W.heap.size → w1.cell? ⟨b, o, none⟩ = W.cell? ⟨b, o, none⟩) ∧ (∀ b o, b < W.heap.size → w1.frozen? ⟨b, o, none⟩ = W.frozen? ⟨b, o, none⟩) :=
  ⟨fun b o h => hb.cell (p := ⟨b, o, none⟩) h, fun b o h => hb.frozen (p := ⟨b, o, none⟩) h⟩

theorem canonical_z (s : Bool) (h l : Nat) (z : Int) (w : World) (hh : h < B64) (hl : l < B64) (hz : val s (nat2 h l) = z) :
    Calls Tryz.prog 51 #[.bool s, .int .u64 h, .int .u64 l] w fun e w' => e = .returned (ZW z) ∧ Below w.heap.size w w' := by
  rw [← hz]; exact canonical_any s h l w hh hl

theorem of_val (n : Int) : val (decide (n < 0)) (nat2 0 n.natAbs) = n := by
  have : nat2 0 n.natAbs = n.natAbs := by unfold nat2; omega
  rw [this]; exact val_neg n

theorem of_any (n : Int) (w : World) (h1 : -9223372036854775808 ≤ n) (h2 : n ≤ 9223372036854775807) :
    Calls Tryz.prog 25 #[.int .i64 n] w fun e w' => e = .returned (ZW n) ∧ Below w.heap.size w w' := by
  have hb64 : n.natAbs < B64 := by unfold B64; omega
  have h0 : 0 < B64 := by decide
  have hv := Lib.hid (of_val n)
  go_enter Tryz.func25, Tryz.ntmps25
  go_wp2_with fail
  refine (size_any _ _ h1 h2).mono ?_
  rintro e w' ⟨rfl, rfl⟩
  go_wp2_with fail
  refine (canonical_z _ 0 _ _ _ h0 hb64 hv.out).mono ?_
  rintro e w1 ⟨rfl, hb⟩
  obtain ⟨hc, hf⟩ := bcell hb
  go_wp2_with fail
  refine bodyPost_ret (v := ZW n) (by simp [results, Tryz.results25, go_sem, hc]) rfl ⟨rfl, ?_⟩
  exact (((((Below.refl _ _).alloc (Nat.le_refl _) _).trans (hb.mono (by simp))).setCell (by simp) _).setCell (by simp) _).setCell (by simp) _

end Go.Proofs.YtmccmgplgdmjbaaGreatDoor
