/- Contracts of corrodyref06: digits, number. -/
import Derived.Test.YtmdmhookhkhdoaaDoorTxBytes
import Derived.Test.YtmdmhookhkhdoaaDoorRelMem
import Derived.Laws.IdiomStrings
import Derived.Deep.DeepCutAuto
import Derived.Deep.CutBlock
namespace Corr
set_option maxRecDepth 8000
open Go Go.RowKit Go.PlainAid
theorem fixd_ahead (i N : Nat) : fixd (i + 1) N = dg (N / 10 ^ i) :: fixd i N := by
  have := fixd_add 1 i N
  rw [Nat.add_comm 1 i] at this
  rw [this]; rfl
end Corr
namespace Go.Proofs.YtmdmhookhkhdoaaDoor
set_option maxRecDepth 8000
open Go.RowKit Go.PlainAid Corr
set_option linter.unusedVariables false
set_option linter.unusedSimpArgs false
/-- One byte as a string. -/
theorem one_byte (w : World) (z : Int) (b : UInt8) (hz : (b.toNat : Int) = z) : (convert 56 9 (.slice (some ⟨w.heap.size, 0, none⟩) 1 1)).run Tryd.prog (w.alloc (.cells #[.int .u8 z] 5)) = .ok (.string ⟨#[b]⟩) (w.alloc (.cells #[.int .u8 z] 5)) := by
  have h := run_convert_bytes_back (P := Tryd.prog) (w.alloc (.cells #[.int .u8 z] 5)) 56 9 5 ⟨w.heap.size, 0, none⟩ 1 [b] Tryd.underlying56 Tryd.underlying5 Tryd.underlying9 (fun j hj => by
    have hj0 : j = 0 := by simpa using hj
    subst hj0
    have e : (⟨w.heap.size, 0, none⟩ : Addr).add 0 = ⟨w.heap.size, 0, none⟩ := by unfold Addr.add; simp
    rw [e, Joins.cell_of_block (heapNew w _)]
    simp [hz])
  exact h
set_option maxHeartbeats 2000000 in
theorem digits_any (N k : Nat) (w : World) (hN : N ≤ 9999) (hk : k ≤ 4) :
    Calls Tryd.prog 19 #[.int .i64 (N : Int), .int .i64 (k : Int)] w fun e w' => e = .returned (.string ⟨(fixd k N).toArray⟩) ∧ Below w.heap.size w w' := by
  go_enter Tryd.func19, Tryd.ntmps19
  go_wp2_with fail
  go_loopw [0, 5, 6] (fun u s v wr => ∃ (j M : Nat) (Q : ByteArray), u = .int .i64 (M : Int) ∧ s = .string Q ∧ v = .int .i64 (j : Int) ∧ j ≤ k ∧ M ≤ 9999 ∧ Hid (M = N / 10 ^ j) ∧ Hid (Q.data.toList = fixd j N) ∧ Below w.heap.size w wr) (fun _ _ v _ => 4 - (intOf v).toNat)
  case atStart => exact ⟨0, N, ⟨#[]⟩, rfl, rfl, rfl, by omega, by omega, Lib.hid (by simp), Lib.hid rfl, Below.refl _ _⟩
  case round =>
    obtain ⟨j, M, Q, rfl, rfl, rfl, hj, hM, HM, HQ, hb⟩ := hrel
    by_cases hlt : j < k
    · obtain ⟨b, hbb⟩ : ∃ b, dg M = b := ⟨_, rfl⟩
      have hbz : (b.toNat : Int) = 48 + (M : Int) % 10 := by rw [← hbb, dg_toNat]; omega
      have hQ : Q.size ≤ 4 := by rw [← size_len, HQ.out, fixd_len]; omega
      have hcv := one_byte wr (48 + (M : Int) % 10) b hbz
      have hw8 : IntKind.u8.wrap (48 + (M : Int) % 10) = 48 + (M : Int) % 10 := by rw [IntKind.wrap_u8]; omega
      have HACC := Lib.hid (show (⟨#[b]⟩ ++ Q : ByteArray).data.toList = fixd (j + 1) N by
        rw [fixd_ahead, ba_append, HQ.out, ← HM.out, hbb]; rfl)
      have HM2 := Lib.hid (show M / 10 = N / 10 ^ (j + 1) by rw [HM.out, Nat.pow_succ, Nat.div_div_eq_div_mul])
      have HB := Lib.hid (hb.alloc hb.size (.cells #[.int .u8 (48 + (M : Int) % 10)] 5))
      clear hbz hbb hb
      go_wp2_with fail
      exact ⟨⟨j + 1, M / 10, ⟨#[b]⟩ ++ Q, val_int (by omega), rfl, val_int (by omega), by omega, by omega, HM2, HACC, HB.out⟩, by simp [intOf]; omega⟩
    · have hjk : j = k := by omega
      subst hjk
      have HR := Lib.hid (ba_eq HQ.out)
      clear HQ
      go_wp2_with fail
      go_ret
      exact ⟨congrArg (fun x => Ending.returned (.string x)) HR.out, hb⟩

end Go.Proofs.YtmdmhookhkhdoaaDoor
