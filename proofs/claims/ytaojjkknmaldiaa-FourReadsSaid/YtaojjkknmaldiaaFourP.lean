/-
  Layer 4: the reference's power.
-/
import Derived.Test.YtaojjkknmaldiaaFourA
import Derived.Test.YtaojjkknmaldiaaNumG
namespace Go.Proofs.Ytaojjkknmaldiaa
open Go.RowKit


set_option maxRecDepth 100000 in
set_option maxHeartbeats 1000000 in
theorem power_at (j v : Int) (w : World) (h : (j = 0 ∧ v = 1) ∨ (j = 1 ∧ v = 256) ∨ (j = 2 ∧ v = 65536) ∨ (j = 3 ∧ v = 16777216) ∨ (j = 4 ∧ v = 4294967296)) :
    Calls Try.prog 29 #[.int .i64 j] w fun e w' => e = .returned (.int .u64 v) ∧ w = w' := by
  obtain ⟨n, hj, hv, hn⟩ : ∃ n : Nat, j = n ∧ v = 256 ^ n ∧ n ≤ 4 := by
    rcases h with ⟨rfl, rfl⟩ | ⟨rfl, rfl⟩ | ⟨rfl, rfl⟩ | ⟨rfl, rfl⟩ | ⟨rfl, rfl⟩
    · exact ⟨0, rfl, rfl, by omega⟩
    · exact ⟨1, rfl, rfl, by omega⟩
    · exact ⟨2, rfl, rfl, by omega⟩
    · exact ⟨3, rfl, rfl, by omega⟩
    · exact ⟨4, rfl, rfl, by omega⟩
  subst hj
  have HV := Lib.hid hv
  clear hv h
  go_enter Try.func29, Try.ntmps29
  go_wp2
  go_loop [3, 4] (fun o i => ∃ (k : Nat) (A : Int), k ≤ n ∧ i = .int .i64 k ∧ o = .int .u64 A ∧ Hid (A = 256 ^ k)) (fun _ i => n - (intOf i).toNat)
  case atStart => exact ⟨0, 1, Nat.zero_le _, rfl, rfl, rfl⟩
  case round =>
    obtain ⟨k, A, hk, rfl, rfl, HA⟩ := hrel
    by_cases hlt : k < n
    · have hA : 0 ≤ A ∧ A ≤ 16777216 := by
        have h1 := HA.out
        rcases (show k = 0 ∨ k = 1 ∨ k = 2 ∨ k = 3 from by omega) with rfl | rfl | rfl | rfl <;> (rw [h1]; decide)
      obtain ⟨hA0, hA1⟩ := hA
      go_wp2
      go_round
      case rel => exact ⟨k + 1, A * 256, by omega, by go_num, rfl, (by show _ = _; rw [HA.out, Int.pow_succ])⟩
      case measure => simp [intOf]; omega
    · obtain rfl : k = n := by omega
      go_wp2
      go_ret
      exact ⟨ret_int (by rw [HA.out, HV.out]), rfl⟩

end Go.Proofs.Ytaojjkknmaldiaa
