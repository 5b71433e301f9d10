/-
  Layer 2: Decode and Right, walked.
-/
import Derived.Test.YtaojjkknmaldiaaDoorPctC
import Derived.Deep.RegionHeld3
import Derived.Deep.AppendLies
namespace Go.Proofs.YtaojjkknmaldiaaDoor
open Go.RowKit


theorem decL_end (s : ByteArray) (f k : Nat) (h : ¬ k < s.size) : decL f (s.data.toList.drop k) = [] := by
  rw [drop_end s k h]
  cases f <;> rfl
theorem decL_some (s : ByteArray) (f k : Nat) (v : UInt8) (h : k < s.size) (ht : threeV (s.data.toList.drop k) = some v) : decL (f + 1) (s.data.toList.drop k) = v :: decL f (s.data.toList.drop (k + 3)) := by
  rw [drop_at s k h] at ht ⊢
  simp only [decL, ht, List.drop_drop]
theorem decL_none (s : ByteArray) (f k : Nat) (h : k < s.size) (ht : threeV (s.data.toList.drop k) = none) : decL (f + 1) (s.data.toList.drop k) = s[k] :: decL f (s.data.toList.drop (k + 1)) := by
  rw [drop_at s k h] at ht ⊢
  simp only [decL, ht]

theorem three_room (s : ByteArray) (k : Nat) (v : UInt8) (h : threeV (s.data.toList.drop k) = some v) : k + 2 < s.size := by
  by_cases hk : k + 2 < s.size
  · exact hk
  · rw [three_short s k (by omega)] at h; cases h

set_option maxRecDepth 100000 in
set_option maxHeartbeats 2000000 in
theorem decode_any (s : ByteArray) (w : World) (hs : s.size ≤ 1073741824) :
    Calls Tryd.prog 38 #[.string s] w fun e w' => e = .returned (.string ⟨(decB s.data.toList).toArray⟩) ∧ Below w.heap.size w w' := by
  go_enter Tryd.func38, Tryd.ntmps38
  go_wp2
  go_loopw [4] (fun i wr => ∃ (k fuel : Nat) (T : List UInt8), i = .int .i64 k ∧ k ≤ s.size ∧ Lib.IsBuilderF 72 5 w.heap.size w.heap.size (Lib.byteCells T) wr ∧ Below w.heap.size w wr ∧ T.length ≤ k ∧ s.size ≤ k + fuel ∧ Hid (T ++ decL fuel (s.data.toList.drop k) = decB s.data.toList)) (fun i _ => s.size - (intOf i).toNat)
  case atStart =>
    refine ⟨0, s.size, [], rfl, Nat.zero_le _, Lib.IsBuilderF.of (Lib.fresh_isBuilder _ _ w), (Below.refl _ w).alloc (Nat.le_refl _) _, by simp, by omega, ?_⟩
    show [] ++ decL s.size (s.data.toList.drop 0) = decL s.data.toList.length s.data.toList
    rw [size_list]; rfl
  case round =>
    obtain ⟨k, fuel, T, rfl, hk, hI, hbw, hTl, hfu, HD⟩ := hrel
    have hsz := hbw.size
    by_cases hlt : k < s.size
    · obtain ⟨f, rfl⟩ : ∃ f, fuel = f + 1 := ⟨fuel - 1, by omega⟩
      cases hth : threeV (s.data.toList.drop k) with
      | some v =>
        have hroom := three_room s k v hth
        have hD2 := HD.out
        rw [decL_some s f k v hlt hth] at hD2
        have HD2 := Lib.hid hD2
        have HTH := Lib.hid hth
        clear hD2 hth
        go_wp2_with fail
        refine (encoded_any s k _ hs hlt).mono ?_
        rw [HTH.out]
        rintro e w' ⟨rfl, nq, rfl⟩
        have hI2 : Lib.IsBuilderF 72 5 w.heap.size w.heap.size (Lib.byteCells T) (wr.drewN nq) := hI
        have hb2 := below_drewN hbw nq
        have hsz2 : w.heap.size ≤ (wr.drewN nq).heap.size := hsz
        generalize wr.drewN nq = w2 at *
        go_wp2_with fail
        refine (Tryd.Builder_WriteByte_k w.heap.size w.heap.size _ _ _ hI2 (by rw [Lib.byteCells_length]; omega) hsz2).mono ?_
        rintro e w3 ⟨rfl, h3, b3, _⟩
        go_wp2
        go_roundw
        case rel =>
          refine ⟨k + 3, f, T ++ [v], by go_num, by omega, ?_, hb2.trans b3, by simp; omega, by omega, ?_⟩
          · rw [cells_snoc T v _ rfl]; exact .inr h3
          · show (T ++ [v]) ++ _ = _
            rw [List.append_assoc]; exact HD2.out
        case measure => simp [intOf]; omega
      | none =>
        have hD2 := HD.out
        rw [decL_none s f k hlt hth] at hD2
        have HD2 := Lib.hid hD2
        have HTH := Lib.hid hth
        clear hD2 hth
        go_wp2_with fail
        refine (encoded_any s k _ hs hlt).mono ?_
        rw [HTH.out]
        rintro e w' ⟨rfl, nq, rfl⟩
        have hI2 : Lib.IsBuilderF 72 5 w.heap.size w.heap.size (Lib.byteCells T) (wr.drewN nq) := hI
        have hb2 := below_drewN hbw nq
        have hsz2 : w.heap.size ≤ (wr.drewN nq).heap.size := hsz
        generalize wr.drewN nq = w2 at *
        go_wp2_with fail
        refine (Tryd.Builder_WriteByte_k w.heap.size w.heap.size _ _ _ hI2 (by rw [Lib.byteCells_length]; omega) hsz2).mono ?_
        rintro e w3 ⟨rfl, h3, b3, _⟩
        go_wp2
        go_roundw
        case rel =>
          refine ⟨k + 1, f, T ++ [s[k]], by go_num, by omega, ?_, hb2.trans b3, by simp; omega, by omega, ?_⟩
          · rw [cells_snoc T s[k] _ rfl]; exact .inr h3
          · show (T ++ [s[k]]) ++ _ = _
            rw [List.append_assoc]; exact HD2.out
        case measure => simp [intOf]; omega
    · have hfin : T = decB s.data.toList := by
        have := HD.out
        rwa [decL_end s fuel k hlt, List.append_nil] at this
      subst hfin
      go_wp2_with fail
      refine (Tryd.Builder_String_any_k w.heap.size w.heap.size _ _ hI (by omega)).mono ?_
      rintro e w1 ⟨rfl, _, b1, _⟩
      go_wp2
      go_ret
      exact ⟨rfl, hbw.trans b1⟩

theorem right_step (s : ByteArray) (k : Nat) (h : k < s.size) : rightB (s.data.toList.drop k) = ((!(decide (s[k].toNat = 37)) || (threeV (s.data.toList.drop k)).isSome) && rightB (s.data.toList.drop (k + 1))) := by
  rw [drop_at s k h]
  rfl
theorem right_end (s : ByteArray) (k : Nat) (h : ¬ k < s.size) : rightB (s.data.toList.drop k) = true := by
  rw [drop_end s k h]
  rfl

end Go.Proofs.YtaojjkknmaldiaaDoor
