/-
  Layer 2: Decode and Right, walked.
-/
import Derived.Test.YtbkjhdinlnpglaaPctC
import Derived.Deep.RegionHeld3
import Derived.Deep.AppendLies
namespace Go.Proofs.Ytbkjhdinlnpglaa
open Go.RowKit

theorem decL_end (s : ByteArray) (f k : Nat) (h : ¬ k < s.size) : decL f (s.data.toList.drop k) = [] := by
  rw [drop_end s k h]
  cases f <;> rfl
theorem decL_some (s : ByteArray) (f k : Nat) (v : UInt8) (h : k < s.size) (ht : threeV (s.data.toList.drop k) = some v) : decL (f + 1) (s.data.toList.drop k) = v :: decL f (s.data.toList.drop (k + 3)) := by
  rw [drop_at s k h] at ht ⊢
  simp only [decL, ht, List.drop_drop]
theorem decL_none (s : ByteArray) (f k : Nat) (h : k < s.size) (ht : threeV (s.data.toList.drop k) = none) : decL (f + 1) (s.data.toList.drop k) = s[k] :: decL f (s.data.toList.drop (k + 1)) := by
  rw [drop_at s k h] at ht ⊢
  simp only [decL, ht]

theorem three_room (s : ByteArray) (k : Nat) (v : UInt8) (h : threeV (s.data.toList.drop k) = some v) : k + 2 < s.size := by
  by_cases hk : k + 2 < s.size
  · exact hk
  · rw [three_short s k (by omega)] at h; cases h

set_option maxRecDepth 100000 in
set_option maxHeartbeats 2000000 in
theorem decode_any (s : ByteArray) (w : World) (hs : s.size ≤ 1073741824) :
    Calls Try.prog 45 #[.string s] w fun e w' => e = .returned (.string ⟨(decB s.data.toList).toArray⟩) ∧ Below w.heap.size w w' := by
  go_enter Try.func45, Try.ntmps45
  go_wp2
  go_loopw [4] (fun i wr => ∃ (k fuel : Nat) (T : List UInt8), i = .int .i64 k ∧ k ≤ s.size ∧ Lib.IsBuilderF 58 5 w.heap.size w.heap.size (Lib.byteCells T) wr ∧ Below w.heap.size w wr ∧ T.length ≤ k ∧ s.size ≤ k + fuel ∧ Hid (T ++ decL fuel (s.data.toList.drop k) = decB s.data.toList)) (fun i _ => s.size - (intOf i).toNat)
  case atStart =>
    refine ⟨0, s.size, [], rfl, Nat.zero_le _, Lib.IsBuilderF.of (Lib.fresh_isBuilder _ _ w), (Below.refl _ w).alloc (Nat.le_refl _) _, by simp, by omega, ?_⟩
    show [] ++ decL s.size (s.data.toList.drop 0) = decL s.data.toList.length s.data.toList
    rw [size_list]; rfl
  case round =>
    obtain ⟨k, fuel, T, rfl, hk, hI, hbw, hTl, hfu, HD⟩ := hrel
    have hsz := hbw.size
    by_cases hlt : k < s.size
    · obtain ⟨f, rfl⟩ : ∃ f, fuel = f + 1 := ⟨fuel - 1, by omega⟩
      cases hth : threeV (s.data.toList.drop k) with
      | some v =>
        have hroom := three_room s k v hth
        have hD2 := HD.out
        rw [decL_some s f k v hlt hth] at hD2
        have HD2 := Lib.hid hD2
        have HTH := Lib.hid hth
        clear hD2 hth
        go_wp2_with fail
        refine (encoded_any s k _ hs hlt).mono ?_
        rw [HTH.out]
        rintro e w' ⟨rfl, nq, rfl⟩
        have hI2 : Lib.IsBuilderF 58 5 w.heap.size w.heap.size (Lib.byteCells T) (wr.drewN nq) := hI
        have hb2 := below_drewN hbw nq
        have hsz2 : w.heap.size ≤ (wr.drewN nq).heap.size := hsz
        generalize wr.drewN nq = w2 at *
        go_wp2_with fail
        refine (Try.Builder_WriteByte_k w.heap.size w.heap.size _ _ _ hI2 (by rw [Lib.byteCells_length]; omega) hsz2).mono ?_
        rintro e w3 ⟨rfl, h3, b3, _⟩
        go_wp2
        go_roundw
        case rel =>
          refine ⟨k + 3, f, T ++ [v], by go_num, by omega, ?_, hb2.trans b3, by simp; omega, by omega, ?_⟩
          · rw [cells_snoc T v _ rfl]; exact .inr h3
          · show (T ++ [v]) ++ _ = _
            rw [List.append_assoc]; exact HD2.out
        case measure => simp [intOf]; omega
      | none =>
        have hD2 := HD.out
        rw [decL_none s f k hlt hth] at hD2
        have HD2 := Lib.hid hD2
        have HTH := Lib.hid hth
        clear hD2 hth
        go_wp2_with fail
        refine (encoded_any s k _ hs hlt).mono ?_
        rw [HTH.out]
        rintro e w' ⟨rfl, nq, rfl⟩
        have hI2 : Lib.IsBuilderF 58 5 w.heap.size w.heap.size (Lib.byteCells T) (wr.drewN nq) := hI
        have hb2 := below_drewN hbw nq
        have hsz2 : w.heap.size ≤ (wr.drewN nq).heap.size := hsz
        generalize wr.drewN nq = w2 at *
        go_wp2_with fail
        refine (Try.Builder_WriteByte_k w.heap.size w.heap.size _ _ _ hI2 (by rw [Lib.byteCells_length]; omega) hsz2).mono ?_
        rintro e w3 ⟨rfl, h3, b3, _⟩
        go_wp2
        go_roundw
        case rel =>
          refine ⟨k + 1, f, T ++ [s[k]], by go_num, by omega, ?_, hb2.trans b3, by simp; omega, by omega, ?_⟩
          · rw [cells_snoc T s[k] _ rfl]; exact .inr h3
          · show (T ++ [s[k]]) ++ _ = _
            rw [List.append_assoc]; exact HD2.out
        case measure => simp [intOf]; omega
    · have hfin : T = decB s.data.toList := by
        have := HD.out
        rwa [decL_end s fuel k hlt, List.append_nil] at this
      subst hfin
      go_wp2_with fail
      refine (Try.Builder_String_any_k w.heap.size w.heap.size _ _ hI (by omega)).mono ?_
      rintro e w1 ⟨rfl, _, b1, _⟩
      go_wp2
      go_ret
      exact ⟨rfl, hbw.trans b1⟩

theorem right_step (s : ByteArray) (k : Nat) (h : k < s.size) : rightB (s.data.toList.drop k) = ((!(decide (s[k].toNat = 37)) || (threeV (s.data.toList.drop k)).isSome) && rightB (s.data.toList.drop (k + 1))) := by
  rw [drop_at s k h]
  rfl
theorem right_end (s : ByteArray) (k : Nat) (h : ¬ k < s.size) : rightB (s.data.toList.drop k) = true := by
  rw [drop_end s k h]
  rfl

set_option maxRecDepth 100000 in
set_option maxHeartbeats 2000000 in
theorem right_any (s : ByteArray) (w : World) (hs : s.size ≤ 1073741824) :
    Calls Try.prog 47 #[.string s] w fun e w' => e = .returned (.bool (rightB s.data.toList)) ∧ ∃ n, w' = w.drewN n := by
  go_enter Try.func47, Try.ntmps47
  go_wp2
  go_loopw [8] (fun i wr => ∃ k m : Nat, i = .int .i64 k ∧ k ≤ s.size ∧ wr = w.drewN m ∧ Hid (rightB (s.data.toList.drop k) = rightB s.data.toList)) (fun i _ => s.size - (intOf i).toNat)
  case atStart => exact ⟨0, 0, rfl, Nat.zero_le _, rfl, rfl⟩
  case round =>
    obtain ⟨k, m, rfl, hk, rfl, HR⟩ := hrel
    by_cases hlt : k < s.size
    · obtain ⟨c, hc⟩ : ∃ c, s[k].toNat = c := ⟨_, rfl⟩
      have hst := right_step s k hlt
      rw [HR.out, hc] at hst
      by_cases h37 : c = 37
      · subst h37
        cases hth : threeV (s.data.toList.drop k) with
        | some v =>
          have HN : Hid (rightB (s.data.toList.drop (k + 1)) = rightB s.data.toList) := by
            show rightB (s.data.toList.drop (k + 1)) = rightB s.data.toList
            rw [hth] at hst; simpa using hst.symm
          have HTH := Lib.hid hth
          clear hst hth
          go_wp2_with fail
          refine (encoded_any s k _ hs hlt).mono ?_
          rw [HTH.out]
          rintro e w' ⟨rfl, nq, rfl⟩
          go_wp2
          go_roundw
          case rel => exact ⟨k + 1, _, by go_num, by omega, rfl, HN⟩
          case measure => simp [intOf]; omega
        | none =>
          have HN : Hid (rightB s.data.toList = false) := by
            show rightB s.data.toList = false
            rw [hth] at hst; simpa using hst
          have HTH := Lib.hid hth
          clear hst hth
          go_wp2_with fail
          refine (encoded_any s k _ hs hlt).mono ?_
          rw [HTH.out]
          rintro e w' ⟨rfl, nq, rfl⟩
          go_wp2
          go_ret
          exact ⟨ret_bool HN.out.symm, _, rfl⟩
      · have hb : ((c : Int) != 37) = true := by rw [bne_iff_ne]; omega
        have HN : Hid (rightB (s.data.toList.drop (k + 1)) = rightB s.data.toList) := by
          show rightB (s.data.toList.drop (k + 1)) = rightB s.data.toList
          rw [decide_eq_false h37] at hst; simpa using hst.symm
        clear hst
        go_wp2
        go_roundw
        case rel => exact ⟨k + 1, m, by go_num, by omega, rfl, HN⟩
        case measure => simp [intOf]; omega
    · have HN : Hid (rightB s.data.toList = true) := by
        show rightB s.data.toList = true
        have := HR.out
        rw [right_end s k hlt] at this
        exact this.symm
      go_wp2
      go_ret
      exact ⟨ret_bool HN.out.symm, m, rfl⟩

set_option maxRecDepth 100000 in
set_option maxHeartbeats 2000000 in
theorem refRight_any (s : ByteArray) (w : World) (hs : s.size ≤ 1073741824) :
    Calls Try.prog 48 #[.string s] w fun e w' => e = .returned (.bool (rightB s.data.toList)) ∧ w = w' := by
  go_enter Try.func48, Try.ntmps48
  go_wp2
  go_loop [3] (fun i => ∃ k : Nat, i = .int .i64 k ∧ k ≤ s.size ∧ Hid (rightB (s.data.toList.drop k) = rightB s.data.toList)) (fun i => s.size - (intOf i).toNat)
  case atStart => exact ⟨0, rfl, Nat.zero_le _, rfl⟩
  case round =>
    obtain ⟨k, rfl, hk, HR⟩ := hrel
    by_cases hlt : k < s.size
    · obtain ⟨c, hc⟩ : ∃ c, s[k].toNat = c := ⟨_, rfl⟩
      have hst := right_step s k hlt
      rw [HR.out, hc] at hst
      by_cases h37 : c = 37
      · subst h37
        cases hth : threeV (s.data.toList.drop k) with
        | some v =>
          have HN : Hid (rightB (s.data.toList.drop (k + 1)) = rightB s.data.toList) := by
            show rightB (s.data.toList.drop (k + 1)) = rightB s.data.toList
            rw [hth] at hst; simpa using hst.symm
          have hth2 : (threeV (s.data.toList.drop k)).isSome = true := by rw [hth]; rfl
          clear hst hth
          go_wp2_with (go_at_call 66; refine (threeR_any s k _ hs hlt).mono ?_; rintro e w' ⟨rfl, rfl⟩)
          go_round
          case rel => exact ⟨k + 1, by go_num, by omega, HN⟩
          case measure => simp [intOf]; omega
        | none =>
          have HN : Hid (rightB s.data.toList = false) := by
            show rightB s.data.toList = false
            rw [hth] at hst; simpa using hst
          have hth2 : (threeV (s.data.toList.drop k)).isSome = false := by rw [hth]; rfl
          clear hst hth
          go_wp2_with (go_at_call 66; refine (threeR_any s k _ hs hlt).mono ?_; rintro e w' ⟨rfl, rfl⟩)
          go_ret
          exact ⟨ret_bool HN.out.symm, rfl⟩
      · have hb : ((c : Int) == 37) = false := beq_eq_false_iff_ne.2 (by omega)
        have HN : Hid (rightB (s.data.toList.drop (k + 1)) = rightB s.data.toList) := by
          show rightB (s.data.toList.drop (k + 1)) = rightB s.data.toList
          rw [decide_eq_false h37] at hst; simpa using hst.symm
        clear hst
        go_wp2
        go_round
        case rel => exact ⟨k + 1, by go_num, by omega, HN⟩
        case measure => simp [intOf]; omega
    · have HN : Hid (rightB s.data.toList = true) := by
        show rightB s.data.toList = true
        have := HR.out
        rw [right_end s k hlt] at this
        exact this.symm
      go_wp2
      go_ret
      exact ⟨ret_bool HN.out.symm, rfl⟩

set_option maxRecDepth 100000 in
set_option maxHeartbeats 4000000 in
theorem refDecode_any (s : ByteArray) (w : World) (hs : s.size ≤ 1073741824) :
    Calls Try.prog 46 #[.string s] w fun e w' => e = .returned (.string ⟨(decB s.data.toList).toArray⟩) ∧ Below w.heap.size w w' := by
  obtain ⟨i0, hi, hz0, hz1, hz2⟩ := info_parts Try.infoByte
  go_enter Try.func46, Try.ntmps46
  go_wp2
  go_loopw [3, 4] (fun v i wr => ∃ (k fuel : Nat) (T : List UInt8), i = .int .i64 k ∧ k ≤ s.size ∧ Gath w.heap.size wr v T ∧ Below w.heap.size w wr ∧ T.length ≤ k ∧ s.size ≤ k + fuel ∧ Hid (T ++ decL fuel (s.data.toList.drop k) = decB s.data.toList)) (fun _ i _ => s.size - (intOf i).toNat)
  case atStart =>
    refine ⟨0, s.size, [], rfl, Nat.zero_le _, Gath.nil _ _, Below.refl _ w, by simp, by omega, ?_⟩
    show [] ++ decL s.size (s.data.toList.drop 0) = decL s.data.toList.length s.data.toList
    rw [size_list]; rfl
  case round =>
    obtain ⟨k, fuel, T, rfl, hk, hown, hbw, hTl, hfu, HD⟩ := hrel
    have hsz := hbw.size
    unfold Gath at hown
    by_cases hlt : k < s.size
    · obtain ⟨f, rfl⟩ : ∃ f, fuel = f + 1 := ⟨fuel - 1, by omega⟩
      cases hth : threeV (s.data.toList.drop k) with
      | some v =>
        have hroom := three_room s k v hth
        have hD2 := HD.out
        rw [decL_some s f k v hlt hth] at hD2
        have HD2 := Lib.hid hD2
        have hth2 : (threeV (s.data.toList.drop k)).isSome = true := by rw [hth]; rfl
        obtain ⟨c1, hc1⟩ : ∃ c, s[k + 1].toNat = c := ⟨_, rfl⟩
        obtain ⟨c2, hc2⟩ : ∃ c, s[k + 2].toNat = c := ⟨_, rfl⟩
        have l1 : c1 < 256 := by rw [← hc1]; exact s[k + 1].toNat_lt
        have l2 : c2 < 256 := by rw [← hc2]; exact s[k + 2].toNat_lt
        obtain ⟨v1, hv1⟩ : ∃ v, valZ (c1 : Int) = v := ⟨_, rfl⟩
        obtain ⟨v2, hv2⟩ : ∃ v, valZ (c2 : Int) = v := ⟨_, rfl⟩
        have b1 : v1 < 16 := by rw [← hv1]; exact valZ_lt _
        have b2 : v2 < 16 := by rw [← hv2]; exact valZ_lt _
        have hgood : 0 ≤ v1 ∧ 0 ≤ v2 ∧ s[k].toNat = 37 := by
          by_cases hg : s[k].toNat ≠ 37 ∨ v1 < 0 ∨ v2 < 0
          · rw [three_bad s k hroom (by rw [hc1, hc2, hv1, hv2]; exact hg)] at hth; cases hth
          · omega
        obtain ⟨b5, b6, h37⟩ := hgood
        have hv : v = UInt8.ofNat ((v1 * 16 + v2).toNat) := by
          have h3 := three_some s k hroom h37 (by rw [hc1, hv1]; exact b5) (by rw [hc2, hv2]; exact b6)
          rw [hth, hc1, hc2, hv1, hv2] at h3
          exact Option.some.inj h3
        have hvx : (v.toNat : Int) = 16 * v1 + v2 := by
          rw [hv, ← ofNat_back (v1 * 16 + v2) (by omega) (by omega)]; omega
        have HVX := Lib.hid hvx
        have HTH := Lib.hid hth
        clear hD2 hth hv hvx h37
        go_wp2_with (go_at_call 66; refine (threeR_any s k _ hs hlt).mono ?_; rintro e w' ⟨rfl, rfl⟩)
        have p1 : (0 : Int) ≤ (k : Int) + 1 := by omega
        have p2 : (0 : Int) ≤ (k : Int) + 2 := by omega
        have p3 : (k : Int) + 1 < (s.size : Int) := by omega
        have p4 : (k : Int) + 2 < (s.size : Int) := by omega
        have q1 : IntKind.i64.wrap ((k : Int) + 1) = (k : Int) + 1 := IntWalk.i64_in _ (by omega)
        have q2 : IntKind.i64.wrap ((k : Int) + 2) = (k : Int) + 2 := IntWalk.i64_in _ (by omega)
        have q3 : IntKind.i64.wrap (16 * v1) = 16 * v1 := IntWalk.i64_in _ (by omega)
        have q4 : IntKind.i64.wrap (16 * v1 + v2) = 16 * v1 + v2 := IntWalk.i64_in _ (by omega)
        have r1 : ((k : Int) + 1).toNat = k + 1 := by omega
        have q5 : IntKind.i32.wrap (c1 : Int) = (c1 : Int) := IntWalk.i32_in _ (by omega)
        have q6 : IntKind.i32.wrap (c2 : Int) = (c2 : Int) := IntWalk.i32_in _ (by omega)
        have q7 : IntKind.u8.wrap (16 * v1 + v2) = 16 * v1 + v2 := IntWalk.u8_in _ (by omega)
        have r2 : ((k : Int) + 2).toNat = k + 2 := by omega
        go_region_held3 (fun _ => True) (exact trivial)
          (first
            | (go_at_call 33; refine (refValue_any _ _).mono ?_; rintro e w' ⟨rfl, rfl⟩)
            | (refine step_append_lies _ (by rfl) _ _ _ (by rfl) w.heap.size 5 i0 _ 1 1 Try.underlying52 hi hz0 hz1 hz2 rfl (by omega) _ T.length (Lib.byteCells T) (by rfl) ((hown.alloc _).drew) ⟨wr.heap.size, 0, none⟩ 1 1 [.int .u8 (16 * v1 + v2)] (by rfl) (by rfl) (World.news_of_block (cs := #[.int .u8 (16 * v1 + v2)]) (t := 5) (fr := (0, 0)) (heap_alloc_new wr _)) (by simp [Value.oneCell']) (by omega) (by unfold maxLen; omega) (by omega) (by simp; omega) (wr.heap.size + 1) (by simp) ?_; intro gg cap w1 hown1 hgrow hat hlt2))
        all_goals
          clear q1 q2 q3 q4 q5 q6 q7 r1 r2
          have hbw3 : Below w.heap.size w w1 := ((hbw.alloc (by omega) _).drew).grown hgrow (by simp; omega) (fun j hj => by have := hown.lt j hj; omega)
          clear hgrow hown hat
          go_wp2
          go_roundw
          case rel =>
            refine ⟨k + 3, f, T ++ [v], by go_num, by omega, Gath.snoc hown1 HVX.out, hbw3, by simp; omega, by omega, ?_⟩
            show (T ++ [v]) ++ _ = _
            rw [List.append_assoc]; exact HD2.out
          case measure => simp [intOf]; omega
      | none =>
        have hD2 := HD.out
        rw [decL_none s f k hlt hth] at hD2
        have HD2 := Lib.hid hD2
        have hth2 : (threeV (s.data.toList.drop k)).isSome = false := by rw [hth]; rfl
        obtain ⟨c, hc⟩ : ∃ c, s[k].toNat = c := ⟨_, rfl⟩
        have HC := Lib.hid hc
        clear hD2 hth
        go_wp2_with (first | (go_at_call 66; refine (threeR_any s k _ hs hlt).mono ?_; rintro e w' ⟨rfl, rfl⟩) | (at_builtin; refine wp_append1 _ rfl _ _ 52 rfl w.heap.size 5 i0 (.int .u8 0) 1 Try.underlying52 hi hz0 hz1 hz2 rfl _ _ _ rfl hown (.int .u8 (c : Int)) rfl rfl (by omega) (by omega) hsz ?_; intro v' w1 hown' hk'))
        go_roundw
        case rel =>
          refine ⟨k + 1, f, T ++ [s[k]], by go_num, by omega, Gath.snoc hown' (by rw [HC.out]), hbw.trans hk', by simp; omega, by omega, ?_⟩
          show (T ++ [s[k]]) ++ _ = _
          rw [List.append_assoc]; exact HD2.out
        case measure => simp [intOf]; omega
    · have hfin : decB s.data.toList = T := by
        have := HD.out
        rw [decL_end s fuel k hlt, List.append_nil] at this
        exact this.symm
      have hcv := Gath.conv hown
      have HF := Lib.hid hfin
      clear hfin
      go_wp2
      go_ret
      exact ⟨by rw [HF.out]; rfl, hbw⟩
end Go.Proofs.Ytbkjhdinlnpglaa
