/-
  The law NumberEnds: its Go text returns true at every two texts, and nothing that lay in memory before is changed.
-/
import Derived.Test.YtaojjkknmaldiaaNumH
import Derived.Test.YtaojjkknmaldiaaNumI
namespace Go.Proofs.Ytaojjkknmaldiaa
open Go.RowKit


theorem last_byte (s : ByteArray) (h : 0 < s.size) (hn : s.data.toList ≠ []) : s.data.toList.getLast hn = s[s.size - 1] := by
  rw [List.getLast_eq_getElem]
  simp
  rfl

set_option maxRecDepth 100000 in
set_option maxHeartbeats 4000000 in
theorem numberEnds_in (a0 a1 : ByteArray) (w : World) (h0 : a0.size ≤ 300) (h1 : a1.size ≤ 300) (hn : 0 < a1.size) (c : Nat) (hc : (a1[a1.size - 1]'(by omega)).toNat = c) (hne : c ≠ 46) :
    Calls Try.prog 4 #[.string a0, .string a1] w fun e w' => e = .returned (.bool true) ∧ Below w.heap.size w w' := by
  have hT : tailP a1.data.toList ≠ [] := tailP_ne _ (ne_of_size a1 (by omega)) (by rw [last_byte a1 hn]; intro e; apply hne; rw [← hc, e]; rfl)
  have HT := Lib.hid hT
  have hse := not_isEmpty a1 (by omega)
  have hb46 : ((c : Int) == 46) = false := beq_eq_false_iff_ne.2 (by omega)
  have hl1 : (a1.size : Int) - 1 < a1.size := by omega
  have hl2 : (0 : Int) ≤ (a1.size : Int) - 1 := by omega
  have hl3 : ((a1.size : Int) - 1).toNat = a1.size - 1 := by omega
  clear hT hne
  go_enter Try.func4, Try.ntmps4
  go_wp2_with fail
  refine (awake03_any _).mono ?_
  rintro e x1 ⟨rfl, hb1⟩
  go_wp2
  clear hl1 hl2 hl3 hb46 hc
  go_loop [5, 32] (fun v i => ∃ (k a : Nat), k ≤ a1.size ∧ a ≤ k ∧ i = .int .i64 k ∧ v = .string ⟨(a1.data.toList.drop a).toArray⟩ ∧ Hid (tailP (a1.data.toList.take k) = (a1.data.toList.drop a).take (k - a))) (fun _ i => a1.size - (intOf i).toNat)
  case atStart => exact ⟨0, 0, Nat.zero_le _, Nat.zero_le _, rfl, by simp, rfl⟩
  case round =>
    obtain ⟨k, a, hk, ha, rfl, rfl, HP⟩ := hrel
    by_cases hlt : k < a1.size
    · obtain ⟨d, hd⟩ : ∃ d, (a1[k]'hlt).toNat = d := ⟨_, rfl⟩
      by_cases h46 : d = 46
      · subst h46
        have HN := Lib.hid (tail_step_dot a1 k hlt hd)
        go_wp2
        go_round
        case rel => exact ⟨k + 1, k + 1, by omega, by omega, by go_num, by first | rw [extract_to] | (rw [← extract_to]; congr 1), HN⟩
        case measure => simp [intOf]; omega
      · have HN := Lib.hid (tail_step a1 k a ha hlt (by omega) HP.out)
        have b1 : ((d : Int) == 46) = false := beq_eq_false_iff_ne.2 (by omega)
        go_wp2
        go_round
        case rel => exact ⟨k + 1, a, by omega, by omega, by go_num, rfl, HN⟩
        case measure => simp [intOf]; omega
    · have htl := tail_end a1 k a hlt HP.out
      rw [htl]
      clear HP htl
      have htlen : (tailP a1.data.toList).length ≤ 300 := by
        have := (spl_part (hasB [46]) a1.data.toList ([], [])).2
        rw [size_list] at this
        simp only [List.length_nil, Nat.zero_add] at this
        exact Nat.le_trans this h1
      go_wp2_with fail
      refine (ends_any _ _ (by rw [app_size]; show _ + 1 ≤ _; omega)).mono ?_
      rw [app_list, show (ByteArray.mk #[46]).data.toList = [46] from rfl, ends_e1]
      rintro e x2 ⟨rfl, hb2⟩
      have hc2 : Below w.heap.size w x2 := hb1.trans (hb2.mono hb1.size)
      clear hb1 hb2
      go_wp2_with fail
      refine (ends_any _ _ (by omega)).mono ?_
      rw [ends_e2 _ HT.out]
      rintro e x3 ⟨rfl, hb3⟩
      have hc3 : Below w.heap.size w x3 := hc2.trans (hb3.mono hc2.size)
      clear hc2 hb3
      go_wp2_with fail
      refine (ends_any _ _ (by rw [app_size, app_size]; show _ + 1 + _ ≤ _; omega)).mono ?_
      rw [app_list, app_list, show (ByteArray.mk #[46]).data.toList = [46] from rfl, ends_e3 _ _ HT.out]
      rintro e x4 ⟨rfl, hb4⟩
      have hc4 : Below w.heap.size w x4 := hc3.trans (hb4.mono hc3.size)
      clear hc3 hb4
      go_wp2_with fail
      refine (ends_any _ _ (by omega)).mono ?_
      rw [ends_e2 _ HT.out]
      rintro e x5 ⟨rfl, hb5⟩
      have hc5 : Below w.heap.size w x5 := hc4.trans (hb5.mono hc4.size)
      clear hc4 hb5
      go_wp2_with fail
      refine (ends_any _ _ (by rw [size_mk]; omega)).mono ?_
      rw [mk_list, ends_e4 _ HT.out]
      rintro e x6 ⟨rfl, hb6⟩
      have hc6 : Below w.heap.size w x6 := hc5.trans (hb6.mono hc5.size)
      clear hc5 hb6
      go_wp2_with fail
      refine (ends_any _ _ (by omega)).mono ?_
      rw [ends_e2 _ HT.out]
      rintro e x7 ⟨rfl, hb7⟩
      have hc7 : Below w.heap.size w x7 := hc6.trans (hb7.mono hc6.size)
      clear hc6 hb7
      go_wp2_with fail
      refine (ends_any _ _ (by decide)).mono ?_
      rw [show endsB (ByteArray.mk #[]).data.toList = false from ends_e5]
      rintro e x8 ⟨rfl, hb8⟩
      have hc8 : Below w.heap.size w x8 := hc7.trans (hb8.mono hc7.size)
      clear hc7 hb8
      go_wp2_with fail
      refine (ends_any _ _ (by rw [app_size]; show _ + 2 ≤ _; omega)).mono ?_
      rw [app_list, show (ByteArray.mk #[46, 46]).data.toList = [46, 46] from rfl, ends_e6]
      rintro e x9 ⟨rfl, hb9⟩
      have hc9 : Below w.heap.size w x9 := hc8.trans (hb9.mono hc8.size)
      clear hc8 hb9
      go_wp2
      go_ret
      exact ⟨by first | rfl | exact ret_bool (by simp), hc9⟩

set_option maxRecDepth 100000 in
set_option maxHeartbeats 4000000 in
theorem numberEnds_walk (a0 : ByteArray) (a1 : ByteArray) (w0 : a0.size ≤ maxLen) (w1 : a1.size ≤ maxLen) (w : World) :
    Calls Try.prog 4 #[.string a0, .string a1] w fun e w' => e = .returned (.bool true) ∧ Below w.heap.size w w' := by
  unfold maxLen at w0 w1
  by_cases h0 : a0.size ≤ 300
  · by_cases h1 : a1.size ≤ 300
    · by_cases hn : a1.size = 0
      · obtain rfl := empty_of_size a1 hn
        clear hn h1 w1
        go_enter Try.func4, Try.ntmps4
        go_wp2_with fail
        refine (awake03_any _).mono ?_
        rintro e x1 ⟨rfl, hb1⟩
        go_wp2
        go_ret
        exact ⟨rfl, hb1⟩
      · obtain ⟨c, hc⟩ : ∃ c, (a1[a1.size - 1]'(by omega)).toNat = c := ⟨_, rfl⟩
        by_cases h46 : c = 46
        · subst h46
          have hse := not_isEmpty a1 hn
          have hl1 : (a1.size : Int) - 1 < a1.size := by omega
          have hl2 : (0 : Int) ≤ (a1.size : Int) - 1 := by omega
          have hl3 : ((a1.size : Int) - 1).toNat = a1.size - 1 := by omega
          go_enter Try.func4, Try.ntmps4
          go_wp2_with fail
          refine (awake03_any _).mono ?_
          rintro e x1 ⟨rfl, hb1⟩
          go_wp2
          go_ret
          exact ⟨rfl, hb1⟩
        · exact numberEnds_in a0 a1 w h0 h1 (by omega) c hc h46
    · go_enter Try.func4, Try.ntmps4
      go_wp2_with fail
      refine (awake03_any _).mono ?_
      rintro e x1 ⟨rfl, hb1⟩
      go_wp2
      go_ret
      exact ⟨rfl, hb1⟩
  · go_enter Try.func4, Try.ntmps4
    go_wp2_with fail
    refine (awake03_any _).mono ?_
    rintro e x1 ⟨rfl, hb1⟩
    go_wp2
    go_ret
    exact ⟨rfl, hb1⟩
end Go.Proofs.Ytaojjkknmaldiaa
