/-
  The law ScalarSplits: its Go text returns true at every two strings, and nothing that lay in memory before is changed.
-/
import Derived.Test.YtbkjhdinlnpglaaScalarTellsWalk
import Derived.Test.YtbkjhdinlnpglaaSplB
namespace Go.Proofs.Ytbkjhdinlnpglaa
open Go.RowKit

theorem trimL_len2 (l : List UInt8) : (trimL l).length ≤ l.length := by
  unfold trimL
  rw [List.length_reverse]
  have h1 := (List.dropWhile_suffix (l := (l.dropWhile blankC).reverse) blankC).length_le
  have h2 := (List.dropWhile_suffix (l := l) blankC).length_le
  rw [List.length_reverse] at h1
  omega

theorem count_snoc (p : UInt8 → Bool) (s : ByteArray) (k : Nat) (h : k < s.size) : (s.data.toList.take (k + 1)).countP p = (s.data.toList.take k).countP p + (if p s[k] = true then 1 else 0) := by
  rw [take_bytes s k h, List.countP_append]
  simp [List.countP_cons]
theorem sum_snoc (ps : List (List UInt8)) (k : Nat) (h : k < ps.length) : sumLen (ps.take (k + 1)) = sumLen (ps.take k) + ps[k].length := by
  rw [List.take_succ_eq_append_getElem h, sumLen_snoc]
theorem sum_le (ps : List (List UInt8)) (k : Nat) : sumLen (ps.take k) ≤ sumLen ps := by
  have e : sumLen ps = sumLen (ps.take k) + sumLen (ps.drop k) := by
    unfold sumLen
    rw [← List.sum_append, ← List.map_append, List.take_append_drop]
  omega

set_option maxRecDepth 100000 in
set_option maxHeartbeats 4000000 in
theorem splits_in (a0 : ByteArray) (a1 : ByteArray) (hlen : a0.size ≤ 2000) (hlen1 : a1.size ≤ 20) (w : World) :
    Calls Try.prog 7 #[.string a0, .string a1] w fun e w' => e = .returned (.bool true) ∧ Below w.heap.size w w' := by
  obtain ⟨p, hpd⟩ : ∃ p, p = hasB a1.data.toList := ⟨_, rfl⟩
  obtain ⟨ps, hps⟩ : ∃ ps, ps = splitB p a0.data.toList := ⟨_, rfl⟩
  obtain ⟨C, hC⟩ : ∃ C, C = a0.data.toList.countP p := ⟨_, rfl⟩
  have hcnt := split_count p a0.data.toList
  rw [← hps, ← hC, size_list] at hcnt
  obtain ⟨c1, c2, c3⟩ := hcnt
  have hCl : C ≤ 2000 := by omega
  have HPD := Lib.hid hpd
  have HPS := Lib.hid hps
  have HC := Lib.hid hC
  have HC1 := Lib.hid c1
  have HC2 := Lib.hid c2
  have HC3 := Lib.hid c3
  have hpl : ps.length ≤ 2001 := by omega
  have hpl2 : 0 < ps.length := by omega
  have hsum : sumLen ps ≤ 2000 := by omega
  clear hpd hps hC c1 c2 c3
  go_enter Try.func7, Try.ntmps7
  go_wp2_with fail
  refine (awake_any _).mono ?_
  rintro e x1 ⟨rfl, hb1⟩
  go_wp2
  go_loop [5, 25] (fun n i => ∃ k m : Nat, k ≤ a0.size ∧ i = .int .i64 k ∧ n = .int .i64 m ∧ m ≤ k + 1 ∧ Hid (m = (a0.data.toList.take k).countP p + 1)) (fun _ i => a0.size - (intOf i).toNat)
  case atStart => exact ⟨0, 1, Nat.zero_le _, rfl, rfl, by omega, rfl⟩
  case round =>
    obtain ⟨k, m, hk, rfl, rfl, hm, HM⟩ := hrel
    by_cases hlt : k < a0.size
    · have hsn := count_snoc p a0 k hlt
      by_cases hp : p a0[k] = true
      · rw [if_pos hp] at hsn
        have HSN := Lib.hid hsn
        rw [HPD.out] at hp
        have HP := Lib.hid hp
        clear hsn hp
        go_wp2_with (first | (go_at_call 36; refine (ib_yes _ _ _ HP.out).mono ?_; rintro e w' ⟨x, rfl, hx, rfl⟩))
        go_round
        case rel =>
          refine ⟨k + 1, m + 1, by omega, by go_num, by go_num, by omega, ?_⟩
          show m + 1 = _
          rw [HSN.out, HM.out]
        case measure => simp [intOf]; omega
      · rw [if_neg hp] at hsn
        have HSN := Lib.hid hsn
        have hp' : hasB a1.data.toList a0[k] = false := by rw [← HPD.out]; simpa using hp
        have HP := Lib.hid hp'
        clear hsn hp hp'
        go_wp2_with (first | (go_at_call 36; refine (ib_no _ _ _ HP.out).mono ?_; rintro e w' ⟨rfl, rfl⟩))
        go_round
        case rel =>
          refine ⟨k + 1, m, by omega, by go_num, rfl, by omega, ?_⟩
          show m = _
          rw [HSN.out, HM.out]
        case measure => simp [intOf]; omega
    · have hm2 : m = C + 1 := by rw [HM.out, take_all a0 k hlt, HC.out]
      subst hm2
      clear HM hm
      go_wp2_with fail
      refine (split_any _ _ _ (by omega)).mono ?_
      rintro e x2 ⟨v2, rfl, hp2, hb2⟩
      have hc2 : Below w.heap.size w x2 := hb1.trans (hb2.mono hb1.size)
      rw [← HPD.out, ← HPS.out] at hp2
      obtain ⟨g, cap, rfl, _, hcell⟩ := hp2.form hpl2
      have HCELL := Lib.hid hcell
      clear hb1 hb2 hcell hp2
      go_wp2
      go_loop [8, 44] (fun t i => ∃ k : Nat, k ≤ ps.length ∧ i = .int .i64 k ∧ t = .int .i64 ((C + sumLen (ps.take k) : Nat) : Int)) (fun _ i => ps.length - (intOf i).toNat)
      case atStart => exact ⟨0, Nat.zero_le _, rfl, by simp [sumLen]⟩
      case round =>
        obtain ⟨k2, hk2, rfl, rfl⟩ := hrel
        have hsl := sum_le ps k2
        by_cases hlt2 : k2 < ps.length
        · obtain ⟨q, hq⟩ : ∃ q, q = ps[k2] := ⟨_, rfl⟩
          have hcl := HCELL.out k2 hlt2
          have hgd : ps.getD k2 [] = q := by rw [hq]; simp [List.getD, List.getElem?_eq_getElem hlt2]
          rw [hgd] at hcl
          have hsn := sum_snoc ps k2 hlt2
          rw [← hq] at hsn
          have HSN := Lib.hid hsn
          have hql : q.length ≤ 2000 := by have := sum_le ps (k2 + 1); rw [hsn] at this; omega
          have HQ := Lib.hid (HC3.out q (by rw [hq]; exact List.getElem_mem _))
          clear hgd hsn hq
          go_wp2
          go_loop [54] (fun i => ∃ j : Nat, j ≤ q.length ∧ i = .int .i64 j) (fun i => q.length - (intOf i).toNat)
          case atStart => exact ⟨0, Nat.zero_le _, rfl⟩
          case round =>
            obtain ⟨j, hj, rfl⟩ := hrel
            by_cases hjlt : j < q.length
            · have hjs : j < (ByteArray.mk q.toArray).size := by rw [size_mk]; exact hjlt
              have hp' : hasB a1.data.toList (ByteArray.mk q.toArray)[j] = false := by
                rw [← HPD.out]
                exact HQ.out _ (List.getElem_mem (l := q) hjlt)
              have HP := Lib.hid hp'
              clear hp'
              go_wp2_with (first | (go_at_call 36; refine (ib_no _ _ _ HP.out).mono ?_; rintro e w' ⟨rfl, rfl⟩))
              go_round
              case rel => exact ⟨j + 1, by omega, by go_num⟩
              case measure => simp [intOf]; omega
            · go_wp2
              go_round
              case rel => exact ⟨k2 + 1, by omega, by go_num, by rw [HSN.out]; congr 1; omega⟩
              case measure => simp [intOf]; omega
        · have htot : C + sumLen (ps.take k2) = a0.size := by
            rw [List.take_of_length_le (by omega)]
            have := HC2.out
            omega
          rw [htot]
          clear htot
          go_wp2_with fail
          refine (trim_any _ _ (by omega)).mono ?_
          rintro e x' ⟨rfl, rfl⟩
          have htl : (trimL a0.data.toList).length ≤ 2000 := by have := trimL_len2 a0.data.toList; rw [size_list] at this; omega
          go_wp2_with fail
          refine (drop_any _ _ (by rw [size_mk]; omega)).mono ?_
          rintro e x3 ⟨rfl, hb3⟩
          have hc3 : Below w.heap.size w x3 := hc2.trans (hb3.mono hc2.size)
          clear hc2 hb3
          rw [show (ByteArray.mk (trimL a0.data.toList).toArray).data.toList = trimL a0.data.toList from by simp]
          have hdl := drop_len (trimL a0.data.toList)
          have hdn := drop_none (trimL a0.data.toList)
          have hd2 := drop_twice (trimL a0.data.toList)
          generalize dropB (trimL a0.data.toList) = D at *
          have HDN := Lib.hid hdn
          have HD2 := Lib.hid hd2
          clear hdn hd2
          have b1 : ((ps.length : Int) == ((C : Int) + 1)) = true := beq_iff_eq.2 (by have := HC1.out; omega)
          go_wp2_with fail
          refine (containsAny_any _ _ (by rw [size_mk]; omega) (fun k hk => HDN.out _ (List.getElem_mem (l := D) (by rw [size_mk] at hk; exact hk)))).mono ?_
          rintro e x4 ⟨rfl, hb4⟩
          have hc4 : Below w.heap.size w x4 := hc3.trans (hb4.mono hc3.size)
          clear hc3 hb4
          go_wp2_with fail
          refine (drop_any _ _ (by rw [size_mk]; omega)).mono ?_
          rintro e x5 ⟨rfl, hb5⟩
          have hc5 : Below w.heap.size w x5 := hc4.trans (hb5.mono hc4.size)
          clear hc4 hb5
          rw [show (ByteArray.mk D.toArray).data.toList = D from by simp, HD2.out]
          go_wp2
          go_ret
          exact ⟨by first | rfl | exact ret_bool (by simp), hc5⟩

set_option maxRecDepth 100000 in
set_option maxHeartbeats 2000000 in
theorem scalarSplits_walk (a0 : ByteArray) (a1 : ByteArray) (w0 : a0.size ≤ maxLen) (w1 : a1.size ≤ maxLen) (w : World) :
    Calls Try.prog 7 #[.string a0, .string a1] w fun e w' => e = .returned (.bool true) ∧ Below w.heap.size w w' := by
  unfold maxLen at w0 w1
  by_cases hlen : a0.size ≤ 2000
  · by_cases hlen1 : a1.size ≤ 20
    · exact splits_in a0 a1 hlen hlen1 w
    · go_enter Try.func7, Try.ntmps7
      go_wp2_with fail
      refine (awake_any _).mono ?_
      rintro e x1 ⟨rfl, hb1⟩
      go_wp2
      go_ret
      exact ⟨rfl, hb1⟩
  · go_enter Try.func7, Try.ntmps7
    go_wp2_with fail
    refine (awake_any _).mono ?_
    rintro e x1 ⟨rfl, hb1⟩
    go_wp2
    go_ret
    exact ⟨rfl, hb1⟩
end Go.Proofs.Ytbkjhdinlnpglaa
