/-
  The law ScalarBack: its Go text returns true at every slice of numbers and every string, and nothing that lay in memory before is changed.
-/
import Derived.Test.YtbkjhdinlnpglaaScalarTellsWalk
import Derived.Test.YtbkjhdinlnpglaaScalM
namespace Go.Proofs.Ytbkjhdinlnpglaa
open Go.RowKit

theorem fix_snoc (l : List Int) (k : Nat) (h : k < l.length) : (l.take (k + 1)).map fixZ = (l.take k).map fixZ ++ [fixZ l[k]] := by
  rw [List.take_succ_eq_append_getElem h, List.map_append]; rfl

theorem join_any (v : Value) (ps : List (List UInt8)) (sep : ByteArray) (w : World) (B : Nat) (h : Parts B w v ps) (hn : 0 < ps.length) (hb : ps.length ≤ 1073741824) (hj : (Lib.join ps sep.data.toList).length ≤ 1073741824) :
    Calls Try.prog 35 #[v, .string sep] w fun e w' => e = .returned (.string ⟨(Lib.join ps sep.data.toList).toArray⟩) ∧ Below w.heap.size w w' := by
  obtain ⟨g, c, rfl, hg, hc⟩ := h.form hn
  have hcap : ps.length ≤ c := by
    unfold Parts at h
    rcases h.2 with ⟨h0, _⟩ | ⟨g', cap, cur, hv, _, _, hle, _⟩
    · cases h0
    · cases hv; exact hle
  have hl : (bas ps).length = ps.length := by simp [bas]
  have hm : (bas ps).map (fun b => b.data.toList) = ps := by
    rw [bas, List.map_map]
    exact (List.map_congr_left (fun x _ => by simp)).trans (List.map_id ps)
  have := Try.strings_Join g 0 c (bas ps) sep w (fun j x hx => ?_) hg (by omega) (by omega) (by rw [hm]; omega)
  · rw [hm, hl] at this
    exact this
  · have hlt : j < (bas ps).length := (List.getElem?_eq_some_iff.1 hx).1
    rw [Nat.zero_add, hc j (by omega), ← bas_getD ps j (by omega)]
    simp [List.getD, hx]

theorem fixZ_runes (l : List Int) : Runes (l.map fixZ) := by
  intro x hx
  obtain ⟨r, _, rfl⟩ := List.mem_map.1 hx
  unfold fixZ
  split
  · rename_i h
    have := of_decide_eq_true h
    omega
  · omega

theorem trimL_len (l : List UInt8) : (trimL l).length ≤ l.length := by
  unfold trimL
  rw [List.length_reverse]
  have h1 := (List.dropWhile_suffix (l := (l.dropWhile blankC).reverse) blankC).length_le
  have h2 := (List.dropWhile_suffix (l := l) blankC).length_le
  rw [List.length_reverse] at h1
  omega

theorem mk_data (s : ByteArray) : ByteArray.mk s.data.toList.toArray = s := by simp

set_option maxRecDepth 100000 in
set_option maxHeartbeats 4000000 in
theorem back_in (a0 : Option Addr) (len0 cap0 : Nat) (l : List Int) (a1 : ByteArray) (w : World) (hr : RowR w (.slice a0 len0 cap0) (l.map (Value.int .i32))) (hru : Runes l) (hle : l.length = len0) (h1 : len0 ≤ 1000) (h2 : a1.size ≤ 2000) :
    Calls Try.prog 6 #[.slice a0 len0 cap0, .string a1] w fun e w' => e = .returned (.bool true) ∧ Below w.heap.size w w' := by
  obtain ⟨i0, hi, hz0, hz1, hz2⟩ := info_parts Try.infoRune
  have HR := Lib.hid hr
  have HRU := Lib.hid hru
  subst hle
  clear hr hru
  have hs : a1.size ≤ 1073741824 := by omega
  have hl : l.length ≤ 268435456 := by omega
  have htl := textB_le l
  have hsl := scal_len a1
  have hol := textB_le (scal a1)
  go_enter Try.func6, Try.ntmps6
  go_wp2_with fail
  refine (awake_any _).mono ?_
  rintro e x1 ⟨rfl, hb1⟩
  have HR1 := Lib.hid (HR.out.below hb1)
  have hx1 := hb1.size
  go_wp2
  go_loopw [5, 22] (fun v i wr => ∃ (k : Nat) (T : List Int), k ≤ l.length ∧ i = .int .i64 k ∧ wr.ownsRow x1.heap.size 21 1 v T.length (T.map (Value.int .i32)) ∧ T.length ≤ k ∧ Hid (T = (l.take k).map fixZ) ∧ Below x1.heap.size x1 wr) (fun _ i _ => l.length - (intOf i).toNat)
  case atStart => exact ⟨0, [], Nat.zero_le _, rfl, World.ownsRow_nil _ _ _ _, by simp, rfl, Below.refl _ _⟩
  case round =>
    obtain ⟨k, T, hk, rfl, hown, hTl, HT, hbw⟩ := hrel
    have hsz := hbw.size
    by_cases hlt : k < l.length
    · obtain ⟨x, hx⟩ : ∃ x, x = l[k] := ⟨_, rfl⟩
      obtain ⟨ao, cc, hv0, hcc⟩ := HR1.out
      obtain ⟨d1, hao, hd1⟩ := hcc k (.int .i32 x) (by simp [hx, hlt])
      have hao' : a0 = some d1 := by injection hv0 with e1; rw [e1]; exact hao
      subst hao'
      clear hcc hv0 hao
      have hd2 : wr.cell? (d1.add k) = some (.int .i32 x) := (hbw.cell (World.block_lt_of_cell? _ _ hd1)).trans hd1
      clear hd1
      have hsn := fix_snoc l k hlt
      rw [← hx, ← HT.out] at hsn
      have HSN := Lib.hid hsn
      clear hsn hx
      by_cases hv : isB x = true
      · have hf : fixZ x = x := if_pos hv
        have HF := Lib.hid hf
        clear hf
        go_wp2_with (first | (go_at_call 34; refine (is_any _ _).mono ?_; rintro e w' ⟨rfl, rfl⟩) | (at_builtin; refine wp_append1 _ rfl _ _ 24 rfl x1.heap.size 21 i0 (.int .i32 0) 4 Try.underlying24 hi hz0 hz1 hz2 rfl _ _ _ rfl hown (.int .i32 x) rfl rfl (by omega) (by omega) hsz ?_; intro v' w1 hown' hk'))
        go_roundw
        case rel =>
          refine ⟨k + 1, T ++ [x], by omega, by go_num, by simpa using hown', by simp; omega, ?_, hbw.trans hk'⟩
          show _ = _
          rw [HSN.out, HF.out]
        case measure => simp [intOf]; omega
      · have hf : fixZ x = 65533 := if_neg hv
        have hv' : isB x = false := by simpa using hv
        have HF := Lib.hid hf
        clear hf hv
        go_wp2_with (first | (go_at_call 34; refine (is_any _ _).mono ?_; rintro e w' ⟨rfl, rfl⟩) | (at_builtin; refine wp_append1 _ rfl _ _ 24 rfl x1.heap.size 21 i0 (.int .i32 0) 4 Try.underlying24 hi hz0 hz1 hz2 rfl _ _ _ rfl hown (.int .i32 65533) rfl rfl (by omega) (by omega) hsz ?_; intro v' w1 hown' hk'))
        go_roundw
        case rel =>
          refine ⟨k + 1, T ++ [65533], by omega, by go_num, by simpa using hown', by simp; omega, ?_, hbw.trans hk'⟩
          show _ = _
          rw [HSN.out, HF.out]
        case measure => simp [intOf]; omega
    · have hT : T = l.map fixZ := by rw [HT.out, List.take_of_length_le (by omega)]
      subst hT
      clear HT
      have hrw := RowR.of_own (xs := (l.map fixZ).map (Value.int .i32)) (by rw [List.length_map]; exact hown)
      have hc1 : Below w.heap.size w wr := hb1.trans (hbw.mono hb1.size)
      have HR2 := Lib.hid (HR1.out.below hbw)
      have HRW := Lib.hid hrw
      clear hrw hown hbw hb1
      -- t
      go_wp2_with fail
      refine (text_any _ l _ HR2.out hl HRU.out).mono ?_
      rintro e x2 ⟨rfl, hb2⟩
      have hc2 : Below w.heap.size w x2 := hc1.trans (hb2.mono hc1.size)
      have HRW2 := Lib.hid (HRW.out.below hb2)
      clear hc1 hb2
      -- once
      go_wp2_with fail
      refine (scalars_any _ _ hs).mono ?_
      rintro e x3 ⟨v3, rfl, hown3, hb3⟩
      have hc3 : Below w.heap.size w x3 := hc2.trans (hb3.mono hc2.size)
      have HRW3 := Lib.hid (HRW2.out.below hb3)
      have HR3 := Lib.hid (RowR.of_own hown3)
      clear hc2 hb3 hown3
      go_wp2_with fail
      refine (text_any _ (scal a1) _ HR3.out (by omega) (scal_runes a1)).mono ?_
      rintro e x4 ⟨rfl, hb4⟩
      have hc4 : Below w.heap.size w x4 := hc3.trans (hb4.mono hc3.size)
      have HRW4 := Lib.hid (HRW3.out.below hb4)
      clear hc3 hb4
      -- Scalars(t), want
      go_wp2_with fail
      refine (scalars_any _ _ (by rw [size_mk]; omega)).mono ?_
      rintro e x5 ⟨v5, rfl, hown5, hb5⟩
      have hc5 : Below w.heap.size w x5 := hc4.trans (hb5.mono hc4.size)
      have HRW5 := Lib.hid (HRW4.out.below hb5)
      rw [scal_text] at hown5
      have HR5 := Lib.hid (RowR.of_own hown5)
      clear hc4 hb5 hown5
      go_wp2_with fail
      refine (equalR_any _ _ (l.map fixZ) (l.map fixZ) _ HR5.out HRW5.out (by rw [List.length_map]; omega)).mono ?_
      rintro e x6 ⟨rfl, q, rfl⟩
      rw [show decide (l.map fixZ = l.map fixZ) = true from decide_eq_true rfl]
      have hc6 := below_drewN hc5 q
      generalize x5.drewN q = x6 at *
      clear hc5
      -- Text(Scalars(t)) == t
      go_wp2_with fail
      refine (scalars_any _ _ (by rw [size_mk]; omega)).mono ?_
      rintro e x7 ⟨v7, rfl, hown7, hb7⟩
      have hc7 : Below w.heap.size w x7 := hc6.trans (hb7.mono hc6.size)
      rw [scal_text] at hown7
      have HR7 := Lib.hid (RowR.of_own hown7)
      clear hc6 hb7 hown7
      go_wp2_with fail
      refine (text_any _ (l.map fixZ) _ HR7.out (by rw [List.length_map]; omega) (fixZ_runes l)).mono ?_
      rintro e x8 ⟨rfl, hb8⟩
      have hc8 : Below w.heap.size w x8 := hc7.trans (hb8.mono hc7.size)
      rw [textB_fix]
      clear hc7 hb8
      -- Text(Scalars(once)) == once
      go_wp2_with fail
      refine (scalars_any _ _ (by rw [size_mk]; omega)).mono ?_
      rintro e x9 ⟨v9, rfl, hown9, hb9⟩
      have hc9 : Below w.heap.size w x9 := hc8.trans (hb9.mono hc8.size)
      rw [scal_text] at hown9
      have HR9 := Lib.hid (RowR.of_own hown9)
      clear hc8 hb9 hown9
      go_wp2_with fail
      refine (text_any _ ((scal a1).map fixZ) _ HR9.out (by rw [List.length_map]; omega) (fixZ_runes _)).mono ?_
      rintro e x10 ⟨rfl, hb10⟩
      have hc10 : Below w.heap.size w x10 := hc9.trans (hb10.mono hc9.size)
      rw [textB_fix]
      clear hc9 hb10
      -- Join(Split(s, "/"), "/") == s
      go_wp2_with fail
      refine (split_any _ _ _ hs).mono ?_
      rintro e x11 ⟨v11, rfl, hp11, hb11⟩
      have hc11 : Below w.heap.size w x11 := hc10.trans (hb11.mono hc10.size)
      clear hc10 hb11
      go_wp2_with fail
      refine (join_any _ _ _ _ _ hp11 (splitB_ne _ _) (by have h3 := splitB_len (hasB [47]) a1.data.toList; rw [size_list] at h3; exact Nat.le_trans h3 (by omega)) (by have h3 := split_join a1.data.toList 47; exact Nat.le_trans (Nat.le_of_eq (congrArg List.length h3)) (by rw [size_list]; omega))).mono ?_
      rintro e x12 ⟨rfl, hb12⟩
      have hc12 : Below w.heap.size w x12 := hc11.trans (hb12.mono hc11.size)
      have hje : ByteArray.mk (Lib.join (splitB (hasB (ByteArray.mk #[47]).data.toList) a1.data.toList) (ByteArray.mk #[47]).data.toList).toArray = a1 := by
        have h3 := split_join a1.data.toList 47
        exact (congrArg (fun z : List UInt8 => ByteArray.mk z.toArray) h3).trans (mk_data a1)
      rw [hje]
      clear hc11 hb12 hp11 hje
      -- Trim
      go_wp2_with fail
      refine (trim_any _ _ hs).mono ?_
      rintro e x' ⟨rfl, rfl⟩
      go_wp2_with fail
      refine (trim_any _ _ (by rw [size_mk]; exact Nat.le_trans (trimL_len _) (by rw [size_list]; omega))).mono ?_
      rintro e x' ⟨rfl, rfl⟩
      rw [show (ByteArray.mk (trimL a1.data.toList).toArray).data.toList = trimL a1.data.toList from by simp, trimL_twice]
      go_wp2_with fail
      refine (trim_any _ _ hs).mono ?_
      rintro e x' ⟨rfl, rfl⟩
      -- Lower
      go_wp2_with fail
      refine (lower_any _ _ hs).mono ?_
      rintro e x13 ⟨rfl, hb13⟩
      have hc13 : Below w.heap.size w x13 := hc12.trans (hb13.mono hc12.size)
      clear hc12 hb13
      go_wp2_with fail
      refine (lower_any _ _ (by rw [size_mk, lower_len, size_list]; omega)).mono ?_
      rintro e x14 ⟨rfl, hb14⟩
      have hc14 : Below w.heap.size w x14 := hc13.trans (hb14.mono hc13.size)
      rw [show (ByteArray.mk (lowerB a1.data.toList).toArray).data.toList = lowerB a1.data.toList from by simp, lowerB_twice]
      clear hc13 hb14
      go_wp2_with fail
      refine (lower_any _ _ hs).mono ?_
      rintro e x15 ⟨rfl, hb15⟩
      have hc15 : Below w.heap.size w x15 := hc14.trans (hb15.mono hc14.size)
      clear hc14 hb15
      go_wp2
      go_ret
      exact ⟨by first | rfl | exact ret_bool (by simp), hc15⟩

set_option maxRecDepth 100000 in
set_option maxHeartbeats 4000000 in
theorem scalarBack_walk (a0 : Option Addr) (len0 cap0 : Nat) (z0 : List Int) (a1 : ByteArray) (w : World) (w0 : IsRow .i32 w a0 len0 cap0 z0) (w1 : a1.size ≤ maxLen) :
    Calls Try.prog 6 #[.slice a0 len0 cap0, .string a1] w fun e w' => e = .returned (.bool true) ∧ Below w.heap.size w w' := by
  have hr := w0.rowR
  have hru := w0.runes
  have hle := w0.len_eq
  have hlm : len0 ≤ maxLen := by
    rcases w0 with ⟨_, rfl, _, _⟩ | ⟨_, _, h1, h2, _⟩
    · exact Nat.zero_le _
    · omega
  unfold maxLen at hlm w1
  by_cases h1 : len0 ≤ 1000
  · by_cases h2 : a1.size ≤ 2000
    · exact back_in a0 len0 cap0 _ a1 w hr hru hle h1 h2
    · clear hr hru hle w0
      go_enter Try.func6, Try.ntmps6
      go_wp2_with fail
      refine (awake_any _).mono ?_
      rintro e x1 ⟨rfl, hb1⟩
      go_wp2
      go_ret
      exact ⟨rfl, hb1⟩
  · clear hr hru hle w0
    go_enter Try.func6, Try.ntmps6
    go_wp2_with fail
    refine (awake_any _).mono ?_
    rintro e x1 ⟨rfl, hb1⟩
    go_wp2
    go_ret
    exact ⟨rfl, hb1⟩
end Go.Proofs.Ytbkjhdinlnpglaa
