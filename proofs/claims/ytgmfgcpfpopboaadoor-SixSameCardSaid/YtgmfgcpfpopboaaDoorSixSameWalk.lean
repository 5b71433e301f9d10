/-
  The law SixSame: its Go text returns true at every text, whatever its bytes, and every address, where the library's tables read as they are laid; nothing that lay in memory before is changed.
-/
import Derived.Test.YtgmfgcpfpopboaaDoorSixU
import Derived.Test.YtgmfgcpfpopboaaDoorSixN
namespace Go.Proofs.YtgmfgcpfpopboaaDoor
open Go.RowKit


theorem utf8Tabs_below {g g2 : Nat} {w w' : World} (h : Lib.Utf8Tabs g g2 w) (hb : Below w.heap.size w w') : Lib.Utf8Tabs g g2 w' := by
  have k : ∀ {a : Addr} {v : Value}, w.cell? a = some v → w'.cell? a = some v := fun {a v} hc => (hb.cell (World.block_lt_of_cell? w a hc)).trans hc
  exact ⟨fun c hc => k (h.1 c hc), fun i hi => ⟨k (h.2 i hi).1, k (h.2 i hi).2⟩⟩
theorem mk_size (l : List UInt8) : (ByteArray.mk l.toArray).size = l.length := by simp [ByteArray.size]
theorem enters22 : ∀ args w, (callFunc 22 args).run Tryd.prog w = .ok (.enter 22 args) w := enters_of Tryd.func22 (by kernel_rfl) rfl
theorem pad_cat0 (c : Nat) (D : List UInt8) : ByteArray.mk #[] ++ (ByteArray.mk (Array.replicate c 48) ++ ByteArray.mk D.toArray) = ⟨(List.replicate c 48 ++ D).toArray⟩ := by
  rw [show Array.replicate c (48 : UInt8) = (List.replicate c 48).toArray from by simp]
  rw [show ByteArray.mk #[] = ByteArray.mk ([] : List UInt8).toArray from rfl, cat2, cat2]; rfl
theorem pad_cat1 (J : List UInt8) (c : Nat) (D : List UInt8) : ByteArray.mk J.toArray ++ ByteArray.mk #[58] ++ (ByteArray.mk (Array.replicate c 48) ++ ByteArray.mk D.toArray) = ⟨(J ++ [58] ++ (List.replicate c 48 ++ D)).toArray⟩ := by
  rw [show Array.replicate c (48 : UInt8) = (List.replicate c 48).toArray from by simp]
  rw [show ByteArray.mk #[58] = ByteArray.mk ([58] : List UInt8).toArray from rfl, cat2, cat2, cat2]

set_option maxRecDepth 100000 in
set_option maxHeartbeats 4000000 in
theorem sixSame_yes (s : ByteArray) (hi lo h l : Int) (w : World) (hlen : s.size ≤ 200) (i0 : 0 ≤ hi) (i1 : hi ≤ 18446744073709551615) (j0 : 0 ≤ lo) (j1 : lo ≤ 18446744073709551615)
    (hz : sixZ s.data.toList = ((h, l), true)) (hz2 : sixZ (Lib.toUpperD s.data.toList) = ((h, l), true))
    (hbru : BruTab w) (hmax : MaxVar w) (hcase : Lib.CaseVar 0 Lib.caseA w) (hutf : Lib.Utf8Tabs 3 4 w) :
    Calls Tryd.prog 6 #[.string s, .int .u64 hi, .int .u64 lo] w fun e w' => e = .returned (.bool true) ∧ Below w.heap.size w w' := by
  have HX := Lib.hid hmax
  have HT := Lib.hid hbru
  have HC := Lib.hid hcase
  have HU := Lib.hid hutf
  have HZ := Lib.hid hz
  have HZ2 := Lib.hid hz2
  have HB : Hid ((0 ≤ h ∧ h ≤ 18446744073709551615) ∧ (0 ≤ l ∧ l ≤ 18446744073709551615)) := by
    have h4 := hi4_bounds (sixL_in s.data.toList)
    have l4 := lo4_bounds (sixL_in s.data.toList)
    have e := hz
    unfold sixZ at e
    simp only [Prod.mk.injEq] at e
    rw [e.1.1] at h4
    rw [e.1.2] at l4
    exact ⟨h4, l4⟩
  have HL : Hid ((Lib.toUpperD s.data.toList).length ≤ 1073741824) := by
    have := upper_len s.data.toList
    have e : s.data.toList.length = s.size := by simp
    show (Lib.toUpperD s.data.toList).length ≤ 1073741824
    omega
  have HP := Lib.hid (six_pad i0 i1 j0 j1)
  have HIN := Lib.hid (pcs_in i0 i1 j0 j1)
  clear hbru hmax hcase hutf hz hz2
  have hd : decide ((200 : Int) < (s.size : Int)) = false := decide_eq_false (by omega)
  go_enter Tryd.func6, Tryd.ntmps6
  go_wp2_with fail
  refine (awake05_any _ HT.out HX.out).mono ?_
  rintro e x1 ⟨rfl, hb1⟩
  go_wp2_with fail
  refine (parse6_any s _ (by omega) (maxVar_below HX.out hb1)).mono ?_
  rw [HZ.out]
  rintro e x2 ⟨rfl, hb2⟩
  have hc2 : Below w.heap.size w x2 := hb1.trans (hb2.mono hb1.size)
  have hd2 : Below w.heap.size w (x2.alloc (.cells #[.int .u64 h, .int .u64 l] 25)) := hc2.alloc hc2.size _
  have hr2 : (x2.alloc (.cells #[.int .u64 h, .int .u64 l] 25)).heap[x2.heap.size]? = some (.cells #[.int .u64 h, .int .u64 l] 25 (0, 0)) := heap_alloc_new x2 _
  have hl2 : x2.heap.size < (x2.alloc (.cells #[.int .u64 h, .int .u64 l] 25)).heap.size := by simp
  clear hb1 hb2 hc2
  go_wp2_with fail
  refine (Tryd.strings_ToUpper_any s _ (by omega) (Lib.CaseVar_below HC.out hd2) (utf8Tabs_below HU.out hd2)).mono ?_
  rintro e x3 ⟨rfl, hb3⟩
  have hc3 : Below w.heap.size w x3 := hd2.trans (hb3.mono hd2.size)
  have hr3 : x3.heap[x2.heap.size]? = some (.cells #[.int .u64 h, .int .u64 l] 25 (0, 0)) := (hb3.block _ hl2).trans hr2
  have hl3 : x2.heap.size < x3.heap.size := Nat.lt_of_lt_of_le hl2 hb3.size
  clear hb3 hd2 hr2 hl2
  go_wp2_with fail
  refine (parse6_any _ _ (by rw [mk_size]; exact HL.out) (maxVar_below HX.out hc3)).mono ?_
  rw [mk_list, HZ2.out]
  rintro e x4 ⟨rfl, hb4⟩
  have hc4 : Below w.heap.size w x4 := hc3.trans (hb4.mono hc3.size)
  have hr4 : x4.heap[x2.heap.size]? = some (.cells #[.int .u64 h, .int .u64 l] 25 (0, 0)) := (hb4.block _ hl3).trans hr3
  have hl4 : x2.heap.size < x4.heap.size := Nat.lt_of_lt_of_le hl3 hb4.size
  clear hb4 hc3 hr3 hl3
  generalize x2.heap.size = B2 at *
  have hd4 : Below w.heap.size w (x4.alloc (.cells #[.int .u64 h, .int .u64 l] 25)) := hc4.alloc hc4.size _
  have hr5 : (x4.alloc (.cells #[.int .u64 h, .int .u64 l] 25)).heap[B2]? = some (.cells #[.int .u64 h, .int .u64 l] 25 (0, 0)) := (Below.heap_alloc _ _ _ hl4).trans hr4
  have hs5 : (x4.alloc (.cells #[.int .u64 h, .int .u64 l] 25)).heap[x4.heap.size]? = some (.cells #[.int .u64 h, .int .u64 l] 25 (0, 0)) := heap_alloc_new x4 _
  have hl5 : x4.heap.size < (x4.alloc (.cells #[.int .u64 h, .int .u64 l] 25)).heap.size := by simp
  have hm5 : B2 < (x4.alloc (.cells #[.int .u64 h, .int .u64 l] 25)).heap.size := by simp; omega
  have k0 : (x4.alloc (.cells #[.int .u64 h, .int .u64 l] 25)).cell? ⟨B2, 0, none⟩ = some (.int .u64 h) := by simp [World.cell?, hr5]
  have k1 : (x4.alloc (.cells #[.int .u64 h, .int .u64 l] 25)).cell? ⟨B2, 1, none⟩ = some (.int .u64 l) := by simp [World.cell?, hr5]
  clear hc4 hr4
  go_wp2_with fail
  refine (text6_any h l _ HB.out.1.1 HB.out.1.2 HB.out.2.1 HB.out.2.2 (bruTab_below HT.out hd4)).mono ?_
  rintro e x5 ⟨rfl, hb5⟩
  have hc5 : Below w.heap.size w x5 := hd4.trans (hb5.mono hd4.size)
  have hr6 := (hb5.block _ hm5).trans hr5
  have hs6 := (hb5.block _ hl5).trans hs5
  have hm6 : B2 < x5.heap.size := Nat.lt_of_lt_of_le hm5 hb5.size
  have hl6 : x4.heap.size < x5.heap.size := Nat.lt_of_lt_of_le hl5 hb5.size
  clear hb5 hd4 hr5 hs5 hl5 hm5 k0 k1 hl4
  generalize x4.heap.size = B4 at *
  go_wp2_with fail
  refine (parse6_any _ _ (by rw [mk_size]; exact Nat.le_trans (text6_len HB.out.1.1 HB.out.1.2 HB.out.2.1 HB.out.2.2) (by decide)) (maxVar_below HX.out hc5)).mono ?_
  rw [mk_list, six_text HB.out.1.1 HB.out.1.2 HB.out.2.1 HB.out.2.2]
  rintro e x6 ⟨rfl, hb6⟩
  have hc6 : Below w.heap.size w x6 := hc5.trans (hb6.mono hc5.size)
  have hr7 := (hb6.block _ hm6).trans hr6
  have hs7 := (hb6.block _ hl6).trans hs6
  have hm7 : B2 < x6.heap.size := Nat.lt_of_lt_of_le hm6 hb6.size
  have hl7 : B4 < x6.heap.size := Nat.lt_of_lt_of_le hl6 hb6.size
  clear hb6 hc5 hr6 hs6 hm6 hl6
  have hd6 : Below w.heap.size w (x6.alloc (.cells #[.int .u64 h, .int .u64 l] 25)) := hc6.alloc hc6.size _
  have hr8 : (x6.alloc (.cells #[.int .u64 h, .int .u64 l] 25)).heap[B2]? = some (.cells #[.int .u64 h, .int .u64 l] 25 (0, 0)) := (Below.heap_alloc _ _ _ hm7).trans hr7
  have hs8 : (x6.alloc (.cells #[.int .u64 h, .int .u64 l] 25)).heap[B4]? = some (.cells #[.int .u64 h, .int .u64 l] 25 (0, 0)) := (Below.heap_alloc _ _ _ hl7).trans hs7
  have k0 : (x6.alloc (.cells #[.int .u64 h, .int .u64 l] 25)).cell? ⟨B2, 0, none⟩ = some (.int .u64 h) := by simp [World.cell?, hr8]
  have k1 : (x6.alloc (.cells #[.int .u64 h, .int .u64 l] 25)).cell? ⟨B2, 1, none⟩ = some (.int .u64 l) := by simp [World.cell?, hr8]
  have k2 : (x6.alloc (.cells #[.int .u64 h, .int .u64 l] 25)).cell? ⟨B4, 0, none⟩ = some (.int .u64 h) := by simp [World.cell?, hs8]
  have k3 : (x6.alloc (.cells #[.int .u64 h, .int .u64 l] 25)).cell? ⟨B4, 1, none⟩ = some (.int .u64 l) := by simp [World.cell?, hs8]
  have hs9 : (x6.alloc (.cells #[.int .u64 h, .int .u64 l] 25)).heap[x6.heap.size]? = some (.cells #[.int .u64 h, .int .u64 l] 25 (0, 0)) := heap_alloc_new x6 _
  have k4 : (x6.alloc (.cells #[.int .u64 h, .int .u64 l] 25)).cell? ⟨x6.heap.size, 0, none⟩ = some (.int .u64 h) := (cell_of_row _ _ 0 _ _ _ hs9).trans rfl
  have k5 : (x6.alloc (.cells #[.int .u64 h, .int .u64 l] 25)).cell? ⟨x6.heap.size, 1, none⟩ = some (.int .u64 l) := (cell_of_row _ _ 1 _ _ _ hs9).trans rfl
  clear hs9 hc6 hr7 hs7 hm7 hl7 hr8 hs8
  go_wp2_with fail
  refine (pieces6_any hi lo _ i0 i1 j0 j1).mono ?_
  rintro e x8 ⟨rfl, hb8⟩
  have hq8 : Below w.heap.size w x8 := hd6.trans (hb8.mono hd6.size)
  clear hb8 hd6
  obtain ⟨p0, hp0⟩ : ∃ a, hi / 281474976710656 = a := ⟨_, rfl⟩
  obtain ⟨p1, hp1⟩ : ∃ a, hi / 4294967296 % 65536 = a := ⟨_, rfl⟩
  obtain ⟨p2, hp2⟩ : ∃ a, hi / 65536 % 65536 = a := ⟨_, rfl⟩
  obtain ⟨p3, hp3⟩ : ∃ a, hi % 65536 = a := ⟨_, rfl⟩
  obtain ⟨p4, hp4⟩ : ∃ a, lo / 281474976710656 = a := ⟨_, rfl⟩
  obtain ⟨p5, hp5⟩ : ∃ a, lo / 4294967296 % 65536 = a := ⟨_, rfl⟩
  obtain ⟨p6, hp6⟩ : ∃ a, lo / 65536 % 65536 = a := ⟨_, rfl⟩
  obtain ⟨p7, hp7⟩ : ∃ a, lo % 65536 = a := ⟨_, rfl⟩
  unfold pcs at HP HIN
  rw [hp0, hp1, hp2, hp3, hp4, hp5, hp6, hp7] at HP HIN ⊢
  clear hp0 hp1 hp2 hp3 hp4 hp5 hp6 hp7
  have HIX := Lib.hid (fun (k : Nat) (hk : k < 8) (W : World) => index8_any W p0 p1 p2 p3 p4 p5 p6 p7 k hk)
  obtain ⟨P, hP⟩ : ∃ P, [p0, p1, p2, p3, p4, p5, p6, p7] = P := ⟨_, rfl⟩
  have hPL : P.length = 8 := by rw [← hP]; rfl
  rw [hP] at HP HIN HIX
  have HPL := Lib.hid hPL
  have HQ8 := Lib.hid hq8
  clear hP hPL hq8
  go_wp2_with fail
  go_loopw [13, 76] (fun sv i wr => ∃ (k : Nat), k ≤ 8 ∧ sv = .string ⟨(joinP (P.take k)).toArray⟩ ∧ i = .int .i64 k ∧ Hid (Below w.heap.size w wr)) (fun _ i _ => 8 - (intOf i).toNat)
  case atStart => exact ⟨0, by omega, rfl, rfl, HQ8.out⟩
  case round =>
    obtain ⟨k, hk, rfl, rfl, hbw⟩ := hrel
    by_cases hk8 : k < 8
    · have hix := HIX.out k hk8
      have hxb := HIN.out.getD k
      obtain ⟨u, hu⟩ := Int.eq_ofNat_of_zero_le hxb.1
      rw [hu] at hix hxb
      have hul : u ≤ 65535 := by omega
      have hlen : (hexD u).length ≤ 4 := hexD_len u (by omega)
      obtain ⟨c, hc⟩ : ∃ c, c + (hexD u).length = 4 := ⟨4 - (hexD u).length, by omega⟩
      have HPD : Hid (padI (u : Int) = List.replicate c 48 ++ hexD u) := by
        show padI (u : Int) = _
        unfold padI hexI
        rw [show ((u : Int)).toNat = u from by omega, show 4 - (hexD u).length = c from by omega]
      have HTK : Hid (P.take (k + 1) = P.take k ++ [(u : Int)]) := by
        have hlt : k < P.length := by rw [HPL.out]; exact hk8
        show P.take (k + 1) = P.take k ++ [(u : Int)]
        rw [List.take_succ_eq_append_getElem hlt, ← hu, List.getD_eq_getElem?_getD, List.getElem?_eq_getElem hlt]
        rfl
      have HSZ : Hid ((ByteArray.mk (hexD u).toArray).size = (hexD u).length) := mk_size _
      have hwr : IntKind.i64.wrap (4 - (((hexD u).length : Nat) : Int)) = (c : Int) := by rw [IntKind.wrap_i64]; omega
      clear hxb hu
      by_cases hk0 : k = 0
      · subst hk0
        rw [show ((0 : Nat) : Int) = 0 from rfl] at hix ⊢
        rw [show (ByteArray.mk (joinP (P.take 0)).toArray) = ByteArray.mk #[] from rfl]
        go_wp2_with fail
        refine (fmtD16_any u (by omega) _ (bruTab_below HT.out hbw.out)).mono ?_
        rintro e x9 ⟨rfl, hb9⟩
        have hq9 : Below w.heap.size w x9 := hbw.out.trans (hb9.mono hbw.out.size)
        obtain ⟨D, hD⟩ : ∃ D, hexD u = D := ⟨_, rfl⟩
        rw [hD] at HSZ hwr HPD hc hlen ⊢
        have hsz := HSZ.out
        have hcat := pad_cat0 c D
        clear hb9 hD
        go_wp2_with fail
        refine (Tryd.strings_Repeat _ c _ (by omega) (by show 1 * c ≤ _; omega)).mono ?_
        rw [show Lib.repeatL (ByteArray.mk #[48]).data.toList c = List.replicate c 48 from rep48 c]
        rintro e x10 ⟨rfl, hb10⟩
        have hq10 : Below w.heap.size w x10 := hq9.trans (hb10.mono hq9.size)
        clear hb10 hq9
        go_wp2
        go_roundw
        case rel =>
          refine ⟨1, by omega, ?_, rfl, hq10⟩
          rw [HTK.out, show P.take 0 = [] from rfl, List.nil_append, show joinP [(u : Int)] = padI u from by simp [joinP, Lib.join], HPD.out]
        case measure => simp [intOf]
      · have hd0 : decide ((0 : Int) < (k : Int)) = true := decide_eq_true (by omega)
        obtain ⟨J, hJ⟩ : ∃ J, joinP (P.take k) = J := ⟨_, rfl⟩
        have HJ : Hid (joinP (P.take (k + 1)) = J ++ [58] ++ (List.replicate c 48 ++ hexD u)) := by
          show _ = _
          rw [HTK.out, joinP_snoc, if_neg (fun e => by
            have := congrArg List.length e
            rw [List.length_take, HPL.out] at this
            simp at this
            omega), hJ, HPD.out]
        have hJl : J.length ≤ 40 := by
          have := joinP_len (P.take k) (fun y hy => HIN.out y (List.mem_of_mem_take hy))
          rw [hJ, List.length_take, HPL.out] at this
          omega
        rw [hJ]
        clear hJ
        go_wp2_with fail
        refine (fmtD16_any u (by omega) _ (bruTab_below HT.out hbw.out)).mono ?_
        rintro e x9 ⟨rfl, hb9⟩
        have hq9 : Below w.heap.size w x9 := hbw.out.trans (hb9.mono hbw.out.size)
        obtain ⟨D, hD⟩ : ∃ D, hexD u = D := ⟨_, rfl⟩
        rw [hD] at HSZ hwr HPD hc hlen HJ ⊢
        have hsz := HSZ.out
        have hcat := pad_cat1 J c D
        clear hb9 hD
        go_wp2_with fail
        refine (Tryd.strings_Repeat _ c _ (by omega) (by show 1 * c ≤ _; omega)).mono ?_
        rw [show Lib.repeatL (ByteArray.mk #[48]).data.toList c = List.replicate c 48 from rep48 c]
        rintro e x10 ⟨rfl, hb10⟩
        have hq10 : Below w.heap.size w x10 := hq9.trans (hb10.mono hq9.size)
        clear hb10 hq9
        go_wp2
        go_roundw
        case rel => exact ⟨k + 1, by omega, by rw [HJ.out]; simp, by go_num, hq10⟩
        case measure => simp [intOf]; omega
    · obtain rfl : k = 8 := by omega
      rw [show P.take 8 = P from List.take_of_length_le (by rw [HPL.out]; exact Nat.le_refl _), show ((8 : Nat) : Int) = 8 from rfl]
      have HJL : Hid ((joinP P).length ≤ 1073741824) := by
        have := joinP_len P HIN.out
        rw [HPL.out] at this
        show (joinP P).length ≤ 1073741824
        omega
      obtain ⟨J, hJ⟩ : ∃ J, joinP P = J := ⟨_, rfl⟩
      rw [hJ] at HP HJL ⊢
      clear hJ
      go_wp2_with fail
      refine (parse6_any _ _ (by rw [mk_size]; exact HJL.out) (maxVar_below HX.out hbw.out)).mono ?_
      rw [mk_list, HP.out]
      rintro e x9 ⟨rfl, hb9⟩
      have hq9 : Below w.heap.size w x9 := hbw.out.trans (hb9.mono hbw.out.size)
      clear hb9
      go_wp2
      go_ret
      exact ⟨by first | rfl | simp, hq9.alloc hq9.size _⟩

set_option maxRecDepth 100000 in
set_option maxHeartbeats 4000000 in
theorem sixSame_none (s : ByteArray) (hi lo h l h2 l2 : Int) (w : World) (hlen : s.size ≤ 200) (i0 : 0 ≤ hi) (i1 : hi ≤ 18446744073709551615) (j0 : 0 ≤ lo) (j1 : lo ≤ 18446744073709551615)
    (hz : sixZ s.data.toList = ((h, l), false)) (hz2 : sixZ (Lib.toUpperD s.data.toList) = ((h2, l2), false))
    (hbru : BruTab w) (hmax : MaxVar w) (hcase : Lib.CaseVar 0 Lib.caseA w) (hutf : Lib.Utf8Tabs 3 4 w) :
    Calls Tryd.prog 6 #[.string s, .int .u64 hi, .int .u64 lo] w fun e w' => e = .returned (.bool true) ∧ Below w.heap.size w w' := by
  have HX := Lib.hid hmax
  have HT := Lib.hid hbru
  have HC := Lib.hid hcase
  have HU := Lib.hid hutf
  have HZ := Lib.hid hz
  have HZ2 := Lib.hid hz2
  have HB : Hid ((0 ≤ h ∧ h ≤ 18446744073709551615) ∧ (0 ≤ l ∧ l ≤ 18446744073709551615)) := by
    have h4 := hi4_bounds (sixL_in s.data.toList)
    have l4 := lo4_bounds (sixL_in s.data.toList)
    have e := hz
    unfold sixZ at e
    simp only [Prod.mk.injEq] at e
    rw [e.1.1] at h4
    rw [e.1.2] at l4
    exact ⟨h4, l4⟩
  have HL : Hid ((Lib.toUpperD s.data.toList).length ≤ 1073741824) := by
    have := upper_len s.data.toList
    have e : s.data.toList.length = s.size := by simp
    show (Lib.toUpperD s.data.toList).length ≤ 1073741824
    omega
  have HP := Lib.hid (six_pad i0 i1 j0 j1)
  have HIN := Lib.hid (pcs_in i0 i1 j0 j1)
  clear hbru hmax hcase hutf hz hz2
  have hd : decide ((200 : Int) < (s.size : Int)) = false := decide_eq_false (by omega)
  go_enter Tryd.func6, Tryd.ntmps6
  go_wp2_with fail
  refine (awake05_any _ HT.out HX.out).mono ?_
  rintro e x1 ⟨rfl, hb1⟩
  go_wp2_with fail
  refine (parse6_any s _ (by omega) (maxVar_below HX.out hb1)).mono ?_
  rw [HZ.out]
  rintro e x2 ⟨rfl, hb2⟩
  have hc2 : Below w.heap.size w x2 := hb1.trans (hb2.mono hb1.size)
  have hd2 : Below w.heap.size w (x2.alloc (.cells #[.int .u64 h, .int .u64 l] 25)) := hc2.alloc hc2.size _
  have hr2 : (x2.alloc (.cells #[.int .u64 h, .int .u64 l] 25)).heap[x2.heap.size]? = some (.cells #[.int .u64 h, .int .u64 l] 25 (0, 0)) := heap_alloc_new x2 _
  have hl2 : x2.heap.size < (x2.alloc (.cells #[.int .u64 h, .int .u64 l] 25)).heap.size := by simp
  clear hb1 hb2 hc2
  go_wp2_with fail
  refine (Tryd.strings_ToUpper_any s _ (by omega) (Lib.CaseVar_below HC.out hd2) (utf8Tabs_below HU.out hd2)).mono ?_
  rintro e x3 ⟨rfl, hb3⟩
  have hc3 : Below w.heap.size w x3 := hd2.trans (hb3.mono hd2.size)
  have hr3 : x3.heap[x2.heap.size]? = some (.cells #[.int .u64 h, .int .u64 l] 25 (0, 0)) := (hb3.block _ hl2).trans hr2
  have hl3 : x2.heap.size < x3.heap.size := Nat.lt_of_lt_of_le hl2 hb3.size
  clear hb3 hd2 hr2 hl2
  go_wp2_with fail
  refine (parse6_any _ _ (by rw [mk_size]; exact HL.out) (maxVar_below HX.out hc3)).mono ?_
  rw [mk_list, HZ2.out]
  rintro e x4 ⟨rfl, hb4⟩
  have hc4 : Below w.heap.size w x4 := hc3.trans (hb4.mono hc3.size)
  have hr4 : x4.heap[x2.heap.size]? = some (.cells #[.int .u64 h, .int .u64 l] 25 (0, 0)) := (hb4.block _ hl3).trans hr3
  have hl4 : x2.heap.size < x4.heap.size := Nat.lt_of_lt_of_le hl3 hb4.size
  clear hb4 hc3 hr3 hl3
  generalize x2.heap.size = B2 at *
  have hd4 : Below w.heap.size w (x4.alloc (.cells #[.int .u64 h2, .int .u64 l2] 25)) := hc4.alloc hc4.size _
  have hr5 : (x4.alloc (.cells #[.int .u64 h2, .int .u64 l2] 25)).heap[B2]? = some (.cells #[.int .u64 h, .int .u64 l] 25 (0, 0)) := (Below.heap_alloc _ _ _ hl4).trans hr4
  have hs5 : (x4.alloc (.cells #[.int .u64 h2, .int .u64 l2] 25)).heap[x4.heap.size]? = some (.cells #[.int .u64 h2, .int .u64 l2] 25 (0, 0)) := heap_alloc_new x4 _
  have hl5 : x4.heap.size < (x4.alloc (.cells #[.int .u64 h2, .int .u64 l2] 25)).heap.size := by simp
  have hm5 : B2 < (x4.alloc (.cells #[.int .u64 h2, .int .u64 l2] 25)).heap.size := by simp; omega
  have k0 : (x4.alloc (.cells #[.int .u64 h2, .int .u64 l2] 25)).cell? ⟨B2, 0, none⟩ = some (.int .u64 h) := by simp [World.cell?, hr5]
  have k1 : (x4.alloc (.cells #[.int .u64 h2, .int .u64 l2] 25)).cell? ⟨B2, 1, none⟩ = some (.int .u64 l) := by simp [World.cell?, hr5]
  clear hc4 hr4
  go_wp2_with fail
  refine (text6_any h l _ HB.out.1.1 HB.out.1.2 HB.out.2.1 HB.out.2.2 (bruTab_below HT.out hd4)).mono ?_
  rintro e x5 ⟨rfl, hb5⟩
  have hc5 : Below w.heap.size w x5 := hd4.trans (hb5.mono hd4.size)
  have hr6 := (hb5.block _ hm5).trans hr5
  have hs6 := (hb5.block _ hl5).trans hs5
  have hm6 : B2 < x5.heap.size := Nat.lt_of_lt_of_le hm5 hb5.size
  have hl6 : x4.heap.size < x5.heap.size := Nat.lt_of_lt_of_le hl5 hb5.size
  clear hb5 hd4 hr5 hs5 hl5 hm5 k0 k1 hl4
  generalize x4.heap.size = B4 at *
  go_wp2_with fail
  refine (parse6_any _ _ (by rw [mk_size]; exact Nat.le_trans (text6_len HB.out.1.1 HB.out.1.2 HB.out.2.1 HB.out.2.2) (by decide)) (maxVar_below HX.out hc5)).mono ?_
  rw [mk_list, six_text HB.out.1.1 HB.out.1.2 HB.out.2.1 HB.out.2.2]
  rintro e x6 ⟨rfl, hb6⟩
  have hc6 : Below w.heap.size w x6 := hc5.trans (hb6.mono hc5.size)
  have hr7 := (hb6.block _ hm6).trans hr6
  have hs7 := (hb6.block _ hl6).trans hs6
  have hm7 : B2 < x6.heap.size := Nat.lt_of_lt_of_le hm6 hb6.size
  have hl7 : B4 < x6.heap.size := Nat.lt_of_lt_of_le hl6 hb6.size
  clear hb6 hc5 hr6 hs6 hm6 hl6
  have hd6 : Below w.heap.size w (x6.alloc (.cells #[.int .u64 h, .int .u64 l] 25)) := hc6.alloc hc6.size _
  have hr8 : (x6.alloc (.cells #[.int .u64 h, .int .u64 l] 25)).heap[B2]? = some (.cells #[.int .u64 h, .int .u64 l] 25 (0, 0)) := (Below.heap_alloc _ _ _ hm7).trans hr7
  have hs8 : (x6.alloc (.cells #[.int .u64 h, .int .u64 l] 25)).heap[B4]? = some (.cells #[.int .u64 h2, .int .u64 l2] 25 (0, 0)) := (Below.heap_alloc _ _ _ hl7).trans hs7
  have k0 : (x6.alloc (.cells #[.int .u64 h, .int .u64 l] 25)).cell? ⟨B2, 0, none⟩ = some (.int .u64 h) := by simp [World.cell?, hr8]
  have k1 : (x6.alloc (.cells #[.int .u64 h, .int .u64 l] 25)).cell? ⟨B2, 1, none⟩ = some (.int .u64 l) := by simp [World.cell?, hr8]
  have k2 : (x6.alloc (.cells #[.int .u64 h, .int .u64 l] 25)).cell? ⟨B4, 0, none⟩ = some (.int .u64 h2) := by simp [World.cell?, hs8]
  have k3 : (x6.alloc (.cells #[.int .u64 h, .int .u64 l] 25)).cell? ⟨B4, 1, none⟩ = some (.int .u64 l2) := by simp [World.cell?, hs8]
  have hs9 : (x6.alloc (.cells #[.int .u64 h, .int .u64 l] 25)).heap[x6.heap.size]? = some (.cells #[.int .u64 h, .int .u64 l] 25 (0, 0)) := heap_alloc_new x6 _
  have k4 : (x6.alloc (.cells #[.int .u64 h, .int .u64 l] 25)).cell? ⟨x6.heap.size, 0, none⟩ = some (.int .u64 h) := (cell_of_row _ _ 0 _ _ _ hs9).trans rfl
  have k5 : (x6.alloc (.cells #[.int .u64 h, .int .u64 l] 25)).cell? ⟨x6.heap.size, 1, none⟩ = some (.int .u64 l) := (cell_of_row _ _ 1 _ _ _ hs9).trans rfl
  clear hs9 hc6 hr7 hs7 hm7 hl7 hr8 hs8
  go_wp2_with fail
  refine (pieces6_any hi lo _ i0 i1 j0 j1).mono ?_
  rintro e x8 ⟨rfl, hb8⟩
  have hq8 : Below w.heap.size w x8 := hd6.trans (hb8.mono hd6.size)
  clear hb8 hd6
  obtain ⟨p0, hp0⟩ : ∃ a, hi / 281474976710656 = a := ⟨_, rfl⟩
  obtain ⟨p1, hp1⟩ : ∃ a, hi / 4294967296 % 65536 = a := ⟨_, rfl⟩
  obtain ⟨p2, hp2⟩ : ∃ a, hi / 65536 % 65536 = a := ⟨_, rfl⟩
  obtain ⟨p3, hp3⟩ : ∃ a, hi % 65536 = a := ⟨_, rfl⟩
  obtain ⟨p4, hp4⟩ : ∃ a, lo / 281474976710656 = a := ⟨_, rfl⟩
  obtain ⟨p5, hp5⟩ : ∃ a, lo / 4294967296 % 65536 = a := ⟨_, rfl⟩
  obtain ⟨p6, hp6⟩ : ∃ a, lo / 65536 % 65536 = a := ⟨_, rfl⟩
  obtain ⟨p7, hp7⟩ : ∃ a, lo % 65536 = a := ⟨_, rfl⟩
  unfold pcs at HP HIN
  rw [hp0, hp1, hp2, hp3, hp4, hp5, hp6, hp7] at HP HIN ⊢
  clear hp0 hp1 hp2 hp3 hp4 hp5 hp6 hp7
  have HIX := Lib.hid (fun (k : Nat) (hk : k < 8) (W : World) => index8_any W p0 p1 p2 p3 p4 p5 p6 p7 k hk)
  obtain ⟨P, hP⟩ : ∃ P, [p0, p1, p2, p3, p4, p5, p6, p7] = P := ⟨_, rfl⟩
  have hPL : P.length = 8 := by rw [← hP]; rfl
  rw [hP] at HP HIN HIX
  have HPL := Lib.hid hPL
  have HQ8 := Lib.hid hq8
  clear hP hPL hq8
  go_wp2_with fail
  go_loopw [13, 76] (fun sv i wr => ∃ (k : Nat), k ≤ 8 ∧ sv = .string ⟨(joinP (P.take k)).toArray⟩ ∧ i = .int .i64 k ∧ Hid (Below w.heap.size w wr)) (fun _ i _ => 8 - (intOf i).toNat)
  case atStart => exact ⟨0, by omega, rfl, rfl, HQ8.out⟩
  case round =>
    obtain ⟨k, hk, rfl, rfl, hbw⟩ := hrel
    by_cases hk8 : k < 8
    · have hix := HIX.out k hk8
      have hxb := HIN.out.getD k
      obtain ⟨u, hu⟩ := Int.eq_ofNat_of_zero_le hxb.1
      rw [hu] at hix hxb
      have hul : u ≤ 65535 := by omega
      have hlen : (hexD u).length ≤ 4 := hexD_len u (by omega)
      obtain ⟨c, hc⟩ : ∃ c, c + (hexD u).length = 4 := ⟨4 - (hexD u).length, by omega⟩
      have HPD : Hid (padI (u : Int) = List.replicate c 48 ++ hexD u) := by
        show padI (u : Int) = _
        unfold padI hexI
        rw [show ((u : Int)).toNat = u from by omega, show 4 - (hexD u).length = c from by omega]
      have HTK : Hid (P.take (k + 1) = P.take k ++ [(u : Int)]) := by
        have hlt : k < P.length := by rw [HPL.out]; exact hk8
        show P.take (k + 1) = P.take k ++ [(u : Int)]
        rw [List.take_succ_eq_append_getElem hlt, ← hu, List.getD_eq_getElem?_getD, List.getElem?_eq_getElem hlt]
        rfl
      have HSZ : Hid ((ByteArray.mk (hexD u).toArray).size = (hexD u).length) := mk_size _
      have hwr : IntKind.i64.wrap (4 - (((hexD u).length : Nat) : Int)) = (c : Int) := by rw [IntKind.wrap_i64]; omega
      clear hxb hu
      by_cases hk0 : k = 0
      · subst hk0
        rw [show ((0 : Nat) : Int) = 0 from rfl] at hix ⊢
        rw [show (ByteArray.mk (joinP (P.take 0)).toArray) = ByteArray.mk #[] from rfl]
        go_wp2_with fail
        refine (fmtD16_any u (by omega) _ (bruTab_below HT.out hbw.out)).mono ?_
        rintro e x9 ⟨rfl, hb9⟩
        have hq9 : Below w.heap.size w x9 := hbw.out.trans (hb9.mono hbw.out.size)
        obtain ⟨D, hD⟩ : ∃ D, hexD u = D := ⟨_, rfl⟩
        rw [hD] at HSZ hwr HPD hc hlen ⊢
        have hsz := HSZ.out
        have hcat := pad_cat0 c D
        clear hb9 hD
        go_wp2_with fail
        refine (Tryd.strings_Repeat _ c _ (by omega) (by show 1 * c ≤ _; omega)).mono ?_
        rw [show Lib.repeatL (ByteArray.mk #[48]).data.toList c = List.replicate c 48 from rep48 c]
        rintro e x10 ⟨rfl, hb10⟩
        have hq10 : Below w.heap.size w x10 := hq9.trans (hb10.mono hq9.size)
        clear hb10 hq9
        go_wp2
        go_roundw
        case rel =>
          refine ⟨1, by omega, ?_, rfl, hq10⟩
          rw [HTK.out, show P.take 0 = [] from rfl, List.nil_append, show joinP [(u : Int)] = padI u from by simp [joinP, Lib.join], HPD.out]
        case measure => simp [intOf]
      · have hd0 : decide ((0 : Int) < (k : Int)) = true := decide_eq_true (by omega)
        obtain ⟨J, hJ⟩ : ∃ J, joinP (P.take k) = J := ⟨_, rfl⟩
        have HJ : Hid (joinP (P.take (k + 1)) = J ++ [58] ++ (List.replicate c 48 ++ hexD u)) := by
          show _ = _
          rw [HTK.out, joinP_snoc, if_neg (fun e => by
            have := congrArg List.length e
            rw [List.length_take, HPL.out] at this
            simp at this
            omega), hJ, HPD.out]
        have hJl : J.length ≤ 40 := by
          have := joinP_len (P.take k) (fun y hy => HIN.out y (List.mem_of_mem_take hy))
          rw [hJ, List.length_take, HPL.out] at this
          omega
        rw [hJ]
        clear hJ
        go_wp2_with fail
        refine (fmtD16_any u (by omega) _ (bruTab_below HT.out hbw.out)).mono ?_
        rintro e x9 ⟨rfl, hb9⟩
        have hq9 : Below w.heap.size w x9 := hbw.out.trans (hb9.mono hbw.out.size)
        obtain ⟨D, hD⟩ : ∃ D, hexD u = D := ⟨_, rfl⟩
        rw [hD] at HSZ hwr HPD hc hlen HJ ⊢
        have hsz := HSZ.out
        have hcat := pad_cat1 J c D
        clear hb9 hD
        go_wp2_with fail
        refine (Tryd.strings_Repeat _ c _ (by omega) (by show 1 * c ≤ _; omega)).mono ?_
        rw [show Lib.repeatL (ByteArray.mk #[48]).data.toList c = List.replicate c 48 from rep48 c]
        rintro e x10 ⟨rfl, hb10⟩
        have hq10 : Below w.heap.size w x10 := hq9.trans (hb10.mono hq9.size)
        clear hb10 hq9
        go_wp2
        go_roundw
        case rel => exact ⟨k + 1, by omega, by rw [HJ.out]; simp, by go_num, hq10⟩
        case measure => simp [intOf]; omega
    · obtain rfl : k = 8 := by omega
      rw [show P.take 8 = P from List.take_of_length_le (by rw [HPL.out]; exact Nat.le_refl _), show ((8 : Nat) : Int) = 8 from rfl]
      have HJL : Hid ((joinP P).length ≤ 1073741824) := by
        have := joinP_len P HIN.out
        rw [HPL.out] at this
        show (joinP P).length ≤ 1073741824
        omega
      obtain ⟨J, hJ⟩ : ∃ J, joinP P = J := ⟨_, rfl⟩
      rw [hJ] at HP HJL ⊢
      clear hJ
      go_wp2_with fail
      refine (parse6_any _ _ (by rw [mk_size]; exact HJL.out) (maxVar_below HX.out hbw.out)).mono ?_
      rw [mk_list, HP.out]
      rintro e x9 ⟨rfl, hb9⟩
      have hq9 : Below w.heap.size w x9 := hbw.out.trans (hb9.mono hbw.out.size)
      clear hb9
      go_wp2
      go_ret
      exact ⟨by first | rfl | simp, hq9.alloc hq9.size _⟩

set_option maxRecDepth 100000 in
set_option maxHeartbeats 4000000 in
theorem sixSame_cap (s : ByteArray) (hi lo h l h2 l2 : Int) (w : World) (hlen : s.size ≤ 200) (i0 : 0 ≤ hi) (i1 : hi ≤ 18446744073709551615) (j0 : 0 ≤ lo) (j1 : lo ≤ 18446744073709551615)
    (hz : sixZ s.data.toList = ((h, l), false)) (hz2 : sixZ (Lib.toUpperD s.data.toList) = ((h2, l2), true)) (hcon : 0 ≤ Lib.idxFunc (fun x => decide (126 < x)) true s)
    (hbru : BruTab w) (hmax : MaxVar w) (hcase : Lib.CaseVar 0 Lib.caseA w) (hutf : Lib.Utf8Tabs 3 4 w) :
    Calls Tryd.prog 6 #[.string s, .int .u64 hi, .int .u64 lo] w fun e w' => e = .returned (.bool true) ∧ Below w.heap.size w w' := by
  have HX := Lib.hid hmax
  have HT := Lib.hid hbru
  have HC := Lib.hid hcase
  have HU := Lib.hid hutf
  have HZ := Lib.hid hz
  have HZ2 := Lib.hid hz2
  have HB : Hid ((0 ≤ h ∧ h ≤ 18446744073709551615) ∧ (0 ≤ l ∧ l ≤ 18446744073709551615)) := by
    have h4 := hi4_bounds (sixL_in s.data.toList)
    have l4 := lo4_bounds (sixL_in s.data.toList)
    have e := hz
    unfold sixZ at e
    simp only [Prod.mk.injEq] at e
    rw [e.1.1] at h4
    rw [e.1.2] at l4
    exact ⟨h4, l4⟩
  have HL : Hid ((Lib.toUpperD s.data.toList).length ≤ 1073741824) := by
    have := upper_len s.data.toList
    have e : s.data.toList.length = s.size := by simp
    show (Lib.toUpperD s.data.toList).length ≤ 1073741824
    omega
  have HP := Lib.hid (six_pad i0 i1 j0 j1)
  have HIN := Lib.hid (pcs_in i0 i1 j0 j1)
  clear hbru hmax hcase hutf hz hz2
  have hd : decide ((200 : Int) < (s.size : Int)) = false := decide_eq_false (by omega)
  go_enter Tryd.func6, Tryd.ntmps6
  go_wp2_with fail
  refine (awake05_any _ HT.out HX.out).mono ?_
  rintro e x1 ⟨rfl, hb1⟩
  go_wp2_with fail
  refine (parse6_any s _ (by omega) (maxVar_below HX.out hb1)).mono ?_
  rw [HZ.out]
  rintro e x2 ⟨rfl, hb2⟩
  have hc2 : Below w.heap.size w x2 := hb1.trans (hb2.mono hb1.size)
  have hd2 : Below w.heap.size w (x2.alloc (.cells #[.int .u64 h, .int .u64 l] 25)) := hc2.alloc hc2.size _
  have hr2 : (x2.alloc (.cells #[.int .u64 h, .int .u64 l] 25)).heap[x2.heap.size]? = some (.cells #[.int .u64 h, .int .u64 l] 25 (0, 0)) := heap_alloc_new x2 _
  have hl2 : x2.heap.size < (x2.alloc (.cells #[.int .u64 h, .int .u64 l] 25)).heap.size := by simp
  clear hb1 hb2 hc2
  go_wp2_with fail
  refine (Tryd.strings_ToUpper_any s _ (by omega) (Lib.CaseVar_below HC.out hd2) (utf8Tabs_below HU.out hd2)).mono ?_
  rintro e x3 ⟨rfl, hb3⟩
  have hc3 : Below w.heap.size w x3 := hd2.trans (hb3.mono hd2.size)
  have hr3 : x3.heap[x2.heap.size]? = some (.cells #[.int .u64 h, .int .u64 l] 25 (0, 0)) := (hb3.block _ hl2).trans hr2
  have hl3 : x2.heap.size < x3.heap.size := Nat.lt_of_lt_of_le hl2 hb3.size
  clear hb3 hd2 hr2 hl2
  go_wp2_with fail
  refine (parse6_any _ _ (by rw [mk_size]; exact HL.out) (maxVar_below HX.out hc3)).mono ?_
  rw [mk_list, HZ2.out]
  rintro e x4 ⟨rfl, hb4⟩
  have hc4 : Below w.heap.size w x4 := hc3.trans (hb4.mono hc3.size)
  have hr4 : x4.heap[x2.heap.size]? = some (.cells #[.int .u64 h, .int .u64 l] 25 (0, 0)) := (hb4.block _ hl3).trans hr3
  have hl4 : x2.heap.size < x4.heap.size := Nat.lt_of_lt_of_le hl3 hb4.size
  clear hb4 hc3 hr3 hl3
  generalize x2.heap.size = B2 at *
  have hd4 : Below w.heap.size w (x4.alloc (.cells #[.int .u64 h2, .int .u64 l2] 25)) := hc4.alloc hc4.size _
  have hr5 : (x4.alloc (.cells #[.int .u64 h2, .int .u64 l2] 25)).heap[B2]? = some (.cells #[.int .u64 h, .int .u64 l] 25 (0, 0)) := (Below.heap_alloc _ _ _ hl4).trans hr4
  have hs5 : (x4.alloc (.cells #[.int .u64 h2, .int .u64 l2] 25)).heap[x4.heap.size]? = some (.cells #[.int .u64 h2, .int .u64 l2] 25 (0, 0)) := heap_alloc_new x4 _
  have hl5 : x4.heap.size < (x4.alloc (.cells #[.int .u64 h2, .int .u64 l2] 25)).heap.size := by simp
  have hm5 : B2 < (x4.alloc (.cells #[.int .u64 h2, .int .u64 l2] 25)).heap.size := by simp; omega
  have k0 : (x4.alloc (.cells #[.int .u64 h2, .int .u64 l2] 25)).cell? ⟨B2, 0, none⟩ = some (.int .u64 h) := by simp [World.cell?, hr5]
  have k1 : (x4.alloc (.cells #[.int .u64 h2, .int .u64 l2] 25)).cell? ⟨B2, 1, none⟩ = some (.int .u64 l) := by simp [World.cell?, hr5]
  clear hc4 hr4
  go_wp2_with fail
  refine (text6_any h l _ HB.out.1.1 HB.out.1.2 HB.out.2.1 HB.out.2.2 (bruTab_below HT.out hd4)).mono ?_
  rintro e x5 ⟨rfl, hb5⟩
  have hc5 : Below w.heap.size w x5 := hd4.trans (hb5.mono hd4.size)
  have hr6 := (hb5.block _ hm5).trans hr5
  have hs6 := (hb5.block _ hl5).trans hs5
  have hm6 : B2 < x5.heap.size := Nat.lt_of_lt_of_le hm5 hb5.size
  have hl6 : x4.heap.size < x5.heap.size := Nat.lt_of_lt_of_le hl5 hb5.size
  clear hb5 hd4 hr5 hs5 hl5 hm5 k0 k1 hl4
  generalize x4.heap.size = B4 at *
  go_wp2_with fail
  refine (parse6_any _ _ (by rw [mk_size]; exact Nat.le_trans (text6_len HB.out.1.1 HB.out.1.2 HB.out.2.1 HB.out.2.2) (by decide)) (maxVar_below HX.out hc5)).mono ?_
  rw [mk_list, six_text HB.out.1.1 HB.out.1.2 HB.out.2.1 HB.out.2.2]
  rintro e x6 ⟨rfl, hb6⟩
  have hc6 : Below w.heap.size w x6 := hc5.trans (hb6.mono hc5.size)
  have hr7 := (hb6.block _ hm6).trans hr6
  have hs7 := (hb6.block _ hl6).trans hs6
  have hm7 : B2 < x6.heap.size := Nat.lt_of_lt_of_le hm6 hb6.size
  have hl7 : B4 < x6.heap.size := Nat.lt_of_lt_of_le hl6 hb6.size
  clear hb6 hc5 hr6 hs6 hm6 hl6
  have hd6 : Below w.heap.size w (x6.alloc (.cells #[.int .u64 h, .int .u64 l] 25)) := hc6.alloc hc6.size _
  have hr8 : (x6.alloc (.cells #[.int .u64 h, .int .u64 l] 25)).heap[B2]? = some (.cells #[.int .u64 h, .int .u64 l] 25 (0, 0)) := (Below.heap_alloc _ _ _ hm7).trans hr7
  have hs8 : (x6.alloc (.cells #[.int .u64 h, .int .u64 l] 25)).heap[B4]? = some (.cells #[.int .u64 h2, .int .u64 l2] 25 (0, 0)) := (Below.heap_alloc _ _ _ hl7).trans hs7
  have k0 : (x6.alloc (.cells #[.int .u64 h, .int .u64 l] 25)).cell? ⟨B2, 0, none⟩ = some (.int .u64 h) := by simp [World.cell?, hr8]
  have k1 : (x6.alloc (.cells #[.int .u64 h, .int .u64 l] 25)).cell? ⟨B2, 1, none⟩ = some (.int .u64 l) := by simp [World.cell?, hr8]
  have k2 : (x6.alloc (.cells #[.int .u64 h, .int .u64 l] 25)).cell? ⟨B4, 0, none⟩ = some (.int .u64 h2) := by simp [World.cell?, hs8]
  have k3 : (x6.alloc (.cells #[.int .u64 h, .int .u64 l] 25)).cell? ⟨B4, 1, none⟩ = some (.int .u64 l2) := by simp [World.cell?, hs8]
  have hs9 : (x6.alloc (.cells #[.int .u64 h, .int .u64 l] 25)).heap[x6.heap.size]? = some (.cells #[.int .u64 h, .int .u64 l] 25 (0, 0)) := heap_alloc_new x6 _
  have k4 : (x6.alloc (.cells #[.int .u64 h, .int .u64 l] 25)).cell? ⟨x6.heap.size, 0, none⟩ = some (.int .u64 h) := (cell_of_row _ _ 0 _ _ _ hs9).trans rfl
  have k5 : (x6.alloc (.cells #[.int .u64 h, .int .u64 l] 25)).cell? ⟨x6.heap.size, 1, none⟩ = some (.int .u64 l) := (cell_of_row _ _ 1 _ _ _ hs9).trans rfl
  clear hs9 hc6 hr7 hs7 hm7 hl7 hr8 hs8
  go_wp2_with fail
  refine (Tryd.strings_ContainsFunc_grows 22 #[] enters22 (fun x => decide (126 < x)) s _ (above_pays _)).mono ?_
  rw [decide_eq_true hcon]
  rintro e x7 ⟨rfl, hb7⟩
  have hd7 : Below w.heap.size w x7 := hd6.trans (hb7.mono hd6.size)
  clear hb7 hd6 k0 k1 k2 k3 k4 k5
  go_wp2_with fail
  refine (pieces6_any hi lo _ i0 i1 j0 j1).mono ?_
  rintro e x8 ⟨rfl, hb8⟩
  have hq8 : Below w.heap.size w x8 := hd7.trans (hb8.mono hd7.size)
  clear hb8 hd7
  obtain ⟨p0, hp0⟩ : ∃ a, hi / 281474976710656 = a := ⟨_, rfl⟩
  obtain ⟨p1, hp1⟩ : ∃ a, hi / 4294967296 % 65536 = a := ⟨_, rfl⟩
  obtain ⟨p2, hp2⟩ : ∃ a, hi / 65536 % 65536 = a := ⟨_, rfl⟩
  obtain ⟨p3, hp3⟩ : ∃ a, hi % 65536 = a := ⟨_, rfl⟩
  obtain ⟨p4, hp4⟩ : ∃ a, lo / 281474976710656 = a := ⟨_, rfl⟩
  obtain ⟨p5, hp5⟩ : ∃ a, lo / 4294967296 % 65536 = a := ⟨_, rfl⟩
  obtain ⟨p6, hp6⟩ : ∃ a, lo / 65536 % 65536 = a := ⟨_, rfl⟩
  obtain ⟨p7, hp7⟩ : ∃ a, lo % 65536 = a := ⟨_, rfl⟩
  unfold pcs at HP HIN
  rw [hp0, hp1, hp2, hp3, hp4, hp5, hp6, hp7] at HP HIN ⊢
  clear hp0 hp1 hp2 hp3 hp4 hp5 hp6 hp7
  have HIX := Lib.hid (fun (k : Nat) (hk : k < 8) (W : World) => index8_any W p0 p1 p2 p3 p4 p5 p6 p7 k hk)
  obtain ⟨P, hP⟩ : ∃ P, [p0, p1, p2, p3, p4, p5, p6, p7] = P := ⟨_, rfl⟩
  have hPL : P.length = 8 := by rw [← hP]; rfl
  rw [hP] at HP HIN HIX
  have HPL := Lib.hid hPL
  have HQ8 := Lib.hid hq8
  clear hP hPL hq8
  go_wp2_with fail
  go_loopw [13, 76] (fun sv i wr => ∃ (k : Nat), k ≤ 8 ∧ sv = .string ⟨(joinP (P.take k)).toArray⟩ ∧ i = .int .i64 k ∧ Hid (Below w.heap.size w wr)) (fun _ i _ => 8 - (intOf i).toNat)
  case atStart => exact ⟨0, by omega, rfl, rfl, HQ8.out⟩
  case round =>
    obtain ⟨k, hk, rfl, rfl, hbw⟩ := hrel
    by_cases hk8 : k < 8
    · have hix := HIX.out k hk8
      have hxb := HIN.out.getD k
      obtain ⟨u, hu⟩ := Int.eq_ofNat_of_zero_le hxb.1
      rw [hu] at hix hxb
      have hul : u ≤ 65535 := by omega
      have hlen : (hexD u).length ≤ 4 := hexD_len u (by omega)
      obtain ⟨c, hc⟩ : ∃ c, c + (hexD u).length = 4 := ⟨4 - (hexD u).length, by omega⟩
      have HPD : Hid (padI (u : Int) = List.replicate c 48 ++ hexD u) := by
        show padI (u : Int) = _
        unfold padI hexI
        rw [show ((u : Int)).toNat = u from by omega, show 4 - (hexD u).length = c from by omega]
      have HTK : Hid (P.take (k + 1) = P.take k ++ [(u : Int)]) := by
        have hlt : k < P.length := by rw [HPL.out]; exact hk8
        show P.take (k + 1) = P.take k ++ [(u : Int)]
        rw [List.take_succ_eq_append_getElem hlt, ← hu, List.getD_eq_getElem?_getD, List.getElem?_eq_getElem hlt]
        rfl
      have HSZ : Hid ((ByteArray.mk (hexD u).toArray).size = (hexD u).length) := mk_size _
      have hwr : IntKind.i64.wrap (4 - (((hexD u).length : Nat) : Int)) = (c : Int) := by rw [IntKind.wrap_i64]; omega
      clear hxb hu
      by_cases hk0 : k = 0
      · subst hk0
        rw [show ((0 : Nat) : Int) = 0 from rfl] at hix ⊢
        rw [show (ByteArray.mk (joinP (P.take 0)).toArray) = ByteArray.mk #[] from rfl]
        go_wp2_with fail
        refine (fmtD16_any u (by omega) _ (bruTab_below HT.out hbw.out)).mono ?_
        rintro e x9 ⟨rfl, hb9⟩
        have hq9 : Below w.heap.size w x9 := hbw.out.trans (hb9.mono hbw.out.size)
        obtain ⟨D, hD⟩ : ∃ D, hexD u = D := ⟨_, rfl⟩
        rw [hD] at HSZ hwr HPD hc hlen ⊢
        have hsz := HSZ.out
        have hcat := pad_cat0 c D
        clear hb9 hD
        go_wp2_with fail
        refine (Tryd.strings_Repeat _ c _ (by omega) (by show 1 * c ≤ _; omega)).mono ?_
        rw [show Lib.repeatL (ByteArray.mk #[48]).data.toList c = List.replicate c 48 from rep48 c]
        rintro e x10 ⟨rfl, hb10⟩
        have hq10 : Below w.heap.size w x10 := hq9.trans (hb10.mono hq9.size)
        clear hb10 hq9
        go_wp2
        go_roundw
        case rel =>
          refine ⟨1, by omega, ?_, rfl, hq10⟩
          rw [HTK.out, show P.take 0 = [] from rfl, List.nil_append, show joinP [(u : Int)] = padI u from by simp [joinP, Lib.join], HPD.out]
        case measure => simp [intOf]
      · have hd0 : decide ((0 : Int) < (k : Int)) = true := decide_eq_true (by omega)
        obtain ⟨J, hJ⟩ : ∃ J, joinP (P.take k) = J := ⟨_, rfl⟩
        have HJ : Hid (joinP (P.take (k + 1)) = J ++ [58] ++ (List.replicate c 48 ++ hexD u)) := by
          show _ = _
          rw [HTK.out, joinP_snoc, if_neg (fun e => by
            have := congrArg List.length e
            rw [List.length_take, HPL.out] at this
            simp at this
            omega), hJ, HPD.out]
        have hJl : J.length ≤ 40 := by
          have := joinP_len (P.take k) (fun y hy => HIN.out y (List.mem_of_mem_take hy))
          rw [hJ, List.length_take, HPL.out] at this
          omega
        rw [hJ]
        clear hJ
        go_wp2_with fail
        refine (fmtD16_any u (by omega) _ (bruTab_below HT.out hbw.out)).mono ?_
        rintro e x9 ⟨rfl, hb9⟩
        have hq9 : Below w.heap.size w x9 := hbw.out.trans (hb9.mono hbw.out.size)
        obtain ⟨D, hD⟩ : ∃ D, hexD u = D := ⟨_, rfl⟩
        rw [hD] at HSZ hwr HPD hc hlen HJ ⊢
        have hsz := HSZ.out
        have hcat := pad_cat1 J c D
        clear hb9 hD
        go_wp2_with fail
        refine (Tryd.strings_Repeat _ c _ (by omega) (by show 1 * c ≤ _; omega)).mono ?_
        rw [show Lib.repeatL (ByteArray.mk #[48]).data.toList c = List.replicate c 48 from rep48 c]
        rintro e x10 ⟨rfl, hb10⟩
        have hq10 : Below w.heap.size w x10 := hq9.trans (hb10.mono hq9.size)
        clear hb10 hq9
        go_wp2
        go_roundw
        case rel => exact ⟨k + 1, by omega, by rw [HJ.out]; simp, by go_num, hq10⟩
        case measure => simp [intOf]; omega
    · obtain rfl : k = 8 := by omega
      rw [show P.take 8 = P from List.take_of_length_le (by rw [HPL.out]; exact Nat.le_refl _), show ((8 : Nat) : Int) = 8 from rfl]
      have HJL : Hid ((joinP P).length ≤ 1073741824) := by
        have := joinP_len P HIN.out
        rw [HPL.out] at this
        show (joinP P).length ≤ 1073741824
        omega
      obtain ⟨J, hJ⟩ : ∃ J, joinP P = J := ⟨_, rfl⟩
      rw [hJ] at HP HJL ⊢
      clear hJ
      go_wp2_with fail
      refine (parse6_any _ _ (by rw [mk_size]; exact HJL.out) (maxVar_below HX.out hbw.out)).mono ?_
      rw [mk_list, HP.out]
      rintro e x9 ⟨rfl, hb9⟩
      have hq9 : Below w.heap.size w x9 := hbw.out.trans (hb9.mono hbw.out.size)
      clear hb9
      go_wp2
      go_ret
      exact ⟨by first | rfl | simp, hq9.alloc hq9.size _⟩

set_option maxRecDepth 100000 in
set_option maxHeartbeats 1000000 in
theorem sixSame_long (s : ByteArray) (hi lo : Int) (w : World) (hlen : 200 < s.size) (hbru : BruTab w) (hmax : MaxVar w) :
    Calls Tryd.prog 6 #[.string s, .int .u64 hi, .int .u64 lo] w fun e w' => e = .returned (.bool true) ∧ Below w.heap.size w w' := by
  have hd : decide ((200 : Int) < (s.size : Int)) = true := decide_eq_true (by omega)
  have HX := Lib.hid hmax
  have HT := Lib.hid hbru
  clear hbru hmax
  go_enter Tryd.func6, Tryd.ntmps6
  go_wp2_with fail
  refine (awake05_any _ HT.out HX.out).mono ?_
  rintro e x1 ⟨rfl, hb1⟩
  go_wp2
  go_ret
  exact ⟨rfl, hb1⟩

theorem low_ascii {l : List UInt8} (h : Low l) : ∀ b ∈ l, b.toNat < 128 := fun b hb => Nat.lt_trans (h b hb) (by decide)
theorem up_low {l : List UInt8} (h : Low l) : sixZ (Lib.toUpperD l) = sixZ l := by
  rw [Lib.toUpperD_ascii l (low_ascii h)]
  exact up_six l
theorem sixSame_walk (a0 : ByteArray) (a1 : Int) (a2 : Int) (_w0 : a0.size ≤ maxLen) (w1 : (Lit.int .u64 a1).wf = true) (w2 : (Lit.int .u64 a2).wf = true) (w : World) (hbru : BruTab w) (hmax : MaxVar w)
    (hcase : Lib.CaseVar 0 Lib.caseA w) (hutf : Lib.Utf8Tabs 3 4 w) :
    Calls Tryd.prog 6 #[.string a0, .int .u64 a1, .int .u64 a2] w fun e w' => e = .returned (.bool true) ∧ Below w.heap.size w w' := by
  by_cases hlen : 200 < a0.size
  · exact sixSame_long a0 a1 a2 w hlen hbru hmax
  · have hlen2 : a0.size ≤ 200 := by omega
    obtain ⟨⟨⟨h, l⟩, b⟩, hz⟩ : ∃ x, sixZ a0.data.toList = x := ⟨_, rfl⟩
    obtain ⟨⟨⟨h2, l2⟩, b2⟩, hz2⟩ : ∃ x, sixZ (Lib.toUpperD a0.data.toList) = x := ⟨_, rfl⟩
    cases b with
    | true =>
      have hlow : Low a0.data.toList := six_low _ (by rw [hz])
      rw [up_low hlow, hz] at hz2
      cases hz2
      exact sixSame_yes a0 a1 a2 h l w hlen2 (bounds_u64 w1).1 (bounds_u64 w1).2 (bounds_u64 w2).1 (bounds_u64 w2).2 hz (by rw [up_low hlow, hz]) hbru hmax hcase hutf
    | false =>
      cases b2 with
      | false => exact sixSame_none a0 a1 a2 h l h2 l2 w hlen2 (bounds_u64 w1).1 (bounds_u64 w1).2 (bounds_u64 w2).1 (bounds_u64 w2).2 hz hz2 hbru hmax hcase hutf
      | true =>
        have hn : ¬ Low a0.data.toList := fun hlow => by
          rw [up_low hlow, hz] at hz2
          cases hz2
        exact sixSame_cap a0 a1 a2 h l h2 l2 w hlen2 (bounds_u64 w1).1 (bounds_u64 w1).2 (bounds_u64 w2).1 (bounds_u64 w2).2 hz hz2 (idx_low a0 hn) hbru hmax hcase hutf
end Go.Proofs.YtgmfgcpfpopboaaDoor
