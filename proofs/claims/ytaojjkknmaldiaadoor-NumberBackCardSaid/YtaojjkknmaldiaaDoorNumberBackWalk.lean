/-
  The law NumberBack: its Go text returns true at every number, where the library's two tables read as they are laid; nothing that lay in memory before is changed.
-/
import Derived.Test.YtaojjkknmaldiaaDoorFmtC
import Derived.Test.YtaojjkknmaldiaaDoorNumH
namespace Go.Proofs.YtaojjkknmaldiaaDoor
open Go.RowKit


set_option maxRecDepth 100000 in
set_option maxHeartbeats 8000000 in
theorem numberBack_small (u : Nat) (hu : u < 18446744073709551616) (w : World) (hpow : PowTab w) (hbru : BruTab w) :
    Calls Tryd.prog 3 #[.int .u64 u, .bool false] w fun e w' => e = .returned (.bool true) ∧ Below w.heap.size w w' := by
  have HP0 := Lib.hid hpow
  have HR0 := Lib.hid hbru
  obtain ⟨hn, hnn⟩ := isNum_dec u hu
  obtain ⟨D, hD⟩ : ∃ D, Lib.decDigits u = D := ⟨_, rfl⟩
  rw [hD] at hn hnn
  have hDl := hn.len
  have HN := Lib.hid hn
  have HNN := Lib.hid hnn
  have HD := Lib.hid hD
  obtain ⟨W, hW⟩ : ∃ W, capZ (u : Int) = W := ⟨_, rfl⟩
  have hmin : min (u : Int) 1099511627776 = W := by rw [← hW]; unfold capZ; split <;> omega
  have HW := Lib.hid hW
  clear hpow hbru hn hnn hD hW
  by_cases hq : (u : Int) ≤ 4611686018427387904
  · go_enter Tryd.func3, Tryd.ntmps3
    go_wp2_with fail
    refine (awake03_any _).mono ?_
    rintro e x1 ⟨rfl, hb1⟩
    have hc1 : Below w.heap.size w x1 := hb1
    have HP1 := Lib.hid (powTab_below HP0.out hb1)
    have HR1 := Lib.hid (bruTab_below HR0.out hb1)
    clear hb1
    go_wp2_with fail
    refine (fmt16_any u hu _ HR1.out).mono ?_
    rintro e x2 ⟨H, rfl, hH, hb2⟩
    have hc2 : Below w.heap.size w x2 := hc1.trans (hb2.mono hc1.size)
    have HP2 := Lib.hid (powTab_below HP1.out hb2)
    have HR2 := Lib.hid (bruTab_below HR1.out hb2)
    have HH := Lib.hid hH
    have hHl := hH.len
    clear hb2 hc1 hH
    go_wp2_with fail
    refine (fmt10_any u hu _ HP2.out).mono ?_
    rw [HD.out]
    rintro e x3 ⟨rfl, hb3⟩
    have hc3 : Below w.heap.size w x3 := hc2.trans (hb3.mono hc2.size)
    have HP3 := Lib.hid (powTab_below HP2.out hb3)
    have HR3 := Lib.hid (bruTab_below HR2.out hb3)
    clear hb3 hc2
    go_wp2_with fail
    refine (parse_any _ _ (by rw [size_mk]; omega)).mono ?_
    rw [mk_list, parse_dec HN.out HNN.out, HW.out]
    rintro e x4 ⟨rfl, hb4⟩
    have hc4 : Below w.heap.size w x4 := hc3.trans (hb4.mono hc3.size)
    have HP4 := Lib.hid (powTab_below HP3.out hb4)
    have HR4 := Lib.hid (bruTab_below HR3.out hb4)
    clear hb4 hc3
    go_wp2_with fail
    refine (fmt8_any u hu _ HR4.out).mono ?_
    rintro e x5 ⟨O, rfl, hO, hb5⟩
    have hc5 : Below w.heap.size w x5 := hc4.trans (hb5.mono hc4.size)
    have HP5 := Lib.hid (powTab_below HP4.out hb5)
    have HR5 := Lib.hid (bruTab_below HR4.out hb5)
    have HO := Lib.hid hO
    have hOl := hO.len
    clear hb5 hc4 hO
    go_wp2_with fail
    refine (parse_any _ _ (by rw [app_size, size_mk O]; show 1 + _ ≤ _; omega)).mono ?_
    rw [app_list, mk_list O, show (ByteArray.mk #[48]).data.toList ++ O = 48 :: O from rfl, parse_oct HO.out, HW.out]
    rintro e x6 ⟨rfl, hb6⟩
    have hc6 : Below w.heap.size w x6 := hc5.trans (hb6.mono hc5.size)
    have HP6 := Lib.hid (powTab_below HP5.out hb6)
    have HR6 := Lib.hid (bruTab_below HR5.out hb6)
    clear hb6 hc5
    go_wp2_with fail
    refine (parse_any _ _ (by rw [app_size, size_mk H]; show 2 + _ ≤ _; omega)).mono ?_
    rw [app_list, mk_list H, show (ByteArray.mk #[48, 120]).data.toList ++ H = 48 :: 120 :: H from rfl, parse_hex HH.out 120 (by decide), HW.out]
    rintro e x7 ⟨rfl, hb7⟩
    have hc7 : Below w.heap.size w x7 := hc6.trans (hb7.mono hc6.size)
    have HP7 := Lib.hid (powTab_below HP6.out hb7)
    have HR7 := Lib.hid (bruTab_below HR6.out hb7)
    clear hb7 hc6
    go_wp2_with fail
    refine (fmt10_any u hu _ HP7.out).mono ?_
    rw [HD.out]
    rintro e x8 ⟨rfl, hb8⟩
    have hc8 : Below w.heap.size w x8 := hc7.trans (hb8.mono hc7.size)
    have HP8 := Lib.hid (powTab_below HP7.out hb8)
    have HR8 := Lib.hid (bruTab_below HR7.out hb8)
    clear hb8 hc7
    go_wp2_with fail
    refine (decimal_any _ _ _ (by rw [size_mk]; omega) (by decide) (by decide)).mono ?_
    rw [mk_list, dec_dec HN.out HNN.out, if_pos hq]
    rintro e x9 ⟨rfl, hb9⟩
    have hc9 : Below w.heap.size w x9 := hc8.trans (hb9.mono hc8.size)
    have HP9 := Lib.hid (powTab_below HP8.out hb9)
    have HR9 := Lib.hid (bruTab_below HR8.out hb9)
    clear hb9 hc8
    go_wp2_with fail
    refine (fmt10_any u hu _ HP9.out).mono ?_
    rw [HD.out]
    rintro e x10 ⟨rfl, hb10⟩
    have hc10 : Below w.heap.size w x10 := hc9.trans (hb10.mono hc9.size)
    have HP10 := Lib.hid (powTab_below HP9.out hb10)
    have HR10 := Lib.hid (bruTab_below HR9.out hb10)
    clear hb10 hc9
    go_wp2_with fail
    refine (decimal_any _ _ _ (by rw [app_size, size_mk D]; show 1 + _ ≤ _; omega) (by decide) (by decide)).mono ?_
    rw [app_list, mk_list D, show (ByteArray.mk #[48]).data.toList ++ D = 48 :: D from rfl, dec_nought HN.out]
    rintro e x11 ⟨rfl, hb11⟩
    have hc11 : Below w.heap.size w x11 := hc10.trans (hb11.mono hc10.size)
    have HP11 := Lib.hid (powTab_below HP10.out hb11)
    have HR11 := Lib.hid (bruTab_below HR10.out hb11)
    clear hb11 hc10
    go_wp2_with fail
    refine (ends_any _ _ (by rw [app_size, app_size, app_size, size_mk H]; show 2 + 2 + _ + 1 ≤ _; omega)).mono ?_
    rw [app_list, app_list, app_list, mk_list H, show (ByteArray.mk #[97, 46]).data.toList ++ (ByteArray.mk #[48, 120]).data.toList ++ H ++ (ByteArray.mk #[46]).data.toList = [97] ++ [46] ++ (48 :: 120 :: H) ++ [46] from rfl, ends_hex HH.out 120 (by decide) [97]]
    rintro e x12 ⟨rfl, hb12⟩
    have hc12 : Below w.heap.size w x12 := hc11.trans (hb12.mono hc11.size)
    have HP12 := Lib.hid (powTab_below HP11.out hb12)
    have HR12 := Lib.hid (bruTab_below HR11.out hb12)
    clear hb12 hc11
    go_wp2_with fail
    refine (fmt10_any u hu _ HP12.out).mono ?_
    rw [HD.out]
    rintro e x13 ⟨rfl, hb13⟩
    have hc13 : Below w.heap.size w x13 := hc12.trans (hb13.mono hc12.size)
    have HP13 := Lib.hid (powTab_below HP12.out hb13)
    have HR13 := Lib.hid (bruTab_below HR12.out hb13)
    clear hb13 hc12
    go_wp2_with fail
    refine (ends_any _ _ (by rw [size_mk]; omega)).mono ?_
    rw [mk_list, ends_dec HN.out]
    rintro e x14 ⟨rfl, hb14⟩
    have hc14 : Below w.heap.size w x14 := hc13.trans (hb14.mono hc13.size)
    have HP14 := Lib.hid (powTab_below HP13.out hb14)
    have HR14 := Lib.hid (bruTab_below HR13.out hb14)
    clear hb14 hc13
    go_wp2
    go_ret
    exact ⟨by first | rfl | exact ret_bool (by simp), hc14⟩
  · go_enter Tryd.func3, Tryd.ntmps3
    go_wp2_with fail
    refine (awake03_any _).mono ?_
    rintro e x1 ⟨rfl, hb1⟩
    have hc1 : Below w.heap.size w x1 := hb1
    have HP1 := Lib.hid (powTab_below HP0.out hb1)
    have HR1 := Lib.hid (bruTab_below HR0.out hb1)
    clear hb1
    go_wp2_with fail
    refine (fmt16_any u hu _ HR1.out).mono ?_
    rintro e x2 ⟨H, rfl, hH, hb2⟩
    have hc2 : Below w.heap.size w x2 := hc1.trans (hb2.mono hc1.size)
    have HP2 := Lib.hid (powTab_below HP1.out hb2)
    have HR2 := Lib.hid (bruTab_below HR1.out hb2)
    have HH := Lib.hid hH
    have hHl := hH.len
    clear hb2 hc1 hH
    go_wp2_with fail
    refine (fmt10_any u hu _ HP2.out).mono ?_
    rw [HD.out]
    rintro e x3 ⟨rfl, hb3⟩
    have hc3 : Below w.heap.size w x3 := hc2.trans (hb3.mono hc2.size)
    have HP3 := Lib.hid (powTab_below HP2.out hb3)
    have HR3 := Lib.hid (bruTab_below HR2.out hb3)
    clear hb3 hc2
    go_wp2_with fail
    refine (parse_any _ _ (by rw [size_mk]; omega)).mono ?_
    rw [mk_list, parse_dec HN.out HNN.out, HW.out]
    rintro e x4 ⟨rfl, hb4⟩
    have hc4 : Below w.heap.size w x4 := hc3.trans (hb4.mono hc3.size)
    have HP4 := Lib.hid (powTab_below HP3.out hb4)
    have HR4 := Lib.hid (bruTab_below HR3.out hb4)
    clear hb4 hc3
    go_wp2_with fail
    refine (fmt8_any u hu _ HR4.out).mono ?_
    rintro e x5 ⟨O, rfl, hO, hb5⟩
    have hc5 : Below w.heap.size w x5 := hc4.trans (hb5.mono hc4.size)
    have HP5 := Lib.hid (powTab_below HP4.out hb5)
    have HR5 := Lib.hid (bruTab_below HR4.out hb5)
    have HO := Lib.hid hO
    have hOl := hO.len
    clear hb5 hc4 hO
    go_wp2_with fail
    refine (parse_any _ _ (by rw [app_size, size_mk O]; show 1 + _ ≤ _; omega)).mono ?_
    rw [app_list, mk_list O, show (ByteArray.mk #[48]).data.toList ++ O = 48 :: O from rfl, parse_oct HO.out, HW.out]
    rintro e x6 ⟨rfl, hb6⟩
    have hc6 : Below w.heap.size w x6 := hc5.trans (hb6.mono hc5.size)
    have HP6 := Lib.hid (powTab_below HP5.out hb6)
    have HR6 := Lib.hid (bruTab_below HR5.out hb6)
    clear hb6 hc5
    go_wp2_with fail
    refine (parse_any _ _ (by rw [app_size, size_mk H]; show 2 + _ ≤ _; omega)).mono ?_
    rw [app_list, mk_list H, show (ByteArray.mk #[48, 120]).data.toList ++ H = 48 :: 120 :: H from rfl, parse_hex HH.out 120 (by decide), HW.out]
    rintro e x7 ⟨rfl, hb7⟩
    have hc7 : Below w.heap.size w x7 := hc6.trans (hb7.mono hc6.size)
    have HP7 := Lib.hid (powTab_below HP6.out hb7)
    have HR7 := Lib.hid (bruTab_below HR6.out hb7)
    clear hb7 hc6
    go_wp2_with fail
    refine (fmt10_any u hu _ HP7.out).mono ?_
    rw [HD.out]
    rintro e x8 ⟨rfl, hb8⟩
    have hc8 : Below w.heap.size w x8 := hc7.trans (hb8.mono hc7.size)
    have HP8 := Lib.hid (powTab_below HP7.out hb8)
    have HR8 := Lib.hid (bruTab_below HR7.out hb8)
    clear hb8 hc7
    go_wp2_with fail
    refine (decimal_any _ _ _ (by rw [size_mk]; omega) (by decide) (by decide)).mono ?_
    rw [mk_list, dec_dec HN.out HNN.out, if_neg (by omega)]
    rintro e x9 ⟨rfl, hb9⟩
    have hc9 : Below w.heap.size w x9 := hc8.trans (hb9.mono hc8.size)
    have HP9 := Lib.hid (powTab_below HP8.out hb9)
    have HR9 := Lib.hid (bruTab_below HR8.out hb9)
    clear hb9 hc8
    go_wp2_with fail
    refine (fmt10_any u hu _ HP9.out).mono ?_
    rw [HD.out]
    rintro e x10 ⟨rfl, hb10⟩
    have hc10 : Below w.heap.size w x10 := hc9.trans (hb10.mono hc9.size)
    have HP10 := Lib.hid (powTab_below HP9.out hb10)
    have HR10 := Lib.hid (bruTab_below HR9.out hb10)
    clear hb10 hc9
    go_wp2_with fail
    refine (decimal_any _ _ _ (by rw [app_size, size_mk D]; show 1 + _ ≤ _; omega) (by decide) (by decide)).mono ?_
    rw [app_list, mk_list D, show (ByteArray.mk #[48]).data.toList ++ D = 48 :: D from rfl, dec_nought HN.out]
    rintro e x11 ⟨rfl, hb11⟩
    have hc11 : Below w.heap.size w x11 := hc10.trans (hb11.mono hc10.size)
    have HP11 := Lib.hid (powTab_below HP10.out hb11)
    have HR11 := Lib.hid (bruTab_below HR10.out hb11)
    clear hb11 hc10
    go_wp2_with fail
    refine (ends_any _ _ (by rw [app_size, app_size, app_size, size_mk H]; show 2 + 2 + _ + 1 ≤ _; omega)).mono ?_
    rw [app_list, app_list, app_list, mk_list H, show (ByteArray.mk #[97, 46]).data.toList ++ (ByteArray.mk #[48, 120]).data.toList ++ H ++ (ByteArray.mk #[46]).data.toList = [97] ++ [46] ++ (48 :: 120 :: H) ++ [46] from rfl, ends_hex HH.out 120 (by decide) [97]]
    rintro e x12 ⟨rfl, hb12⟩
    have hc12 : Below w.heap.size w x12 := hc11.trans (hb12.mono hc11.size)
    have HP12 := Lib.hid (powTab_below HP11.out hb12)
    have HR12 := Lib.hid (bruTab_below HR11.out hb12)
    clear hb12 hc11
    go_wp2_with fail
    refine (fmt10_any u hu _ HP12.out).mono ?_
    rw [HD.out]
    rintro e x13 ⟨rfl, hb13⟩
    have hc13 : Below w.heap.size w x13 := hc12.trans (hb13.mono hc12.size)
    have HP13 := Lib.hid (powTab_below HP12.out hb13)
    have HR13 := Lib.hid (bruTab_below HR12.out hb13)
    clear hb13 hc12
    go_wp2_with fail
    refine (ends_any _ _ (by rw [size_mk]; omega)).mono ?_
    rw [mk_list, ends_dec HN.out]
    rintro e x14 ⟨rfl, hb14⟩
    have hc14 : Below w.heap.size w x14 := hc13.trans (hb14.mono hc13.size)
    have HP14 := Lib.hid (powTab_below HP13.out hb14)
    have HR14 := Lib.hid (bruTab_below HR13.out hb14)
    clear hb14 hc13
    go_wp2
    go_ret
    exact ⟨ret_bool (by simp; omega), hc14⟩

set_option maxRecDepth 100000 in
set_option maxHeartbeats 8000000 in
theorem numberBack_great (u : Nat) (hu : u < 18446744073709551616) (w : World) (hpow : PowTab w) (hbru : BruTab w) :
    Calls Tryd.prog 3 #[.int .u64 u, .bool true] w fun e w' => e = .returned (.bool true) ∧ Below w.heap.size w w' := by
  have HP0 := Lib.hid hpow
  have HR0 := Lib.hid hbru
  obtain ⟨hn, hnn⟩ := isNum_dec u hu
  obtain ⟨D, hD⟩ : ∃ D, Lib.decDigits u = D := ⟨_, rfl⟩
  rw [hD] at hn hnn
  have hDl := hn.len
  have HN := Lib.hid hn
  have HNN := Lib.hid hnn
  have HD := Lib.hid hD
  obtain ⟨W, hW⟩ : ∃ W, capZ (u : Int) = W := ⟨_, rfl⟩
  have hmin : min (u : Int) 1099511627776 = W := by rw [← hW]; unfold capZ; split <;> omega
  have HW := Lib.hid hW
  clear hpow hbru hn hnn hD hW
  by_cases hq : (u : Int) ≤ 4611686018427387904
  · go_enter Tryd.func3, Tryd.ntmps3
    go_wp2_with fail
    refine (awake03_any _).mono ?_
    rintro e x1 ⟨rfl, hb1⟩
    have hc1 : Below w.heap.size w x1 := hb1
    have HP1 := Lib.hid (powTab_below HP0.out hb1)
    have HR1 := Lib.hid (bruTab_below HR0.out hb1)
    clear hb1
    go_wp2_with fail
    refine (fmt16_any u hu _ HR1.out).mono ?_
    rintro e x2 ⟨H, rfl, hH, hb2⟩
    have hc2 : Below w.heap.size w x2 := hc1.trans (hb2.mono hc1.size)
    have HP2 := Lib.hid (powTab_below HP1.out hb2)
    have HR2 := Lib.hid (bruTab_below HR1.out hb2)
    have HH := Lib.hid hH
    have hHl := hH.len
    clear hb2 hc1 hH
    go_wp2_with fail
    refine (fmt10_any u hu _ HP2.out).mono ?_
    rw [HD.out]
    rintro e x3 ⟨rfl, hb3⟩
    have hc3 : Below w.heap.size w x3 := hc2.trans (hb3.mono hc2.size)
    have HP3 := Lib.hid (powTab_below HP2.out hb3)
    have HR3 := Lib.hid (bruTab_below HR2.out hb3)
    clear hb3 hc2
    go_wp2_with fail
    refine (parse_any _ _ (by rw [size_mk]; omega)).mono ?_
    rw [mk_list, parse_dec HN.out HNN.out, HW.out]
    rintro e x4 ⟨rfl, hb4⟩
    have hc4 : Below w.heap.size w x4 := hc3.trans (hb4.mono hc3.size)
    have HP4 := Lib.hid (powTab_below HP3.out hb4)
    have HR4 := Lib.hid (bruTab_below HR3.out hb4)
    clear hb4 hc3
    go_wp2_with fail
    refine (fmt8_any u hu _ HR4.out).mono ?_
    rintro e x5 ⟨O, rfl, hO, hb5⟩
    have hc5 : Below w.heap.size w x5 := hc4.trans (hb5.mono hc4.size)
    have HP5 := Lib.hid (powTab_below HP4.out hb5)
    have HR5 := Lib.hid (bruTab_below HR4.out hb5)
    have HO := Lib.hid hO
    have hOl := hO.len
    clear hb5 hc4 hO
    go_wp2_with fail
    refine (parse_any _ _ (by rw [app_size, size_mk O]; show 1 + _ ≤ _; omega)).mono ?_
    rw [app_list, mk_list O, show (ByteArray.mk #[48]).data.toList ++ O = 48 :: O from rfl, parse_oct HO.out, HW.out]
    rintro e x6 ⟨rfl, hb6⟩
    have hc6 : Below w.heap.size w x6 := hc5.trans (hb6.mono hc5.size)
    have HP6 := Lib.hid (powTab_below HP5.out hb6)
    have HR6 := Lib.hid (bruTab_below HR5.out hb6)
    clear hb6 hc5
    go_wp2_with fail
    refine (parse_any _ _ (by rw [app_size, size_mk H]; show 2 + _ ≤ _; omega)).mono ?_
    rw [app_list, mk_list H, show (ByteArray.mk #[48, 88]).data.toList ++ H = 48 :: 88 :: H from rfl, parse_hex HH.out 88 (by decide), HW.out]
    rintro e x7 ⟨rfl, hb7⟩
    have hc7 : Below w.heap.size w x7 := hc6.trans (hb7.mono hc6.size)
    have HP7 := Lib.hid (powTab_below HP6.out hb7)
    have HR7 := Lib.hid (bruTab_below HR6.out hb7)
    clear hb7 hc6
    go_wp2_with fail
    refine (fmt10_any u hu _ HP7.out).mono ?_
    rw [HD.out]
    rintro e x8 ⟨rfl, hb8⟩
    have hc8 : Below w.heap.size w x8 := hc7.trans (hb8.mono hc7.size)
    have HP8 := Lib.hid (powTab_below HP7.out hb8)
    have HR8 := Lib.hid (bruTab_below HR7.out hb8)
    clear hb8 hc7
    go_wp2_with fail
    refine (decimal_any _ _ _ (by rw [size_mk]; omega) (by decide) (by decide)).mono ?_
    rw [mk_list, dec_dec HN.out HNN.out, if_pos hq]
    rintro e x9 ⟨rfl, hb9⟩
    have hc9 : Below w.heap.size w x9 := hc8.trans (hb9.mono hc8.size)
    have HP9 := Lib.hid (powTab_below HP8.out hb9)
    have HR9 := Lib.hid (bruTab_below HR8.out hb9)
    clear hb9 hc8
    go_wp2_with fail
    refine (fmt10_any u hu _ HP9.out).mono ?_
    rw [HD.out]
    rintro e x10 ⟨rfl, hb10⟩
    have hc10 : Below w.heap.size w x10 := hc9.trans (hb10.mono hc9.size)
    have HP10 := Lib.hid (powTab_below HP9.out hb10)
    have HR10 := Lib.hid (bruTab_below HR9.out hb10)
    clear hb10 hc9
    go_wp2_with fail
    refine (decimal_any _ _ _ (by rw [app_size, size_mk D]; show 1 + _ ≤ _; omega) (by decide) (by decide)).mono ?_
    rw [app_list, mk_list D, show (ByteArray.mk #[48]).data.toList ++ D = 48 :: D from rfl, dec_nought HN.out]
    rintro e x11 ⟨rfl, hb11⟩
    have hc11 : Below w.heap.size w x11 := hc10.trans (hb11.mono hc10.size)
    have HP11 := Lib.hid (powTab_below HP10.out hb11)
    have HR11 := Lib.hid (bruTab_below HR10.out hb11)
    clear hb11 hc10
    go_wp2_with fail
    refine (ends_any _ _ (by rw [app_size, app_size, app_size, size_mk H]; show 2 + 2 + _ + 1 ≤ _; omega)).mono ?_
    rw [app_list, app_list, app_list, mk_list H, show (ByteArray.mk #[97, 46]).data.toList ++ (ByteArray.mk #[48, 88]).data.toList ++ H ++ (ByteArray.mk #[46]).data.toList = [97] ++ [46] ++ (48 :: 88 :: H) ++ [46] from rfl, ends_hex HH.out 88 (by decide) [97]]
    rintro e x12 ⟨rfl, hb12⟩
    have hc12 : Below w.heap.size w x12 := hc11.trans (hb12.mono hc11.size)
    have HP12 := Lib.hid (powTab_below HP11.out hb12)
    have HR12 := Lib.hid (bruTab_below HR11.out hb12)
    clear hb12 hc11
    go_wp2_with fail
    refine (fmt10_any u hu _ HP12.out).mono ?_
    rw [HD.out]
    rintro e x13 ⟨rfl, hb13⟩
    have hc13 : Below w.heap.size w x13 := hc12.trans (hb13.mono hc12.size)
    have HP13 := Lib.hid (powTab_below HP12.out hb13)
    have HR13 := Lib.hid (bruTab_below HR12.out hb13)
    clear hb13 hc12
    go_wp2_with fail
    refine (ends_any _ _ (by rw [size_mk]; omega)).mono ?_
    rw [mk_list, ends_dec HN.out]
    rintro e x14 ⟨rfl, hb14⟩
    have hc14 : Below w.heap.size w x14 := hc13.trans (hb14.mono hc13.size)
    have HP14 := Lib.hid (powTab_below HP13.out hb14)
    have HR14 := Lib.hid (bruTab_below HR13.out hb14)
    clear hb14 hc13
    go_wp2
    go_ret
    exact ⟨by first | rfl | exact ret_bool (by simp), hc14⟩
  · go_enter Tryd.func3, Tryd.ntmps3
    go_wp2_with fail
    refine (awake03_any _).mono ?_
    rintro e x1 ⟨rfl, hb1⟩
    have hc1 : Below w.heap.size w x1 := hb1
    have HP1 := Lib.hid (powTab_below HP0.out hb1)
    have HR1 := Lib.hid (bruTab_below HR0.out hb1)
    clear hb1
    go_wp2_with fail
    refine (fmt16_any u hu _ HR1.out).mono ?_
    rintro e x2 ⟨H, rfl, hH, hb2⟩
    have hc2 : Below w.heap.size w x2 := hc1.trans (hb2.mono hc1.size)
    have HP2 := Lib.hid (powTab_below HP1.out hb2)
    have HR2 := Lib.hid (bruTab_below HR1.out hb2)
    have HH := Lib.hid hH
    have hHl := hH.len
    clear hb2 hc1 hH
    go_wp2_with fail
    refine (fmt10_any u hu _ HP2.out).mono ?_
    rw [HD.out]
    rintro e x3 ⟨rfl, hb3⟩
    have hc3 : Below w.heap.size w x3 := hc2.trans (hb3.mono hc2.size)
    have HP3 := Lib.hid (powTab_below HP2.out hb3)
    have HR3 := Lib.hid (bruTab_below HR2.out hb3)
    clear hb3 hc2
    go_wp2_with fail
    refine (parse_any _ _ (by rw [size_mk]; omega)).mono ?_
    rw [mk_list, parse_dec HN.out HNN.out, HW.out]
    rintro e x4 ⟨rfl, hb4⟩
    have hc4 : Below w.heap.size w x4 := hc3.trans (hb4.mono hc3.size)
    have HP4 := Lib.hid (powTab_below HP3.out hb4)
    have HR4 := Lib.hid (bruTab_below HR3.out hb4)
    clear hb4 hc3
    go_wp2_with fail
    refine (fmt8_any u hu _ HR4.out).mono ?_
    rintro e x5 ⟨O, rfl, hO, hb5⟩
    have hc5 : Below w.heap.size w x5 := hc4.trans (hb5.mono hc4.size)
    have HP5 := Lib.hid (powTab_below HP4.out hb5)
    have HR5 := Lib.hid (bruTab_below HR4.out hb5)
    have HO := Lib.hid hO
    have hOl := hO.len
    clear hb5 hc4 hO
    go_wp2_with fail
    refine (parse_any _ _ (by rw [app_size, size_mk O]; show 1 + _ ≤ _; omega)).mono ?_
    rw [app_list, mk_list O, show (ByteArray.mk #[48]).data.toList ++ O = 48 :: O from rfl, parse_oct HO.out, HW.out]
    rintro e x6 ⟨rfl, hb6⟩
    have hc6 : Below w.heap.size w x6 := hc5.trans (hb6.mono hc5.size)
    have HP6 := Lib.hid (powTab_below HP5.out hb6)
    have HR6 := Lib.hid (bruTab_below HR5.out hb6)
    clear hb6 hc5
    go_wp2_with fail
    refine (parse_any _ _ (by rw [app_size, size_mk H]; show 2 + _ ≤ _; omega)).mono ?_
    rw [app_list, mk_list H, show (ByteArray.mk #[48, 88]).data.toList ++ H = 48 :: 88 :: H from rfl, parse_hex HH.out 88 (by decide), HW.out]
    rintro e x7 ⟨rfl, hb7⟩
    have hc7 : Below w.heap.size w x7 := hc6.trans (hb7.mono hc6.size)
    have HP7 := Lib.hid (powTab_below HP6.out hb7)
    have HR7 := Lib.hid (bruTab_below HR6.out hb7)
    clear hb7 hc6
    go_wp2_with fail
    refine (fmt10_any u hu _ HP7.out).mono ?_
    rw [HD.out]
    rintro e x8 ⟨rfl, hb8⟩
    have hc8 : Below w.heap.size w x8 := hc7.trans (hb8.mono hc7.size)
    have HP8 := Lib.hid (powTab_below HP7.out hb8)
    have HR8 := Lib.hid (bruTab_below HR7.out hb8)
    clear hb8 hc7
    go_wp2_with fail
    refine (decimal_any _ _ _ (by rw [size_mk]; omega) (by decide) (by decide)).mono ?_
    rw [mk_list, dec_dec HN.out HNN.out, if_neg (by omega)]
    rintro e x9 ⟨rfl, hb9⟩
    have hc9 : Below w.heap.size w x9 := hc8.trans (hb9.mono hc8.size)
    have HP9 := Lib.hid (powTab_below HP8.out hb9)
    have HR9 := Lib.hid (bruTab_below HR8.out hb9)
    clear hb9 hc8
    go_wp2_with fail
    refine (fmt10_any u hu _ HP9.out).mono ?_
    rw [HD.out]
    rintro e x10 ⟨rfl, hb10⟩
    have hc10 : Below w.heap.size w x10 := hc9.trans (hb10.mono hc9.size)
    have HP10 := Lib.hid (powTab_below HP9.out hb10)
    have HR10 := Lib.hid (bruTab_below HR9.out hb10)
    clear hb10 hc9
    go_wp2_with fail
    refine (decimal_any _ _ _ (by rw [app_size, size_mk D]; show 1 + _ ≤ _; omega) (by decide) (by decide)).mono ?_
    rw [app_list, mk_list D, show (ByteArray.mk #[48]).data.toList ++ D = 48 :: D from rfl, dec_nought HN.out]
    rintro e x11 ⟨rfl, hb11⟩
    have hc11 : Below w.heap.size w x11 := hc10.trans (hb11.mono hc10.size)
    have HP11 := Lib.hid (powTab_below HP10.out hb11)
    have HR11 := Lib.hid (bruTab_below HR10.out hb11)
    clear hb11 hc10
    go_wp2_with fail
    refine (ends_any _ _ (by rw [app_size, app_size, app_size, size_mk H]; show 2 + 2 + _ + 1 ≤ _; omega)).mono ?_
    rw [app_list, app_list, app_list, mk_list H, show (ByteArray.mk #[97, 46]).data.toList ++ (ByteArray.mk #[48, 88]).data.toList ++ H ++ (ByteArray.mk #[46]).data.toList = [97] ++ [46] ++ (48 :: 88 :: H) ++ [46] from rfl, ends_hex HH.out 88 (by decide) [97]]
    rintro e x12 ⟨rfl, hb12⟩
    have hc12 : Below w.heap.size w x12 := hc11.trans (hb12.mono hc11.size)
    have HP12 := Lib.hid (powTab_below HP11.out hb12)
    have HR12 := Lib.hid (bruTab_below HR11.out hb12)
    clear hb12 hc11
    go_wp2_with fail
    refine (fmt10_any u hu _ HP12.out).mono ?_
    rw [HD.out]
    rintro e x13 ⟨rfl, hb13⟩
    have hc13 : Below w.heap.size w x13 := hc12.trans (hb13.mono hc12.size)
    have HP13 := Lib.hid (powTab_below HP12.out hb13)
    have HR13 := Lib.hid (bruTab_below HR12.out hb13)
    clear hb13 hc12
    go_wp2_with fail
    refine (ends_any _ _ (by rw [size_mk]; omega)).mono ?_
    rw [mk_list, ends_dec HN.out]
    rintro e x14 ⟨rfl, hb14⟩
    have hc14 : Below w.heap.size w x14 := hc13.trans (hb14.mono hc13.size)
    have HP14 := Lib.hid (powTab_below HP13.out hb14)
    have HR14 := Lib.hid (bruTab_below HR13.out hb14)
    clear hb14 hc13
    go_wp2
    go_ret
    exact ⟨ret_bool (by simp; omega), hc14⟩

theorem numberBack_walk (a0 : Int) (a1 : Bool) (w0 : (Lit.int .u64 a0).wf = true) (w : World) (hpow : PowTab w) (hbru : BruTab w) :
    Calls Tryd.prog 3 #[.int .u64 a0, .bool a1] w fun e w' => e = .returned (.bool true) ∧ Below w.heap.size w w' := by
  obtain ⟨h0, h1⟩ := bounds_u64 w0
  obtain ⟨u, rfl⟩ : ∃ u : Nat, a0 = u := ⟨a0.toNat, by omega⟩
  cases a1 with
  | false => exact numberBack_small u (by omega) w hpow hbru
  | true => exact numberBack_great u (by omega) w hpow hbru
end Go.Proofs.YtaojjkknmaldiaaDoor
