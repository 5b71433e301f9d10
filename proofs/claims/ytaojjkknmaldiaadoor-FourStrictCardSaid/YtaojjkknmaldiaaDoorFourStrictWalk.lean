/-
  The law FourStrict: its Go text returns true at every text, where the library's table of powers of ten reads as it is laid; nothing that lay in memory before is changed.
-/
import Derived.Test.YtaojjkknmaldiaaDoorFourK
import Derived.Test.YtaojjkknmaldiaaDoorFourL
import Derived.Test.YtaojjkknmaldiaaDoorFourH
namespace Go.Proofs.YtaojjkknmaldiaaDoor
open Go.RowKit


set_option maxRecDepth 100000 in
set_option maxHeartbeats 4000000 in
theorem fourStrict_in (x : Int) (w : World) (h0 : 0 ≤ x) (h1 : x ≤ 4294967295) (htab : PowTab w) :
    Calls Tryd.prog 6 #[.string ⟨(txtZ x).toArray⟩] w fun e w' => e = .returned (.bool true) ∧ Below w.heap.size w w' := by
  have HT := Lib.hid htab
  clear htab
  have hlen := txtZ_len x
  go_enter Tryd.func6, Tryd.ntmps6
  go_wp2_with fail
  refine (awake04_any _).mono ?_
  rintro e x1 ⟨rfl, hb1⟩
  have HT1 := Lib.hid (powTab_below HT.out hb1)
  go_wp2_with fail
  refine (strict_any _ _ (by rw [size_mk]; omega)).mono ?_
  rw [mk_list, strict_txtZ x h0 h1]
  rintro e x2 ⟨rfl, hb2⟩
  have HT2 := Lib.hid (powTab_below HT1.out hb2)
  have hc2 : Below w.heap.size w x2 := hb1.trans (hb2.mono hb1.size)
  clear hb1 hb2
  go_wp2_with fail
  refine (parse4_any _ _ (by rw [size_mk]; omega)).mono ?_
  rw [mk_list, four_txtZ x h0 h1]
  rintro e x3 ⟨rfl, hb3⟩
  have HT3 := Lib.hid (powTab_below HT2.out hb3)
  have hc3 : Below w.heap.size w x3 := hc2.trans (hb3.mono hc2.size)
  clear hc2 hb3
  go_wp2_with fail
  refine (strict_any _ _ (by rw [app_size, size_mk (txtZ x)]; show _ + 1 ≤ _; omega)).mono ?_
  rw [app_list, mk_list (txtZ x), show (ByteArray.mk #[46]).data.toList = [46] from rfl, strict_point x h0 h1]
  rintro e x4 ⟨rfl, hb4⟩
  have HT4 := Lib.hid (powTab_below HT3.out hb4)
  have hc4 : Below w.heap.size w x4 := hc3.trans (hb4.mono hc3.size)
  clear hc3 hb4
  go_wp2_with fail
  refine (strict_any _ _ (by rw [app_size, size_mk (txtZ x)]; show 1 + _ ≤ _; omega)).mono ?_
  rw [app_list, mk_list (txtZ x), show (ByteArray.mk #[48]).data.toList = [48] from rfl, strict_nought x h0 h1]
  rintro e x5 ⟨rfl, hb5⟩
  have HT5 := Lib.hid (powTab_below HT4.out hb5)
  have hc5 : Below w.heap.size w x5 := hc4.trans (hb5.mono hc4.size)
  clear hc4 hb5
  go_wp2_with fail
  refine (text4_any x _ h0 h1 HT5.out).mono ?_
  rintro e x6 ⟨rfl, hb6⟩
  have hc6 : Below w.heap.size w x6 := hc5.trans (hb6.mono hc5.size)
  clear hc5 hb6
  go_wp2
  go_ret
  exact ⟨by first | rfl | exact ret_bool (by simp), hc6⟩

set_option maxRecDepth 100000 in
set_option maxHeartbeats 4000000 in
theorem fourStrict_walk (a0 : ByteArray) (w0 : a0.size ≤ maxLen) (w : World) (htab : PowTab w) :
    Calls Tryd.prog 6 #[.string a0] w fun e w' => e = .returned (.bool true) ∧ Below w.heap.size w w' := by
  unfold maxLen at w0
  by_cases hlen : a0.size ≤ 100
  · obtain ⟨x, b, hz⟩ : ∃ x b, strictZ a0.data.toList = (x, b) := ⟨_, _, rfl⟩
    cases b with
    | true =>
      obtain ⟨h0, h1, hl⟩ := strict_back _ _ hz
      have : a0 = ⟨(txtZ x).toArray⟩ := by rw [← hl]
      rw [this]
      exact fourStrict_in x w h0 h1 htab
    | false =>
      obtain rfl := strict_false _ _ hz
      have HZ := Lib.hid hz
      clear hz htab
      go_enter Tryd.func6, Tryd.ntmps6
      go_wp2_with fail
      refine (awake04_any _).mono ?_
      rintro e x1 ⟨rfl, hb1⟩
      go_wp2_with fail
      refine (strict_any _ _ (by omega)).mono ?_
      rw [HZ.out]
      rintro e x2 ⟨rfl, hb2⟩
      have hc2 : Below w.heap.size w x2 := hb1.trans (hb2.mono hb1.size)
      clear hb1 hb2
      go_wp2
      go_ret
      exact ⟨rfl, hc2⟩
  · clear htab
    go_enter Tryd.func6, Tryd.ntmps6
    go_wp2_with fail
    refine (awake04_any _).mono ?_
    rintro e x1 ⟨rfl, hb1⟩
    go_wp2
    go_ret
    exact ⟨rfl, hb1⟩
end Go.Proofs.YtaojjkknmaldiaaDoor
