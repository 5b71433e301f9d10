/-
  Layer 4: the chapter's examples hold.
-/
import Derived.Test.YtaojjkknmaldiaaDoorFourC
import Derived.Test.YtaojjkknmaldiaaDoorFourF
namespace Go.Proofs.YtaojjkknmaldiaaDoor
open Go.RowKit


theorem p4_a : fourZ [48, 120, 55, 102, 46, 49] = (2130706433, true) := by decide +kernel
theorem p4_b : fourZ [49, 46, 50, 46, 51, 46, 50, 53, 54] = (0, false) := by decide +kernel
theorem p4_c : fourZ [50, 53, 54] = (256, true) := by decide +kernel

set_option maxRecDepth 100000 in
set_option maxHeartbeats 1000000 in
theorem awake04_any (w : World) :
    Calls Tryd.prog 12 #[] w fun e w' => e = .returned (.bool true) ∧ Below w.heap.size w w' := by
  go_enter Tryd.func12, Tryd.ntmps12
  go_wp2_with fail
  refine (parse4_any _ _ (by decide)).mono ?_
  rw [show fourZ (ByteArray.mk #[48, 120, 55, 102, 46, 49]).data.toList = (2130706433, true) from p4_a]
  rintro e w1 ⟨rfl, hb1⟩
  go_wp2_with fail
  refine (parse4_any _ _ (by decide)).mono ?_
  rw [show fourZ (ByteArray.mk #[49, 46, 50, 46, 51, 46, 50, 53, 54]).data.toList = (0, false) from p4_b]
  rintro e w2 ⟨rfl, hb2⟩
  have hc2 : Below w.heap.size w w2 := hb1.trans (hb2.mono hb1.size)
  clear hb1 hb2
  go_wp2_with fail
  refine (parse4_any _ _ (by decide)).mono ?_
  rw [show fourZ (ByteArray.mk #[50, 53, 54]).data.toList = (256, true) from p4_c]
  rintro e w3 ⟨rfl, hb3⟩
  have hc3 : Below w.heap.size w w3 := hc2.trans (hb3.mono hc2.size)
  clear hc2 hb3
  go_wp2_with fail
  refine (awake3_any _).mono ?_
  rintro e w4 ⟨rfl, hb4⟩
  have hc4 : Below w.heap.size w w4 := hc3.trans (hb4.mono hc3.size)
  clear hc3 hb4
  go_wp2_with fail
  refine (of_any 127 0 0 1 _ (by decide) (by decide) (by decide) (by decide)).mono ?_
  rintro e w' ⟨rfl, rfl⟩
  go_wp2_with fail
  refine (of_any 0 0 1 0 _ (by decide) (by decide) (by decide) (by decide)).mono ?_
  rintro e w' ⟨rfl, rfl⟩
  go_wp2
  go_ret
  exact ⟨by first | rfl | exact ret_bool (by decide), hc4⟩
end Go.Proofs.YtaojjkknmaldiaaDoor
