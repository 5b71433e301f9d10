/-
  Layer 3: the chapter's examples hold ('awake' returns true, whatever memory it is called in).
-/
import Derived.Test.YtaojjkknmaldiaaDoorNumF
namespace Go.Proofs.YtaojjkknmaldiaaDoor
open Go.RowKit


theorem p3_a : parseZ [48, 120, 55, 102] = (127, true) := by decide +kernel
theorem p3_b : parseZ [48, 49, 55] = (15, true) := by decide +kernel
theorem p3_c : parseZ [48, 56] = (0, false) := by decide +kernel
theorem p3_d : endsB [97, 46, 48, 120] = true := by decide +kernel

set_option maxRecDepth 100000 in
set_option maxHeartbeats 1000000 in
theorem awake2_any (w : World) :
    Calls Tryd.prog 20 #[] w fun e w' => e = .returned (.bool true) ∧ Below w.heap.size w w' := by
  go_enter Tryd.func20, Tryd.ntmps20
  go_wp2_with fail
  refine (awake02_any _).mono ?_
  rintro e w1 ⟨rfl, hb⟩
  go_wp2
  go_ret
  exact ⟨rfl, hb⟩

set_option maxRecDepth 100000 in
set_option maxHeartbeats 1000000 in
theorem awake03_any (w : World) :
    Calls Tryd.prog 7 #[] w fun e w' => e = .returned (.bool true) ∧ Below w.heap.size w w' := by
  go_enter Tryd.func7, Tryd.ntmps7
  go_wp2_with fail
  refine (parse_any _ _ (by decide)).mono ?_
  rw [show parseZ (ByteArray.mk #[48, 120, 55, 102]).data.toList = (127, true) from p3_a]
  rintro e w1 ⟨rfl, hb1⟩
  go_wp2_with fail
  refine (parse_any _ _ (by decide)).mono ?_
  rw [show parseZ (ByteArray.mk #[48, 49, 55]).data.toList = (15, true) from p3_b]
  rintro e w2 ⟨rfl, hb2⟩
  have hc2 : Below w.heap.size w w2 := hb1.trans (hb2.mono hb1.size)
  clear hb1 hb2
  go_wp2_with fail
  refine (parse_any _ _ (by decide)).mono ?_
  rw [show parseZ (ByteArray.mk #[48, 56]).data.toList = (0, false) from p3_c]
  rintro e w3 ⟨rfl, hb3⟩
  have hc3 : Below w.heap.size w w3 := hc2.trans (hb3.mono hc2.size)
  clear hc2 hb3
  go_wp2_with fail
  refine (awake2_any _).mono ?_
  rintro e w4 ⟨rfl, hb4⟩
  have hc4 : Below w.heap.size w w4 := hc3.trans (hb4.mono hc3.size)
  clear hc3 hb4
  go_wp2_with fail
  refine (ends_any _ _ (by decide)).mono ?_
  rw [show endsB (ByteArray.mk #[97, 46, 48, 120]).data.toList = true from p3_d]
  rintro e w5 ⟨rfl, hb5⟩
  have hc5 : Below w.heap.size w w5 := hc4.trans (hb5.mono hc4.size)
  clear hc4 hb5
  go_wp2
  go_ret
  exact ⟨rfl, hc5⟩

set_option maxRecDepth 100000 in
set_option maxHeartbeats 1000000 in
theorem awake3_any (w : World) :
    Calls Tryd.prog 27 #[] w fun e w' => e = .returned (.bool true) ∧ Below w.heap.size w w' := by
  go_enter Tryd.func27, Tryd.ntmps27
  go_wp2_with fail
  refine (awake03_any _).mono ?_
  rintro e w1 ⟨rfl, hb⟩
  go_wp2
  go_ret
  exact ⟨rfl, hb⟩
end Go.Proofs.YtaojjkknmaldiaaDoor
