/-
  Layer 1: Digit, Alpha and Value, the program's and the reference's.
-/
import Derived.Test.YtaojjkknmaldiaaDoorScalK
namespace Go.Proofs.YtaojjkknmaldiaaDoor
open Go.RowKit


theorem ret_int {k : IntKind} {a b : Int} (h : a = b) : Ending.returned (.int k a) = .returned (.int k b) := by rw [h]

def digitB (r : Int) : Bool := decide (48 ≤ r ∧ r ≤ 57)
def alphaB (r : Int) : Bool := decide ((97 ≤ r ∧ r ≤ 122) ∨ (65 ≤ r ∧ r ≤ 90))
def valZ (r : Int) : Int := if 48 ≤ r ∧ r ≤ 57 then r - 48 else if 65 ≤ r ∧ r ≤ 70 then r - 55 else if 97 ≤ r ∧ r ≤ 102 then r - 87 else -1

set_option maxHeartbeats 2000000 in
theorem digit_any (r : Int) (w : World) :
    Calls Tryd.prog 24 #[.int .i32 r] w fun e w' => e = .returned (.bool (digitB r)) ∧ w = w' := by
  rcases (show r < 48 ∨ (48 ≤ r ∧ r ≤ 57) ∨ (57 < r ∧ r < 65) ∨ (65 ≤ r ∧ r ≤ 70) ∨ (70 < r ∧ r ≤ 90) ∨ (90 < r ∧ r < 97) ∨ (97 ≤ r ∧ r ≤ 102) ∨ (102 < r ∧ r ≤ 122) ∨ 122 < r from by omega) with hA | ⟨hA, hB⟩ | ⟨hA, hB⟩ | ⟨hA, hB⟩ | ⟨hA, hB⟩ | ⟨hA, hB⟩ | ⟨hA, hB⟩ | ⟨hA, hB⟩ | hA
  · have HB := Lib.hid (show digitB r = false from decide_eq_false (by omega))
    go_enter Tryd.func24, Tryd.ntmps24
    go_wp2
    go_ret
    exact ⟨ret_bool (by first | exact HB.out.symm | (rw [HB.out]; simp; omega)), rfl⟩
  · have HB := Lib.hid (show digitB r = true from decide_eq_true (by omega))
    go_enter Tryd.func24, Tryd.ntmps24
    go_wp2
    go_ret
    exact ⟨ret_bool (by first | exact HB.out.symm | (rw [HB.out]; simp; omega)), rfl⟩
  · have HB := Lib.hid (show digitB r = false from decide_eq_false (by omega))
    go_enter Tryd.func24, Tryd.ntmps24
    go_wp2
    go_ret
    exact ⟨ret_bool (by first | exact HB.out.symm | (rw [HB.out]; simp; omega)), rfl⟩
  · have HB := Lib.hid (show digitB r = false from decide_eq_false (by omega))
    go_enter Tryd.func24, Tryd.ntmps24
    go_wp2
    go_ret
    exact ⟨ret_bool (by first | exact HB.out.symm | (rw [HB.out]; simp; omega)), rfl⟩
  · have HB := Lib.hid (show digitB r = false from decide_eq_false (by omega))
    go_enter Tryd.func24, Tryd.ntmps24
    go_wp2
    go_ret
    exact ⟨ret_bool (by first | exact HB.out.symm | (rw [HB.out]; simp; omega)), rfl⟩
  · have HB := Lib.hid (show digitB r = false from decide_eq_false (by omega))
    go_enter Tryd.func24, Tryd.ntmps24
    go_wp2
    go_ret
    exact ⟨ret_bool (by first | exact HB.out.symm | (rw [HB.out]; simp; omega)), rfl⟩
  · have HB := Lib.hid (show digitB r = false from decide_eq_false (by omega))
    go_enter Tryd.func24, Tryd.ntmps24
    go_wp2
    go_ret
    exact ⟨ret_bool (by first | exact HB.out.symm | (rw [HB.out]; simp; omega)), rfl⟩
  · have HB := Lib.hid (show digitB r = false from decide_eq_false (by omega))
    go_enter Tryd.func24, Tryd.ntmps24
    go_wp2
    go_ret
    exact ⟨ret_bool (by first | exact HB.out.symm | (rw [HB.out]; simp; omega)), rfl⟩
  · have HB := Lib.hid (show digitB r = false from decide_eq_false (by omega))
    go_enter Tryd.func24, Tryd.ntmps24
    go_wp2
    go_ret
    exact ⟨ret_bool (by first | exact HB.out.symm | (rw [HB.out]; simp; omega)), rfl⟩

set_option maxHeartbeats 2000000 in
theorem value_any (r : Int) (w : World) :
    Calls Tryd.prog 23 #[.int .i32 r] w fun e w' => e = .returned (.int .i64 (valZ r)) ∧ w = w' := by
  rcases (show r < 48 ∨ (48 ≤ r ∧ r ≤ 57) ∨ (57 < r ∧ r < 65) ∨ (65 ≤ r ∧ r ≤ 70) ∨ (70 < r ∧ r ≤ 90) ∨ (90 < r ∧ r < 97) ∨ (97 ≤ r ∧ r ≤ 102) ∨ (102 < r ∧ r ≤ 122) ∨ 122 < r from by omega) with hA | ⟨hA, hB⟩ | ⟨hA, hB⟩ | ⟨hA, hB⟩ | ⟨hA, hB⟩ | ⟨hA, hB⟩ | ⟨hA, hB⟩ | ⟨hA, hB⟩ | hA
  · have HV := Lib.hid (show valZ r = -1 from by unfold valZ; (repeat' split) <;> omega)
    go_enter Tryd.func23, Tryd.ntmps23
    go_wp2
    go_ret
    exact ⟨ret_int (by first | exact HV.out.symm | (rw [HV.out]; omega)), rfl⟩
  · have HV := Lib.hid (show valZ r = r - 48 from by unfold valZ; (repeat' split) <;> omega)
    go_enter Tryd.func23, Tryd.ntmps23
    go_wp2
    go_ret
    exact ⟨ret_int (by first | exact HV.out.symm | (rw [HV.out]; omega)), rfl⟩
  · have HV := Lib.hid (show valZ r = -1 from by unfold valZ; (repeat' split) <;> omega)
    go_enter Tryd.func23, Tryd.ntmps23
    go_wp2
    go_ret
    exact ⟨ret_int (by first | exact HV.out.symm | (rw [HV.out]; omega)), rfl⟩
  · have HV := Lib.hid (show valZ r = r - 55 from by unfold valZ; (repeat' split) <;> omega)
    go_enter Tryd.func23, Tryd.ntmps23
    go_wp2
    go_ret
    exact ⟨ret_int (by first | exact HV.out.symm | (rw [HV.out]; omega)), rfl⟩
  · have HV := Lib.hid (show valZ r = -1 from by unfold valZ; (repeat' split) <;> omega)
    go_enter Tryd.func23, Tryd.ntmps23
    go_wp2
    go_ret
    exact ⟨ret_int (by first | exact HV.out.symm | (rw [HV.out]; omega)), rfl⟩
  · have HV := Lib.hid (show valZ r = -1 from by unfold valZ; (repeat' split) <;> omega)
    go_enter Tryd.func23, Tryd.ntmps23
    go_wp2
    go_ret
    exact ⟨ret_int (by first | exact HV.out.symm | (rw [HV.out]; omega)), rfl⟩
  · have HV := Lib.hid (show valZ r = r - 87 from by unfold valZ; (repeat' split) <;> omega)
    go_enter Tryd.func23, Tryd.ntmps23
    go_wp2
    go_ret
    exact ⟨ret_int (by first | exact HV.out.symm | (rw [HV.out]; omega)), rfl⟩
  · have HV := Lib.hid (show valZ r = -1 from by unfold valZ; (repeat' split) <;> omega)
    go_enter Tryd.func23, Tryd.ntmps23
    go_wp2
    go_ret
    exact ⟨ret_int (by first | exact HV.out.symm | (rw [HV.out]; omega)), rfl⟩
  · have HV := Lib.hid (show valZ r = -1 from by unfold valZ; (repeat' split) <;> omega)
    go_enter Tryd.func23, Tryd.ntmps23
    go_wp2
    go_ret
    exact ⟨ret_int (by first | exact HV.out.symm | (rw [HV.out]; omega)), rfl⟩

end Go.Proofs.YtaojjkknmaldiaaDoor
