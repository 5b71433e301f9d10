/-
  Layer 9: the chapter's example.
-/
import Derived.Test.YtoobiaifogackaaGreatDoorSpcE
namespace Go.Proofs.YtoobiaifogackaaGreatDoor
open Go.RowKit


theorem ref_is9 (a : AZ) (h : a.Ok) : ∃ (s : Bool) (ah al : Nat), refV (refA (some a)) = .agg #[.bool s, .int .u64 (ah : Nat), .int .u64 (al : Nat)] ∧ ah < 18446744073709551616 ∧ al < 18446744073709551616 ∧ wideN ah al = a.wd := by
  obtain ⟨hi, lo, e1, e2, b1, b2, e3⟩ := AZ.ok_hl h
  cases a with
  | four n => exact ⟨false, hi, lo, by rw [← e1, ← e2]; rfl, b1, b2, e3.symm⟩
  | six x y => exact ⟨true, hi, lo, by rw [← e1, ← e2]; rfl, b1, b2, e3.symm⟩
theorem n9_a : nameV (name9 fun W n => pHasB W n (AZ.four 2130706433).wd) = .tuple #[.string ⟨#[108, 111, 111, 112, 98, 97, 99, 107]⟩, .bool true] := by
  unfold name9
  rw [T9_is, show T9L.find? (fun r => pHasB r.W r.n (AZ.four 2130706433).wd) = some ⟨281472812449792, 104, [108, 111, 111, 112, 98, 97, 99, 107]⟩ from by decide +kernel]
  rfl
theorem n9_b : nameV (name9 fun W n => pHasB W n (AZ.four 134744072).wd) = .tuple #[.string ⟨#[]⟩, .bool false] := by
  unfold name9
  rw [T9_is, show T9L.find? (fun r => pHasB r.W r.n (AZ.four 134744072).wd) = none from by decide +kernel]
  rfl
set_option maxHeartbeats 1000000 in
theorem awake8_any (w : World) (hbru : BruTab w) (hmax : MaxVar w) :
    Calls Tryz.prog 48 #[] w fun e w' => e = .returned (.bool true) ∧ Below w.heap.size w w' := by
  have HT := Lib.hid hbru
  have HX := Lib.hid hmax
  clear hbru hmax
  go_enter Tryz.func48, Tryz.ntmps48
  go_wp2_with fail
  refine (awake08_any _ HT.out HX.out).mono ?_
  rintro e w1 ⟨rfl, hb1⟩
  go_wp2
  go_ret
  exact ⟨rfl, hb1⟩
set_option maxRecDepth 100000 in
set_option maxHeartbeats 4000000 in
theorem awake09_any (w : World) (hbru : BruTab w) (hmax : MaxVar w) :
    Calls Tryz.prog 11 #[] w fun e w' => e = .returned (.bool true) ∧ Below w.heap.size w w' := by
  have HT := Lib.hid hbru
  have HX := Lib.hid hmax
  have HO1 : Hid (∀ W, Calls Tryz.prog 47 #[.int .u8 127, .int .u8 0, .int .u8 0, .int .u8 1] W fun e w' => e = .returned (.int .u32 2130706433) ∧ W = w') := fun W => of_any 127 0 0 1 W (by decide) (by decide) (by decide) (by decide)
  have HO2 : Hid (∀ W, Calls Tryz.prog 47 #[.int .u8 8, .int .u8 8, .int .u8 8, .int .u8 8] W fun e w' => e = .returned (.int .u32 134744072) ∧ W = w') := fun W => of_any 8 8 8 8 W (by decide) (by decide) (by decide) (by decide)
  have HN1 : Hid (∀ W, MaxVar W → Calls Tryz.prog 13 #[.iface 92 (.int .u32 2130706433)] W fun e w' => e = .returned (.tuple #[.string ⟨#[108, 111, 111, 112, 98, 97, 99, 107]⟩, .bool true]) ∧ Below W.heap.size W w') := fun W hW => by
    have := name9_any (.four 2130706433) W hW ⟨by decide, by decide⟩; rw [n9_a] at this; exact this
  have HN2 : Hid (∀ W, MaxVar W → Calls Tryz.prog 13 #[.iface 92 (.int .u32 134744072)] W fun e w' => e = .returned (.tuple #[.string ⟨#[]⟩, .bool false]) ∧ Below W.heap.size W w') := fun W hW => by
    have := name9_any (.four 134744072) W hW ⟨by decide, by decide⟩; rw [n9_b] at this; exact this
  clear hbru hmax
  go_enter Tryz.func11, Tryz.ntmps11
  go_wp2_with fail
  refine (HO1.out _).mono ?_
  rintro e x1 ⟨rfl, rfl⟩
  go_wp2_with fail
  refine (HN1.out _ HX.out).mono ?_
  rintro e x2 ⟨rfl, hb2⟩
  go_wp2_with fail
  refine (HO2.out _).mono ?_
  rintro e x3 ⟨rfl, rfl⟩
  go_wp2_with fail
  refine (HN2.out _ (maxVar_below HX.out hb2)).mono ?_
  rintro e x4 ⟨rfl, hb4⟩
  have hb5 := below_chain7 hb2 hb4
  clear hb2 hb4
  go_wp2_with fail
  refine (awake8_any _ (bruTab_below HT.out hb5) (maxVar_below HX.out hb5)).mono ?_
  rintro e x5 ⟨rfl, hb6⟩
  have hb7 := below_chain7 hb5 hb6
  go_wp2
  go_ret
  exact ⟨rfl, hb7⟩
set_option maxHeartbeats 1000000 in
theorem awake9_any (w : World) (hbru : BruTab w) (hmax : MaxVar w) :
    Calls Tryz.prog 58 #[] w fun e w' => e = .returned (.bool true) ∧ Below w.heap.size w w' := by
  have HT := Lib.hid hbru
  have HX := Lib.hid hmax
  clear hbru hmax
  go_enter Tryz.func58, Tryz.ntmps58
  go_wp2_with fail
  refine (awake09_any _ HT.out HX.out).mono ?_
  rintro e w1 ⟨rfl, hb1⟩
  go_wp2
  go_ret
  exact ⟨rfl, hb1⟩
end Go.Proofs.YtoobiaifogackaaGreatDoor
