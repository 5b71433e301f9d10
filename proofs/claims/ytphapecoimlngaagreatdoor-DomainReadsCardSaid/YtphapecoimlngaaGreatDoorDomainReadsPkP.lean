/-
  What the law DomainReads leans on, and its walk (16 of 17).
-/
import Derived.Test.YtphapecoimlngaaGreatDoorDomainReadsPkD
import Derived.Test.YtphapecoimlngaaGreatDoorDomainReadsPkO
namespace Go.Proofs.YtphapecoimlngaaGreatDoor
set_option maxRecDepth 100000
set_option maxHeartbeats 16000000
section
open Go.RowKit
theorem zqB (w : World) (hbru : BruTab w) (hmax : MaxVar w) :
  Calls Tryz.prog 35 #[] w fun e w' => e = .returned (.bool true) ∧ Below w.heap.size w w' := by
 go_enter Tryz.func35, Tryz.ntmps35
 go_wp2_with fail
 refine (zoH _ hbru hmax).mono ?_
 rintro e w' ⟨rfl, hb⟩
 go_wp2
 go_ret
 exact ⟨rfl, hb⟩
theorem ex11_a : zcW [69, 88, 65, 77, 80, 76, 69, 46, 99, 111, 109, 46] = ([101, 120, 97, 109, 112, 108, 101, 46, 99, 111, 109, 46], 0) := by decide +kernel
theorem ex11_b : zcW [97, 46, 46, 98] = ([], 6) := by decide +kernel
theorem ex11_c : zcW [88, 78, 45, 45, 97, 46, 98] = ([], 7) := by decide +kernel
theorem zpW (w : World) (hbru : BruTab w) (hmax : MaxVar w) :
  Calls Tryz.prog 10 #[] w fun e w' => e = .returned (.bool true) ∧ Below w.heap.size w w' := by
 have HT := Lib.hid hbru
 have HX := Lib.hid hmax
 clear hbru hmax
 go_enter Tryz.func10, Tryz.ntmps10
 go_wp2_with fail
 refine (zfY ⟨#[69, 88, 65, 77, 80, 76, 69, 46, 99, 111, 109, 46]⟩ _ (by decide)).mono ?_
 rw [ex11_a]
 rintro e w1 ⟨rfl, hb1⟩
 go_wp2_with fail
 refine (zfY ⟨#[97, 46, 46, 98]⟩ _ (by decide)).mono ?_
 rw [ex11_b]
 rintro e w2 ⟨rfl, hb2⟩
 have hc2 := zaA hb1 hb2
 clear hb1 hb2
 go_wp2_with fail
 refine (zfY ⟨#[88, 78, 45, 45, 97, 46, 98]⟩ _ (by decide)).mono ?_
 rw [ex11_c]
 rintro e w3 ⟨rfl, hb3⟩
 have hc3 := zaA hc2 hb3
 clear hc2 hb3
 go_wp2_with fail
 refine (zqB _ (zbI HT.out hc3) (zaB HX.out hc3)).mono ?_
 rintro e w4 ⟨rfl, hb4⟩
 have hc4 := zaA hc3 hb4
 clear hc3 hb4
 go_wp2
 go_ret
 exact ⟨rfl, hc4⟩
end

section
open Go.RowKit
theorem domainReads_walk (a0 : ByteArray) (_w0 : a0.size ≤ maxLen) (w : World) (hbru : BruTab w) (hmax : MaxVar w) :
  Calls Tryz.prog 3 #[.string a0] w fun e w' => e = .returned (.bool true) ∧ Below w.heap.size w w' := by
 have HT := Lib.hid hbru
 have HX := Lib.hid hmax
 clear hbru hmax
 obtain ⟨n, er, hc⟩ : ∃ n er, zcW a0.data.toList = (n, er) := ⟨_, _, rfl⟩
 have HR := Lib.hid (show znN a0.data.toList = (decide (er = 0) && n == a0.data.toList) by unfold znN; rw [hc])
 have HC := Lib.hid hc
 clear hc
 go_enter Tryz.func3, Tryz.ntmps3
 go_wp2_with fail
 refine (zpW _ HT.out HX.out).mono ?_
 rintro e w1 ⟨rfl, hb1⟩
 by_cases hbig : 1000 < a0.size
 ·have hd : decide (1000 < (a0.size : Int)) = true := decide_eq_true (by omega)
  go_wp2
  go_ret
  exact ⟨rfl, hb1⟩
 have hd : decide (1000 < (a0.size : Int)) = false := decide_eq_false (by omega)
 go_wp2_with fail
 refine (zfY a0 _ (by omega)).mono ?_
 rw [HC.out]
 rintro e w2 ⟨rfl, hb2⟩
 have hc2 := zaA hb1 hb2
 clear hb1 hb2 hd
 go_wp2_with fail
 refine (zoZ a0 _ (by omega)).mono ?_
 rw [HC.out]
 rintro e w3 ⟨rfl, hb3⟩
 have hc3 := zaA hc2 hb3
 clear hc2 hb3
 have hee : (er == er) = true := by simp
 have hnn : (n == n) = true := by simp
 have HRA : Hid (∀ W, Calls Tryz.prog 13 #[.string a0] W (zeQ W (decide (er = 0) && n == a0.data.toList))) := fun W => by
  have := zrG a0 W (by omega)
  rwa [HR.out] at this
 by_cases h0 : er = 0
 ·subst h0
  cases hq : n == a0.toList with
  | true =>
   rw [← Lib.toList_data, hq] at HRA
   go_wp2_with (go_at_call 13; refine (HRA.out _).mono ?_; rintro e w4 ⟨rfl, hb4⟩)
   go_ret
   exact ⟨by first | rfl | exact zaP (by simp), zaA hc3 hb4⟩
  | false =>
   rw [← Lib.toList_data, hq] at HRA
   go_wp2_with (go_at_call 13; refine (HRA.out _).mono ?_; rintro e w4 ⟨rfl, hb4⟩)
   go_ret
   exact ⟨by first | rfl | exact zaP (by simp), zaA hc3 hb4⟩
 ·have hd : (er == (0 : Int)) = false := beq_eq_false_iff_ne.2 h0
  rw [decide_eq_false h0, Bool.false_and] at HRA
  clear h0
  go_wp2_with (go_at_call 13; refine (HRA.out _).mono ?_; rintro e w4 ⟨rfl, hb4⟩)
  go_ret
  exact ⟨by first | rfl | exact zaP (by simp), zaA hc3 hb4⟩
end

end Go.Proofs.YtphapecoimlngaaGreatDoor
