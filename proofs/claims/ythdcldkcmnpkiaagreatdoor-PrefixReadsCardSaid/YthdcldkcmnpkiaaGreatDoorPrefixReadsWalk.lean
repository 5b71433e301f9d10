/-
  The law PrefixReads: its Go text returns true at any text, where the library's tables read as they are laid; nothing that lay in memory before is changed.
-/
import Derived.Test.YthdcldkcmnpkiaaGreatDoorPreL
namespace Go.Proofs.YthdcldkcmnpkiaaGreatDoor
open Go.RowKit


theorem optP_agg (x : Option (Nat × Nat)) : ∃ a b c : Int, optP x = .agg #[.int .u64 a, .int .u64 b, .int .i64 c] := by
  cases x with
  | none => exact ⟨_, _, _, rfl⟩
  | some p => exact ⟨_, _, _, rfl⟩
set_option maxRecDepth 100000 in
set_option maxHeartbeats 4000000 in
theorem prefixReads_walk (a0 : ByteArray) (w0 : a0.size ≤ maxLen) (w : World) (hbru : BruTab w) (hmax : MaxVar w) :
    Calls Tryz.prog 4 #[.string a0] w fun e w' => e = .returned (.bool true) ∧ Below w.heap.size w w' := by
  unfold maxLen at w0
  have HT := Lib.hid hbru
  have HX := Lib.hid hmax
  clear hbru hmax
  by_cases h5 : 500 < a0.size
  · go_enter Tryz.func4, Tryz.ntmps4
    go_wp2_with fail
    refine (awake07_any _ HT.out HX.out).mono ?_
    rintro e x1 ⟨rfl, hb1⟩
    go_wp2
    go_ret
    exact ⟨rfl, hb1⟩
  · have hs : a0.size ≤ 1073741824 := by omega
    obtain ⟨pz, hpz⟩ : ∃ x, parseP a0.data.toList = x := ⟨_, rfl⟩
    have HP := Lib.hid hpz
    obtain ⟨a, b, c, hv⟩ := optP_agg pz
    have HV := Lib.hid hv
    have heq := eqPr_same a b c
    have hg := eqPr_guard
    obtain ⟨bo, hbo⟩ : ∃ q, pz.isSome = q := ⟨_, rfl⟩
    have HB := Lib.hid hbo
    clear hpz hv hbo
    go_enter Tryz.func4, Tryz.ntmps4
    go_wp2_with fail
    refine (awake07_any _ HT.out HX.out).mono ?_
    rintro e x1 ⟨rfl, hb1⟩
    go_wp2_with fail
    refine (pParse_any a0 _ hs (maxVar_below HX.out hb1)).mono ?_
    rw [HP.out]
    rintro e x2 ⟨rfl, hb2'⟩
    have hb2 := below_chain7 hb1 hb2'
    clear hb1 hb2'
    rw [HV.out, HB.out]
    have hA : Below w.heap.size w (x2.alloc (.cells #[.int .u64 a, .int .u64 b, .int .i64 c] 24)) := hb2.alloc hb2.size _
    go_wp2_with fail
    refine (rParse_any a0 _ hs).mono ?_
    rw [HP.out]
    rintro e x3 ⟨rfl, hb3'⟩
    obtain ⟨c0, c1, c2⟩ := keep_box x2 _ _ _ _ x3 (hb3'.mono (by simp))
    have hz : x2.heap.size < x3.heap.size := by have := hb3'.size; simp at this; omega
    have hb3 := below_chain7 hA hb3'
    clear hb2 hb3' hA
    rw [HV.out, HB.out]
    go_wp2
    go_ret
    exact ⟨by cases bo <;> rfl, hb3.alloc hb3.size _⟩
end Go.Proofs.YthdcldkcmnpkiaaGreatDoor
