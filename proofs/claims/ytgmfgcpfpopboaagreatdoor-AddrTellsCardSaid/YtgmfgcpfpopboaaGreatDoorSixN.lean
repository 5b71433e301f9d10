/-
  Layer 5: the chapter's examples hold.
-/
import Derived.Test.YtgmfgcpfpopboaaGreatDoorSixM
import Derived.Test.YtgmfgcpfpopboaaGreatDoorMgC
namespace Go.Proofs.YtgmfgcpfpopboaaGreatDoor
open Go.RowKit


/-- the digits to the base 16 of a number of at most f + 1 digits -/
def hexF : Nat → Nat → List UInt8
  | 0, u => [dgt u]
  | f + 1, u => if u < 16 then [dgt u] else hexF f (u / 16) ++ [dgt (u % 16)]
theorem hexD_F (f : Nat) : ∀ u, u < 16 ^ (f + 1) → hexD u = hexF f u := by
  induction f with
  | zero => intro u h; exact hexD_lo u (by simpa using h)
  | succ f ih =>
    intro u h
    unfold hexF
    split
    · exact hexD_lo u (by assumption)
    · rw [hexD_hi u (by omega), ih (u / 16) (by rw [Nat.pow_succ] at h; exact Nat.div_lt_of_lt_mul (by rw [Nat.mul_comm]; exact h))]
def joinF (l : List Int) : List UInt8 := Lib.join (l.map fun x => hexF 3 x.toNat) [58]
theorem joinH_F {l : List Int} (h : In16 l) : joinH l = joinF l := by
  unfold joinH joinF
  congr 1
  apply List.map_congr_left
  intro x hx
  have := h x hx
  exact hexD_F 3 _ (by omega)
def textF (p : List Int) : List UInt8 :=
  if (lrAt (zeroB p) 8).2.1 = (lrAt (zeroB p) 8).2.2 then joinF p else joinF (p.take (lrAt (zeroB p) 8).2.1) ++ [58, 58] ++ joinF (p.drop (lrAt (zeroB p) 8).2.2)
theorem textP_F {p : List Int} (h : In16 p) : textP p = textF p := by
  unfold textP textF
  rw [joinH_F h, joinH_F (h.take _), joinH_F (h.drop _)]

theorem p6_a : sixZ [58, 58, 102, 102, 102, 102, 58, 49, 46, 50, 46, 51, 46, 52] = ((0, 281470698652420), true) := by decide +kernel
theorem p6_b : sixZ [49, 58, 50, 58, 51, 58, 52, 58, 53, 58, 54, 58, 55] = ((0, 0), false) := by decide +kernel
theorem t6_a : text6Z 0 281470698652420 = [58, 58, 102, 102, 102, 102, 58, 49, 48, 50, 58, 51, 48, 52] := by
  unfold text6Z
  rw [textP_F (pcs_in (by decide) (by decide) (by decide) (by decide))]
  decide +kernel
theorem t6_b : text6Z 281474976710658 0 = [49, 58, 48, 58, 48, 58, 50, 58, 58] := by
  unfold text6Z
  rw [textP_F (pcs_in (by decide) (by decide) (by decide) (by decide))]
  decide +kernel

set_option maxHeartbeats 1000000 in
theorem awake4_any (w : World) :
    Calls Tryz.prog 46 #[] w fun e w' => e = .returned (.bool true) ∧ Below w.heap.size w w' := by
  go_enter Tryz.func46, Tryz.ntmps46
  go_wp2_with fail
  refine (awake04_any _).mono ?_
  rintro e w1 ⟨rfl, hb1⟩
  go_wp2
  go_ret
  exact ⟨rfl, hb1⟩

set_option maxRecDepth 100000 in
set_option maxHeartbeats 4000000 in
theorem awake05_any (w : World) (hbru : BruTab w) (hmax : MaxVar w) :
    Calls Tryz.prog 35 #[] w fun e w' => e = .returned (.bool true) ∧ Below w.heap.size w w' := by
  have HT := Lib.hid hbru
  have HX := Lib.hid hmax
  clear hbru hmax
  go_enter Tryz.func35, Tryz.ntmps35
  go_wp2_with fail
  refine (parse6_any _ _ (by decide) HX.out).mono ?_
  rw [show sixZ (ByteArray.mk #[58, 58, 102, 102, 102, 102, 58, 49, 46, 50, 46, 51, 46, 52]).data.toList = ((0, 281470698652420), true) from p6_a]
  rintro e w1 ⟨rfl, hb1⟩
  have hc1 : Below w.heap.size w (w1.alloc (.cells #[.int .u64 0, .int .u64 281470698652420] 46)) := hb1.alloc hb1.size _
  have hB : (w1.alloc (.cells #[.int .u64 0, .int .u64 281470698652420] 46)).heap[w1.heap.size]? = some (.cells #[.int .u64 0, .int .u64 281470698652420] 46 (0, 0)) := heap_alloc_new w1 _
  have hgs : w1.heap.size < (w1.alloc (.cells #[.int .u64 0, .int .u64 281470698652420] 46)).heap.size := by simp
  have HC := Lib.hid (show (w1.alloc (.cells #[.int .u64 0, .int .u64 281470698652420] 46)).cell? ⟨w1.heap.size, 0, none⟩ = some (.int .u64 0) ∧ (w1.alloc (.cells #[.int .u64 0, .int .u64 281470698652420] 46)).cell? ⟨w1.heap.size, 1, none⟩ = some (.int .u64 281470698652420) from
    ⟨by rw [cell_of_row _ _ 0 _ _ _ hB]; rfl, by rw [cell_of_row _ _ 1 _ _ _ hB]; rfl⟩)
  clear hb1 hB
  go_wp2_with fail
  generalize w1.alloc (.cells #[.int .u64 0, .int .u64 281470698652420] 46) = x1 at *
  generalize w1.heap.size = g at *
  refine (parse6_any _ _ (by decide) (maxVar_below HX.out hc1)).mono ?_
  rw [show sixZ (ByteArray.mk #[49, 58, 50, 58, 51, 58, 52, 58, 53, 58, 54, 58, 55]).data.toList = ((0, 0), false) from p6_b]
  rintro e w2 ⟨rfl, hb2⟩
  have hd2 : Below x1.heap.size x1 (w2.alloc (.cells #[.int .u64 0, .int .u64 0] 46)) := hb2.alloc hb2.size _
  clear hb2
  go_wp2_with fail
  generalize w2.alloc (.cells #[.int .u64 0, .int .u64 0] 46) = x2 at *
  refine (awake4_any _).mono ?_
  rintro e x3 ⟨rfl, hb3⟩
  have hd3 : Below x1.heap.size x1 x3 := hd2.trans (hb3.mono hd2.size)
  have hc3 : Below w.heap.size w x3 := hc1.trans (hd3.mono hc1.size)
  have k0 : x3.cell? ⟨g, 0, none⟩ = some (.int .u64 0) := (hd3.cell (p := ⟨g, 0, none⟩) hgs).trans HC.out.1
  have k1 : x3.cell? ⟨g, 1, none⟩ = some (.int .u64 281470698652420) := (hd3.cell (p := ⟨g, 1, none⟩) hgs).trans HC.out.2
  clear hb3 hd2 hd3
  go_wp2_with fail
  refine (text6_any 0 281470698652420 _ (by decide) (by decide) (by decide) (by decide) (bruTab_below HT.out hc3)).mono ?_
  rw [t6_a]
  rintro e x4 ⟨rfl, hb4⟩
  have hc4 : Below w.heap.size w x4 := hc3.trans (hb4.mono hc3.size)
  clear hb4 k0 k1
  have hc5 : Below w.heap.size w (x4.alloc (.cells #[.int .u16 1, .int .u16 0, .int .u16 0, .int .u16 2] 86)) := hc4.alloc hc4.size _
  have HR : Hid (RowR (x4.alloc (.cells #[.int .u16 1, .int .u16 0, .int .u16 0, .int .u16 2] 86)) (.slice (some ⟨x4.heap.size, 0, none⟩) 4 4) ([1, 0, 0, 2].map (Value.int .u16))) := by
    refine ⟨some ⟨x4.heap.size, 0, none⟩, 4, rfl, fun j u hj => ⟨_, rfl, ?_⟩⟩
    rw [Lib.add_plain, Nat.zero_add, cell_of_row _ _ j _ _ _ (heap_alloc_new x4 _)]
    simpa using hj
  go_wp2_with fail
  refine (sixOf_any _ [1, 0, 0, 2] _ HR.out (by intro x hx; simp at hx; omega) (by decide)).mono ?_
  rw [show hi4 [1, 0, 0, 2] = 281474976710658 from by decide, show lo4 [1, 0, 0, 2] = 0 from by decide]
  rintro e x6 ⟨rfl, hb6⟩
  have hc6 : Below w.heap.size w x6 := hc5.trans (hb6.mono hc5.size)
  clear hb6 hc5
  go_wp2_with fail
  refine (text6_any 281474976710658 0 _ (by decide) (by decide) (by decide) (by decide) (bruTab_below HT.out hc6)).mono ?_
  rw [t6_b]
  rintro e x7 ⟨rfl, hb7⟩
  have hc7 : Below w.heap.size w x7 := hc6.trans (hb7.mono hc6.size)
  go_wp2
  go_ret
  exact ⟨by first | rfl | exact ret_bool (by simp) | exact ret_bool (by decide), hc7⟩
end Go.Proofs.YtgmfgcpfpopboaaGreatDoor
