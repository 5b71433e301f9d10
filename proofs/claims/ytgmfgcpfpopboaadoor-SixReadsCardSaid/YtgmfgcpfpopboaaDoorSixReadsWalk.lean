/-
  The law SixReads: its Go text returns true at every text, where the library's tables read as they are laid; nothing that lay in memory before is changed.
-/
import Derived.Test.YtgmfgcpfpopboaaDoorSixN
import Derived.Test.YtgmfgcpfpopboaaDoorSixI
namespace Go.Proofs.YtgmfgcpfpopboaaDoor
open Go.RowKit


set_option maxRecDepth 100000 in
set_option maxHeartbeats 4000000 in
theorem sixReads_walk (a0 : ByteArray) (_w0 : a0.size ≤ maxLen) (w : World) (hbru : BruTab w) (hmax : MaxVar w) :
    Calls Tryd.prog 3 #[.string a0] w fun e w' => e = .returned (.bool true) ∧ Below w.heap.size w w' := by
  have HX := Lib.hid hmax
  have HT := Lib.hid hbru
  clear hbru hmax
  by_cases hs : 500 < a0.size
  · go_enter Tryd.func3, Tryd.ntmps3
    go_wp2_with fail
    refine (awake05_any _ HT.out HX.out).mono ?_
    rintro e w1 ⟨rfl, hb1⟩
    have hd : decide ((500 : Int) < (a0.size : Int)) = true := decide_eq_true (by omega)
    go_wp2
    go_ret
    exact ⟨rfl, hb1⟩
  · have hd : decide ((500 : Int) < (a0.size : Int)) = false := decide_eq_false (by omega)
    have hl := sixL_in a0.data.toList
    have hz : sixZ a0.data.toList = ((hi4 (sixL a0.data.toList).1, lo4 (sixL a0.data.toList).1), (sixL a0.data.toList).2) := rfl
    have HZ := Lib.hid hz
    clear hz hl
    generalize hi4 (sixL a0.data.toList).1 = H at *
    generalize lo4 (sixL a0.data.toList).1 = L at *
    generalize (sixL a0.data.toList).2 = b at *
    go_enter Tryd.func3, Tryd.ntmps3
    go_wp2_with fail
    refine (awake05_any _ HT.out HX.out).mono ?_
    rintro e w1 ⟨rfl, hb1⟩
    go_wp2_with fail
    refine (parse6_any a0 _ (by omega) (maxVar_below HX.out hb1)).mono ?_
    rw [HZ.out]
    rintro e w2 ⟨rfl, hb2⟩
    have hc2 : Below w.heap.size w (w2.alloc (.cells #[.int .u64 H, .int .u64 L] 25)) := (hb1.trans (hb2.mono hb1.size)).alloc (hb1.trans (hb2.mono hb1.size)).size _
    have hB : (w2.alloc (.cells #[.int .u64 H, .int .u64 L] 25)).heap[w2.heap.size]? = some (.cells #[.int .u64 H, .int .u64 L] 25 (0, 0)) := heap_alloc_new w2 _
    have hgs : w2.heap.size < (w2.alloc (.cells #[.int .u64 H, .int .u64 L] 25)).heap.size := by simp
    have HC := Lib.hid (show (w2.alloc (.cells #[.int .u64 H, .int .u64 L] 25)).cell? ⟨w2.heap.size, 0, none⟩ = some (.int .u64 H) ∧ (w2.alloc (.cells #[.int .u64 H, .int .u64 L] 25)).cell? ⟨w2.heap.size, 1, none⟩ = some (.int .u64 L) from
      ⟨by rw [cell_of_row _ _ 0 _ _ _ hB]; rfl, by rw [cell_of_row _ _ 1 _ _ _ hB]; rfl⟩)
    clear hb1 hb2 hB
    go_wp2_with fail
    generalize w2.alloc (.cells #[.int .u64 H, .int .u64 L] 25) = x2 at *
    generalize w2.heap.size = g at *
    refine (refParse6_any a0 _ (by omega)).mono ?_
    rw [HZ.out]
    rintro e x3 ⟨rfl, hb3⟩
    have hc3 : Below w.heap.size w x3 := hc2.trans (hb3.mono hc2.size)
    have k0 : x3.cell? ⟨g, 0, none⟩ = some (.int .u64 H) := (hb3.cell (p := ⟨g, 0, none⟩) hgs).trans HC.out.1
    have k1 : x3.cell? ⟨g, 1, none⟩ = some (.int .u64 L) := (hb3.cell (p := ⟨g, 1, none⟩) hgs).trans HC.out.2
    clear hb3 hc2
    cases b
    all_goals
      go_wp2
      go_ret
      exact ⟨by first | rfl | exact ret_bool (by simp), hc3⟩
end Go.Proofs.YtgmfgcpfpopboaaDoor
