/-
  The law AddrNone: its Go text returns true, where the library's tables read as they are laid; nothing that lay in memory before is changed.
-/
import Derived.Test.YtgmfgcpfpopboaaDoorAddI
import Derived.Test.YtgmfgcpfpopboaaDoorSixN
namespace Go.Proofs.YtgmfgcpfpopboaaDoor
open Go.RowKit


set_option maxRecDepth 100000 in
set_option maxHeartbeats 4000000 in
theorem addrNone_walk (w : World) (hbru : BruTab w) (hmax : MaxVar w) :
    Calls Tryd.prog 8 #[] w fun e w' => e = .returned (.bool true) ∧ Below w.heap.size w w' := by
  have HT := Lib.hid hbru
  have HX := Lib.hid hmax
  clear hbru hmax
  go_enter Tryd.func8, Tryd.ntmps8
  go_wp2_with fail
  refine (fourA_nil _).mono ?_
  rintro e x0 ⟨rfl, rfl⟩
  go_wp2_with fail
  refine (awake06_any _ HT.out HX.out).mono ?_
  rintro e x1 ⟨rfl, hb1⟩
  go_wp2_with fail
  refine (panics_nil _).mono ?_
  rintro e x2 ⟨rfl, hb2⟩
  have hc2 : Below w.heap.size w x2 := hb1.trans (hb2.mono hb1.size)
  clear hb2 hb1
  go_wp2_with fail
  refine (inner_nil _).mono ?_
  rintro e x3 ⟨v3, rfl, hn3, hb3⟩
  have hc3 : Below w.heap.size w x3 := hc2.trans (hb3.mono hc2.size)
  obtain ⟨a3, c3, rfl⟩ : ∃ a c, v3 = .slice a 0 c := Nums.none (t := 60) (k := .u32) hn3
  clear hb3 hc2 hn3
  go_wp2_with fail
  refine (compare_nn _).mono ?_
  rintro e x4 ⟨rfl, rfl⟩
  go_wp2_with fail
  refine (compare_n4 0 _).mono ?_
  rintro e x5 ⟨rfl, rfl⟩
  go_wp2_with fail
  refine (compare_6n 0 0 _).mono ?_
  rintro e x6 ⟨rfl, rfl⟩
  go_wp2
  go_ret
  exact ⟨rfl, hc3⟩
end Go.Proofs.YtgmfgcpfpopboaaDoor
