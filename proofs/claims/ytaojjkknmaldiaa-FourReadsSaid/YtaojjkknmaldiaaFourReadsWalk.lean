/-
  The law FourReads: its Go text returns true at every text, and nothing that lay in memory before is changed.
-/
import Derived.Test.YtaojjkknmaldiaaFourE
import Derived.Test.YtaojjkknmaldiaaFourG
import Derived.Test.YtaojjkknmaldiaaFourH
namespace Go.Proofs.Ytaojjkknmaldiaa
open Go.RowKit


set_option maxRecDepth 100000 in
set_option maxHeartbeats 2000000 in
theorem fourReads_walk (a0 : ByteArray) (w0 : a0.size ≤ maxLen) (w : World) :
    Calls Try.prog 5 #[.string a0] w fun e w' => e = .returned (.bool true) ∧ Below w.heap.size w w' := by
  unfold maxLen at w0
  by_cases hlen : a0.size ≤ 500
  · have hs : a0.size ≤ 1073741824 := by omega
    go_enter Try.func5, Try.ntmps5
    go_wp2_with fail
    refine (awake04_any _).mono ?_
    rintro e x1 ⟨rfl, hb1⟩
    go_wp2_with fail
    refine (parse4_any _ _ hs).mono ?_
    rintro e x2 ⟨rfl, hb2⟩
    have hc2 : Below w.heap.size w x2 := hb1.trans (hb2.mono hb1.size)
    clear hb1 hb2
    go_wp2_with fail
    refine (refParse4_any _ _ hs).mono ?_
    rintro e x3 ⟨rfl, hb3⟩
    have hc3 : Below w.heap.size w x3 := hc2.trans (hb3.mono hc2.size)
    clear hc2 hb3
    go_wp2_with fail
    refine (strict_any _ _ hs).mono ?_
    rintro e x4 ⟨rfl, hb4⟩
    have hc4 : Below w.heap.size w x4 := hc3.trans (hb4.mono hc3.size)
    clear hc3 hb4
    go_wp2_with fail
    refine (refStrict_any _ _ hs).mono ?_
    rintro e x5 ⟨rfl, hb5⟩
    have hc5 : Below w.heap.size w x5 := hc4.trans (hb5.mono hc4.size)
    clear hc4 hb5
    generalize fourZ a0.data.toList = pz
    generalize strictZ a0.data.toList = dz
    obtain ⟨p1, p2⟩ := pz
    obtain ⟨d1, d2⟩ := dz
    go_wp2
    go_ret
    exact ⟨by first | rfl | exact ret_bool (by simp), hc5⟩
  · go_enter Try.func5, Try.ntmps5
    go_wp2_with fail
    refine (awake04_any _).mono ?_
    rintro e x1 ⟨rfl, hb1⟩
    go_wp2
    go_ret
    exact ⟨rfl, hb1⟩
end Go.Proofs.Ytaojjkknmaldiaa
