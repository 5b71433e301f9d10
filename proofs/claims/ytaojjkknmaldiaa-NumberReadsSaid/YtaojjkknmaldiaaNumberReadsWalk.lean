/-
  The law NumberReads: its Go text returns true at every text and every number, and nothing that lay in memory before is changed.
-/
import Derived.Test.YtaojjkknmaldiaaNumG
import Derived.Test.YtaojjkknmaldiaaNumH
namespace Go.Proofs.Ytaojjkknmaldiaa
open Go.RowKit


set_option maxRecDepth 100000 in
set_option maxHeartbeats 2000000 in
theorem numberReads_walk (a0 : ByteArray) (a1 : Int) (w0 : a0.size ≤ maxLen) (w1 : (Lit.int .i64 a1).wf = true) (w : World) :
    Calls Try.prog 3 #[.string a0, .int .i64 a1] w fun e w' => e = .returned (.bool true) ∧ Below w.heap.size w w' := by
  unfold maxLen at w0
  have hm := bounds_i64 w1
  obtain ⟨hm0, hm1⟩ := hm
  clear w1
  by_cases hlen : a0.size ≤ 500
  · have hs : a0.size ≤ 1073741824 := by omega
    go_enter Try.func3, Try.ntmps3
    go_wp2_with fail
    refine (awake03_any _).mono ?_
    rintro e x1 ⟨rfl, hb1⟩
    go_wp2_with fail
    refine (parse_any _ _ hs).mono ?_
    rintro e x2 ⟨rfl, hb2⟩
    have hc2 : Below w.heap.size w x2 := hb1.trans (hb2.mono hb1.size)
    clear hb1 hb2
    go_wp2_with fail
    refine (refParse_any _ _ hs).mono ?_
    rintro e x3 ⟨rfl, hb3⟩
    have hc3 : Below w.heap.size w x3 := hc2.trans (hb3.mono hc2.size)
    clear hc2 hb3
    go_wp2_with fail
    refine (decimal_any _ _ _ hs hm1 hm0).mono ?_
    rintro e x4 ⟨rfl, hb4⟩
    have hc4 : Below w.heap.size w x4 := hc3.trans (hb4.mono hc3.size)
    clear hc3 hb4
    go_wp2_with fail
    refine (refDecimal_any _ _ _ hs hm1 hm0).mono ?_
    rintro e x5 ⟨rfl, hb5⟩
    have hc5 : Below w.heap.size w x5 := hc4.trans (hb5.mono hc4.size)
    clear hc4 hb5
    generalize parseZ a0.data.toList = pz
    generalize decZ a0.data.toList a1 = dz
    obtain ⟨p1, p2⟩ := pz
    obtain ⟨d1, d2⟩ := dz
    go_wp2_with fail
    refine (ends_any _ _ hs).mono ?_
    rintro e x6 ⟨rfl, hb6⟩
    have hc6 : Below w.heap.size w x6 := hc5.trans (hb6.mono hc5.size)
    clear hc5 hb6
    go_wp2_with fail
    refine (refEnds_any _ _ hs).mono ?_
    rintro e x7 ⟨rfl, hb7⟩
    have hc7 : Below w.heap.size w x7 := hc6.trans (hb7.mono hc6.size)
    clear hc6 hb7
    go_wp2
    go_ret
    exact ⟨by first | rfl | exact ret_bool (by simp), hc7⟩
  · go_enter Try.func3, Try.ntmps3
    go_wp2_with fail
    refine (awake03_any _).mono ?_
    rintro e x1 ⟨rfl, hb1⟩
    go_wp2
    go_ret
    exact ⟨rfl, hb1⟩
end Go.Proofs.Ytaojjkknmaldiaa
