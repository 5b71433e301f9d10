/-
  The law PercentReads: its Go text returns true at every text, and nothing that lay in memory before is changed.
-/
import Derived.Test.YtbkjhdinlnpglaaPctF
namespace Go.Proofs.Ytbkjhdinlnpglaa
open Go.RowKit

set_option maxRecDepth 100000 in
set_option maxHeartbeats 2000000 in
theorem percentReads_walk (a0 : ByteArray) (w0 : a0.size ≤ maxLen) (w : World) :
    Calls Try.prog 9 #[.string a0] w fun e w' => e = .returned (.bool true) ∧ Below w.heap.size w w' := by
  unfold maxLen at w0
  by_cases hlen : a0.size ≤ 2000
  · have hs : a0.size ≤ 1073741824 := by omega
    go_enter Try.func9, Try.ntmps9
    go_wp2_with fail
    refine (awake02_any _).mono ?_
    rintro e x1 ⟨rfl, hb1⟩
    go_wp2_with fail
    refine (decode_any _ _ hs).mono ?_
    rintro e x2 ⟨rfl, hb2⟩
    have hc2 : Below w.heap.size w x2 := hb1.trans (hb2.mono hb1.size)
    clear hb1 hb2
    go_wp2_with fail
    refine (refDecode_any _ _ hs).mono ?_
    rintro e x3 ⟨rfl, hb3⟩
    have hc3 : Below w.heap.size w x3 := hc2.trans (hb3.mono hc2.size)
    clear hc2 hb3
    go_wp2_with fail
    refine (right_any _ _ hs).mono ?_
    rintro e x4 ⟨rfl, q, rfl⟩
    have hc4 := below_drewN hc3 q
    generalize x3.drewN q = x4 at *
    clear hc3
    go_wp2_with fail
    refine (refRight_any _ _ hs).mono ?_
    rintro e x' ⟨rfl, rfl⟩
    go_wp2
    go_ret
    exact ⟨by first | rfl | exact ret_bool (by simp), hc4⟩
  · go_enter Try.func9, Try.ntmps9
    go_wp2_with fail
    refine (awake02_any _).mono ?_
    rintro e x1 ⟨rfl, hb1⟩
    go_wp2
    go_ret
    exact ⟨rfl, hb1⟩
end Go.Proofs.Ytbkjhdinlnpglaa
