/-
  The law ScalarWrites: its Go text returns true at every slice of numbers, and nothing that lay in memory before is changed.
-/
import Derived.Test.YtbkjhdinlnpglaaScalH
namespace Go.Proofs.Ytbkjhdinlnpglaa
open Go.RowKit

set_option maxRecDepth 100000 in
set_option maxHeartbeats 1000000 in
theorem scalarWrites_walk (a0 : Option Addr) (len0 cap0 : Nat) (z0 : List Int) (w : World) (w0 : IsRow .i32 w a0 len0 cap0 z0) :
    Calls Try.prog 4 #[.slice a0 len0 cap0] w fun e w' => e = .returned (.bool true) ∧ Below w.heap.size w w' := by
  have hr := w0.rowR
  have hru := w0.runes
  have hle := w0.len_eq
  generalize z0.take len0 = l at *
  have hlm : len0 ≤ maxLen := by
    rcases w0 with ⟨_, rfl, _, _⟩ | ⟨_, _, h1, h2, _⟩
    · exact Nat.zero_le _
    · omega
  unfold maxLen at hlm
  have HLE := Lib.hid hle
  have HR := Lib.hid hr
  clear hle hr w0
  by_cases hlen : len0 ≤ 1000
  · have hl : l.length ≤ 268435456 := by rw [HLE.out]; omega
    go_enter Try.func4, Try.ntmps4
    go_wp2_with fail
    refine (awake_any _).mono ?_
    rintro e w1 ⟨rfl, hb1⟩
    have HR1 := Lib.hid (HR.out.below hb1)
    go_wp2_with fail
    refine (text_any _ l _ HR1.out hl hru).mono ?_
    rintro e w2 ⟨rfl, hb2⟩
    have HR2 := Lib.hid (HR1.out.below hb2)
    go_wp2_with fail
    refine (refText_any _ l _ HR2.out hl).mono ?_
    rintro e w3 ⟨rfl, hb3⟩
    have hb13 : Below w.heap.size w w3 := hb1.trans ((hb2.mono hb1.size).trans (hb3.mono (Nat.le_trans hb1.size hb2.size)))
    clear hb1 hb2 hb3
    go_wp2
    go_ret
    exact ⟨by first | rfl | exact ret_bool (by simp), hb13⟩
  · go_enter Try.func4, Try.ntmps4
    go_wp2_with fail
    refine (awake_any _).mono ?_
    rintro e w1 ⟨rfl, hb1⟩
    go_wp2
    go_ret
    exact ⟨rfl, hb1⟩
end Go.Proofs.Ytbkjhdinlnpglaa
