/-
  The law PercentWrites: its Go text returns true at every set, text, number and byte, and nothing that lay in memory before is changed.
-/
import Derived.Test.YtbkjhdinlnpglaaPctF
namespace Go.Proofs.Ytbkjhdinlnpglaa
open Go.RowKit

set_option maxRecDepth 100000 in
set_option maxHeartbeats 2000000 in
theorem percentWrites_walk (a0 : Int) (a1 : ByteArray) (a2 : Int) (a3 : Int) (w0 : (Lit.int .u8 a0).wf = true) (w1 : a1.size ≤ maxLen) (_w2 : (Lit.int .i32 a2).wf = true) (w3 : (Lit.int .u8 a3).wf = true) (w : World) :
    Calls Try.prog 8 #[.int .u8 a0, .string a1, .int .i32 a2, .int .u8 a3] w fun e w' => e = .returned (.bool true) ∧ Below w.heap.size w w' := by
  unfold maxLen at w1
  have hs := bounds_u8 w0
  have hc := bounds_u8 w3
  obtain ⟨c, hcc⟩ : ∃ c : UInt8, (c.toNat : Int) = a3 := ⟨a3.toNat.toUInt8, by rw [u8_of a3 (by omega) (by omega)]; omega⟩
  subst hcc
  obtain ⟨h0, h1⟩ := hs
  clear w0 w3 hc
  by_cases hlen : a1.size ≤ 2000
  · go_enter Try.func8, Try.ntmps8
    go_wp2_with fail
    refine (awake02_any _).mono ?_
    rintro e x1 ⟨rfl, hb1⟩
    go_wp2_with fail
    refine (in_any _ _ _ h0).mono ?_
    rintro e x' ⟨rfl, rfl⟩
    go_wp2_with fail
    refine (refIn_any _ _ _ h0).mono ?_
    rintro e x' ⟨rfl, rfl⟩
    go_wp2_with fail
    refine (encode_any _ _ _ h0 (by omega)).mono ?_
    rintro e x2 ⟨rfl, hb2⟩
    have hc2 : Below w.heap.size w x2 := hb1.trans (hb2.mono hb1.size)
    clear hb1 hb2
    go_wp2_with fail
    refine (refEncode_any _ _ _ h0 (by omega)).mono ?_
    rintro e x3 ⟨rfl, hb3⟩
    have hc3 : Below w.heap.size w x3 := hc2.trans (hb3.mono hc2.size)
    clear hc2 hb3
    go_wp2_with fail
    refine (byte_any _ _).mono ?_
    rintro e x4 ⟨rfl, hb4⟩
    have hc4 : Below w.heap.size w x4 := hc3.trans (hb4.mono hc3.size)
    clear hc3 hb4
    go_wp2_with fail
    refine (refByte_any _ _).mono ?_
    rintro e x' ⟨rfl, rfl⟩
    go_wp2
    go_ret
    exact ⟨by first | rfl | exact ret_bool (by simp), hc4⟩
  · go_enter Try.func8, Try.ntmps8
    go_wp2_with fail
    refine (awake02_any _).mono ?_
    rintro e x1 ⟨rfl, hb1⟩
    go_wp2
    go_ret
    exact ⟨rfl, hb1⟩
end Go.Proofs.Ytbkjhdinlnpglaa
