/-
  Layer 2: the reference's In.
-/
import Derived.Test.YtaojjkknmaldiaaPctA
namespace Go.Proofs.Ytaojjkknmaldiaa
open Go.RowKit


theorem has_int (s : ByteArray) (n : Int) (w : World) (hs : s.size ≤ 1073741824) (h0 : 0 ≤ n) (h1 : n < 256) :
    Calls Try.prog 33 #[.string s, .int .u8 n] w fun e w' => e = .returned (.bool (hasB s.data.toList n.toNat.toUInt8)) ∧ w = w' := by
  have h := has_any s n.toNat.toUInt8 w hs
  rw [u8_of n h0 h1, Int.toNat_of_nonneg h0] at h
  exact h

end Go.Proofs.Ytaojjkknmaldiaa
