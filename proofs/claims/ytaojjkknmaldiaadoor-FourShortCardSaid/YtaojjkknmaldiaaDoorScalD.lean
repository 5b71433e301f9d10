/-
  Layer 1: the reference's next, walked: it tells what the model's own decoding of UTF-8 tells.
-/
import Derived.Test.YtaojjkknmaldiaaDoorScalC
namespace Go.Proofs.YtaojjkknmaldiaaDoor
open Go.RowKit


theorem ret_rn {a c : Int} {b d : Int} (h : a = c) (g : b = d) : Ending.returned (.tuple #[.int .i32 a, .int .i64 b]) = .returned (.tuple #[.int .i32 c, .int .i64 d]) := by rw [h, g]

def NextPost (s : ByteArray) (i : Nat) (w : World) (e : Ending) (w' : World) : Prop :=
  e = .returned (.tuple #[.int .i32 ((Utf8.decode s i).1 : Int), .int .i64 ((Utf8.decode s i).2 : Int)]) ∧ w = w'

theorem nextPost_of {s : ByteArray} {i : Nat} {w : World} {e : Ending} {a b : Int} (r n : Nat) (he : e = .returned (.tuple #[.int .i32 a, .int .i64 b])) (h : Utf8.decode s i = (r, n)) (ha : a = r) (hb : b = n) : NextPost s i w e w := by
  refine ⟨?_, rfl⟩
  rw [he, h, ha, hb]

theorem accN_le (s : ByteArray) (i r0 : Nat) (h : r0 < 32) : ∀ k, k ≤ 3 → accN s i r0 k < 8388608
  | 0, _ => by simp [accN]; omega
  | 1, _ => by simp only [accN]; omega
  | 2, _ => by simp only [accN]; omega
  | 3, _ => by simp only [accN]; omega
  | k + 4, h => by omega

end Go.Proofs.YtaojjkknmaldiaaDoor
