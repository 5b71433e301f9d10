/-
  Layer 5: the reference's Parse.
-/
import Derived.Test.YtgmfgcpfpopboaaGreatDoorSixH
namespace Go.Proofs.YtgmfgcpfpopboaaGreatDoor
open Go.RowKit


theorem ccAt_none' {l : List UInt8} (h : ccAt l = none) : ∀ k, ¬ isCC l k := by
  induction l with
  | nil => intro k hk; exact absurd hk.1 (by simp)
  | cons a r ih =>
    unfold ccAt at h
    split at h
    · cases h
    · rename_i hc
      have hr : ccAt r = none := by cases hr : ccAt r with | none => rfl | some j => rw [hr] at h; cases h
      intro k hk
      cases k with
      | zero => exact hc ⟨by simpa using hk.1, by simpa [List.head?_eq_getElem?] using hk.2⟩
      | succ k => exact ih hr k ⟨by simpa using hk.1, by simpa using hk.2⟩
theorem ccAt_some' {l : List UInt8} : ∀ {k : Nat}, ccAt l = some k → isCC l k ∧ ∀ j, j < k → ¬ isCC l j := by
  induction l with
  | nil => intro k h; cases h
  | cons a r ih =>
    intro k h
    unfold ccAt at h
    split at h
    · rename_i hc
      cases h
      exact ⟨⟨by simp [hc.1], by simpa [List.head?_eq_getElem?] using hc.2⟩, fun j hj => by omega⟩
    · rename_i hc
      cases hr : ccAt r with
      | none => rw [hr] at h; cases h
      | some j0 =>
        rw [hr] at h
        cases h
        obtain ⟨h1, h2⟩ := ih hr
        refine ⟨⟨by simpa using h1.1, by simpa using h1.2⟩, fun j hj hk => ?_⟩
        cases j with
        | zero => exact hc ⟨by simpa using hk.1, by simpa [List.head?_eq_getElem?] using hk.2⟩
        | succ j => exact h2 j (by have hj2 : j + 1 < j0 + 1 := hj; omega) ⟨by simpa using hk.1, by simpa using hk.2⟩
theorem isCC_of (s : ByteArray) (k : Nat) (h : k + 1 < s.size) (h0 : s[k].toNat = 58) (h1 : s[k + 1].toNat = 58) : isCC s.data.toList k := by
  refine ⟨?_, ?_⟩
  · rw [bytes_at s k (by omega)]; exact congrArg some (UInt8.toNat_inj.1 h0)
  · rw [bytes_at s (k + 1) h]; exact congrArg some (UInt8.toNat_inj.1 h1)
theorem isCC_to (s : ByteArray) (k : Nat) (hk : isCC s.data.toList k) : ∃ (h : k + 1 < s.size), s[k].toNat = 58 ∧ s[k + 1].toNat = 58 := by
  have h : k + 1 < s.size := by
    have := (List.getElem?_eq_some_iff.1 hk.2).1
    rwa [size_list] at this
  refine ⟨h, ?_, ?_⟩
  · have := hk.1; rw [bytes_at s k (by omega)] at this; rw [Option.some.inj this]; rfl
  · have := hk.2; rw [bytes_at s (k + 1) h] at this; rw [Option.some.inj this]; rfl

def RetSix3 (w : World) (x : (Int × Int) × Bool) (e : Ending) (w' : World) : Prop := e = .returned (.tuple #[.int .u64 x.1.1, .int .u64 x.1.2, .bool x.2]) ∧ Below w.heap.size w w'
theorem retSix3_no {w w' : World} {l : List UInt8} (h : sixL l = ([], false)) (hb : Below w.heap.size w w') : RetSix3 w (sixZ l) (.returned (.tuple #[.int .u64 0, .int .u64 0, .bool false])) w' := by
  unfold sixZ; rw [h]; exact ⟨rfl, hb⟩
theorem retSix3_yes {w w' : World} {l : List UInt8} {T : List Int} (h : sixL l = (T, true)) (hb : Below w.heap.size w w') : RetSix3 w (sixZ l) (.returned (.tuple #[.int .u64 (hi4 T), .int .u64 (lo4 T), .bool true])) w' := by
  unfold sixZ; rw [h]; exact ⟨rfl, hb⟩

end Go.Proofs.YtgmfgcpfpopboaaGreatDoor
