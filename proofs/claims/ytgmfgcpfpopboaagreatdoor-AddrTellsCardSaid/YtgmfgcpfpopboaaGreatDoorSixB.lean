/-
  Layer 5: a piece, the program's and the reference's.
-/
import Derived.Test.YtgmfgcpfpopboaaGreatDoorSixA
namespace Go.Proofs.YtgmfgcpfpopboaaGreatDoor
open Go.RowKit


theorem u16_join (x y : Int) (hx0 : 0 ≤ x) (hx : x ≤ 4095) (hy0 : 0 ≤ y) (hy : y < 16) : bits .or .u16 (x * 16) y = x * 16 + y :=
  bits_join .u16 16 (by decide) (fun n h0 h1 => by rw [IntKind.wrap_u16]; omega) 4 (x * 16) y (by omega) (by omega) (by omega) hy0 (by omega) (by omega)

def RetPiece (w : World) (x : Int × Bool) (e : Ending) (w' : World) : Prop := e = .returned (.tuple #[.int .u16 x.1, .bool x.2]) ∧ Below w.heap.size w w'
theorem retPiece_of {w w' : World} {x : Int × Bool} {n : Int} {b : Bool} (h : x = (n, b)) (hb : Below w.heap.size w w') : RetPiece w x (.returned (.tuple #[.int .u16 n, .bool b])) w' := by
  subst h; exact ⟨rfl, hb⟩

set_option maxRecDepth 100000 in
set_option maxHeartbeats 2000000 in
theorem readPiece_any (s : ByteArray) (w : World) (hs : s.size ≤ 1073741824) :
    Calls Tryz.prog 52 #[.string s] w (RetPiece w (pieceZ s.data.toList)) := by
  by_cases hn : s.size = 0
  · obtain rfl := empty_of_size s hn
    clear hn hs
    have HF : Hid (pieceZ (ByteArray.mk #[]).data.toList = (0, false)) := rfl
    go_enter Tryz.func52, Tryz.ntmps52
    go_wp2
    go_ret2
    exact retPiece_of HF.out (Below.refl _ _)
  · have hse := not_isEmpty s hn
    by_cases h4 : 4 < s.size
    · have HF := Lib.hid (pieceZ_out (l := s.data.toList) (.inr (by rw [size_list]; exact h4)))
      clear hn
      go_enter Tryz.func52, Tryz.ntmps52
      go_wp2
      go_ret2
      exact retPiece_of HF.out (Below.refl _ _)
    · have HNO := Lib.hid (pieceZ_no (l := s.data.toList))
      have HYES := Lib.hid (pieceZ_yes (l := s.data.toList) (by rw [size_list]; omega))
      clear hn
      go_enter Tryz.func52, Tryz.ntmps52
      go_wp2
      go_loopw [4] (fun n wr => ∃ (k : Nat) (A : Int), n = .int .u16 A ∧ k ≤ s.size ∧ wr.heap[w.heap.size]? = some (.stringIter s k) ∧ Below w.heap.size w wr ∧ w.heap.size + 1 ≤ wr.heap.size ∧ Hid (A = valP 16 (s.data.toList.take k)) ∧ Hid (digsB 16 (s.data.toList.take k) = true)) (fun _ wr => s.size - wr.iterPos w.heap.size)
      case atStart => exact ⟨0, 0, rfl, Nat.zero_le _, World.iter_heap w s 0, (Below.refl _ w).alloc (Nat.le_refl _) _, by simp [World.iter], rfl, rfl⟩
      case round =>
        obtain ⟨k, A, rfl, hk, hit, hbw, hsz, HA, HDG⟩ := hrel
        by_cases hp : k < s.size
        · obtain ⟨c, hc⟩ : ∃ c, (s[k]'hp).toNat = c := ⟨_, rfl⟩
          have hnx : ∀ ty, (Instr.next (.pointer (some ⟨w.heap.size, 0, none⟩)) true ty).run Tryz.prog wr = _ := fun ty => Lib.run_next_any_at wr w.heap.size s k ty hit hp
          have hAb := valP_small _ HDG.out (by rw [List.length_take]; omega)
          rw [← HA.out] at hAb
          obtain ⟨hA0, hA1⟩ := hAb
          by_cases hc128 : c < 128
          · have hdec := decode_ascii s k hp (by omega)
            rw [hc] at hdec
            rw [hdec] at hnx
            have hit2 := Lib.iterAt_heap wr w.heap.size s k (k + 1) hit
            have hbw2 := Lib.below_iterAt hbw (k := w.heap.size) (Nat.le_refl _) s (k + 1)
            have hsz2 : w.heap.size + 1 ≤ (wr.iterAt w.heap.size s (k + 1)).heap.size := by rw [Lib.iterAt_size]; exact hsz
            simp only at hnx
            generalize wr.iterAt w.heap.size s (k + 1) = wi at *
            obtain ⟨v, hv⟩ : ∃ v, valZ (c : Int) = v := ⟨_, rfl⟩
            have hv16 : v < 16 := by rw [← hv]; exact valZ_top _
            have HV : Hid (valZ (s[k].toNat : Int) = v) := by show valZ (s[k].toNat : Int) = v; rw [hc]; exact hv
            have HIT := Lib.hid hit
            have HC := Lib.hid hc
            clear hit hc hdec
            by_cases h0 : v < 0
            · have HF := Lib.hid (HNO.out (digsB_no 16 s k hp (digC_false HV.out (.inl h0))))
              go_wp2_with (go_at_call 50; refine (value_any _ _).mono ?_; rintro e w' ⟨rfl, rfl⟩)
              go_ret2
              exact retPiece_of HF.out hbw2
            · have HF := Lib.hid (digsB_ok 16 s k hp HDG.out (digC_true HV.out (by omega) (by omega)))
              have hsn := valP_snoc 16 s k hp
              rw [← HA.out, HV.out] at hsn
              have HSN := Lib.hid hsn
              clear hsn
              have hor := u16_join A v hA0 hA1 (by omega) hv16
              go_wp2_with (go_at_call 50; refine (value_any _ _).mono ?_; rintro e w' ⟨rfl, rfl⟩)
              go_roundw
              case rel => exact ⟨k + 1, _, rfl, by omega, hit2, hbw2, hsz2, HSN.out.symm, HF⟩
              case measure =>
                simp only [World.iterPos, hit2, HIT.out]
                omega
          · have hh := decode_high s k hp (by omega)
            obtain ⟨r, hr⟩ : ∃ r, (Utf8.decode s k).1 = r := ⟨_, rfl⟩
            obtain ⟨wd, hwd⟩ : ∃ r, (Utf8.decode s k).2 = r := ⟨_, rfl⟩
            have hrl := decode_le s k
            rw [hr, hwd] at hnx
            rw [hr, hwd] at hh
            rw [hr] at hrl
            have hbw2 := Lib.below_iterAt hbw (k := w.heap.size) (Nat.le_refl _) s (k + wd)
            generalize wr.iterAt w.heap.size s (k + wd) = wi at *
            have hv : valZ (r : Int) = -1 := valZ_high _ (by omega)
            have HF := Lib.hid (HNO.out (digsB_no 16 s k hp (digC_false (valZ_high _ (by omega)) (.inl (by omega)))))
            clear hc hr hwd
            go_wp2_with (go_at_call 50; refine (value_any _ _).mono ?_; rintro e w' ⟨rfl, rfl⟩)
            go_ret2
            exact retPiece_of HF.out hbw2
        · have hnx : ∀ ty, (Instr.next (.pointer (some ⟨w.heap.size, 0, none⟩)) true ty).run Tryz.prog wr = _ := fun ty => Lib.run_next_end_at wr w.heap.size s k ty hit hp
          have hdt := HDG.out
          rw [take_all s k hp] at hdt
          have hat := HA.out
          rw [take_all s k hp] at hat
          have HF := Lib.hid (HYES.out hdt)
          have HAT := Lib.hid hat
          clear hdt hat
          go_wp2
          go_ret2
          exact retPiece_of (by rw [HF.out, HAT.out]) hbw

/-- the reference's piece: a number, or -1 -/
def pieceI (l : List UInt8) : Int := if (pieceZ l).2 = true then (pieceZ l).1 else -1
theorem pieceI_no {l : List UInt8} {x : Int} (h : pieceZ l = (x, false)) : pieceI l = -1 := by unfold pieceI; rw [h]; rfl
theorem pieceI_yes {l : List UInt8} {x : Int} (h : pieceZ l = (x, true)) : pieceI l = x := by unfold pieceI; rw [h]; rfl

end Go.Proofs.YtgmfgcpfpopboaaGreatDoor
