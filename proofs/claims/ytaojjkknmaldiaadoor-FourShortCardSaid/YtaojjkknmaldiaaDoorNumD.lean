/-
  Layer 3: the reference's Decimal; digitsAlone.
-/
import Derived.Test.YtaojjkknmaldiaaDoorNumC
namespace Go.Proofs.YtaojjkknmaldiaaDoor
open Go.RowKit


def aloneB (l : List UInt8) : Bool := !l.isEmpty && digsB 10 l
theorem aloneB_no {l : List UInt8} (h : digsB 10 l = false) : aloneB l = false := by unfold aloneB; rw [h]; simp
theorem aloneB_yes {s : ByteArray} (hn : s.size ≠ 0) (h : digsB 10 s.data.toList = true) : aloneB s.data.toList = true := by
  unfold aloneB; rw [h]
  cases hd : s.data.toList with
  | nil => exact absurd hd (ne_of_size s hn)
  | cons a l => rfl

def RetBool (w : World) (b : Bool) (e : Ending) (w' : World) : Prop := e = .returned (.bool b) ∧ Below w.heap.size w w'
theorem retBool_of {w w' : World} {x b : Bool} (h : x = b) (hb : Below w.heap.size w w') : RetBool w x (.returned (.bool b)) w' := by
  subst h; exact ⟨rfl, hb⟩

set_option maxRecDepth 100000 in
set_option maxHeartbeats 2000000 in
theorem alone_any (s : ByteArray) (w : World) (hs : s.size ≤ 1073741824) :
    Calls Tryd.prog 26 #[.string s] w (RetBool w (aloneB s.data.toList)) := by
  by_cases hn : s.size = 0
  · obtain rfl := empty_of_size s hn
    have HF : Hid (aloneB (ByteArray.mk #[]).data.toList = false) := rfl
    clear hn hs
    go_enter Tryd.func26, Tryd.ntmps26
    go_wp2
    go_loopw [] (fun wr => wr.heap[w.heap.size]? = some (.stringIter ⟨#[]⟩ 0) ∧ Below w.heap.size w wr) (fun _ => 0)
    case atStart => exact ⟨World.iter_heap w ⟨#[]⟩ 0, (Below.refl _ w).alloc (Nat.le_refl _) _⟩
    case round =>
      obtain ⟨hit, hbw⟩ := hrel
      have hnx : ∀ ty, (Instr.next (.pointer (some ⟨w.heap.size, 0, none⟩)) true ty).run Tryd.prog wr = _ := fun ty => Lib.run_next_end_at wr w.heap.size ⟨#[]⟩ 0 ty hit (by decide)
      go_wp2
      go_ret
      exact retBool_of HF.out hbw
  · have HNO := Lib.hid (aloneB_no (l := s.data.toList))
    have HYES := Lib.hid (aloneB_yes hn)
    have hse := not_isEmpty s hn
    clear hn
    go_enter Tryd.func26, Tryd.ntmps26
    go_wp2
    go_loopw [] (fun wr => ∃ (k : Nat), k ≤ s.size ∧ wr.heap[w.heap.size]? = some (.stringIter s k) ∧ Below w.heap.size w wr ∧ w.heap.size + 1 ≤ wr.heap.size ∧ Hid (digsB 10 (s.data.toList.take k) = true)) (fun wr => s.size - wr.iterPos w.heap.size)
    case atStart => exact ⟨0, Nat.zero_le _, World.iter_heap w s 0, (Below.refl _ w).alloc (Nat.le_refl _) _, by simp [World.iter], rfl⟩
    case round =>
      obtain ⟨k, hk, hit, hbw, hsz, HDG⟩ := hrel
      by_cases hp : k < s.size
      · obtain ⟨c, hc⟩ : ∃ c, (s[k]'hp).toNat = c := ⟨_, rfl⟩
        have hnx : ∀ ty, (Instr.next (.pointer (some ⟨w.heap.size, 0, none⟩)) true ty).run Tryd.prog wr = _ := fun ty => Lib.run_next_any_at wr w.heap.size s k ty hit hp
        by_cases hc128 : c < 128
        · have hdec := decode_ascii s k hp (by omega)
          rw [hc] at hdec
          rw [hdec] at hnx
          have hit2 := Lib.iterAt_heap wr w.heap.size s k (k + 1) hit
          have hbw2 := Lib.below_iterAt hbw (k := w.heap.size) (Nat.le_refl _) s (k + 1)
          have hsz2 : w.heap.size + 1 ≤ (wr.iterAt w.heap.size s (k + 1)).heap.size := by rw [Lib.iterAt_size]; exact hsz
          simp only at hnx
          generalize wr.iterAt w.heap.size s (k + 1) = wi at *
          have HIT := Lib.hid hit
          have HC := Lib.hid hc
          clear hit hc hdec
          cases hdg : digitB (c : Int) with
          | false =>
            have HF := Lib.hid (HNO.out (digsB_no 10 s k hp (by rw [digit_c, HC.out]; exact hdg)))
            go_wp2_with (go_at_call 24; refine (digit_any _ _).mono ?_; rintro e w' ⟨rfl, rfl⟩)
            go_ret
            exact retBool_of HF.out hbw2
          | true =>
            have HF := Lib.hid (digsB_ok 10 s k hp HDG.out (by rw [digit_c, HC.out]; exact hdg))
            go_wp2_with (go_at_call 24; refine (digit_any _ _).mono ?_; rintro e w' ⟨rfl, rfl⟩)
            go_roundw
            case rel => exact ⟨k + 1, by omega, hit2, hbw2, hsz2, HF⟩
            case measure =>
              simp only [World.iterPos, hit2, HIT.out]
              omega
        · have hh := decode_high s k hp (by omega)
          obtain ⟨r, hr⟩ : ∃ r, (Utf8.decode s k).1 = r := ⟨_, rfl⟩
          obtain ⟨wd, hwd⟩ : ∃ r, (Utf8.decode s k).2 = r := ⟨_, rfl⟩
          have hrl := decode_le s k
          rw [hr, hwd] at hnx
          rw [hr, hwd] at hh
          rw [hr] at hrl
          have hbw2 := Lib.below_iterAt hbw (k := w.heap.size) (Nat.le_refl _) s (k + wd)
          generalize wr.iterAt w.heap.size s (k + wd) = wi at *
          have hv : digitB (r : Int) = false := digitB_high _ (by omega)
          have HF := Lib.hid (HNO.out (digsB_no 10 s k hp (by rw [digit_c]; exact digitB_high _ (by omega))))
          clear hc hr hwd
          go_wp2_with (go_at_call 24; refine (digit_any _ _).mono ?_; rintro e w' ⟨rfl, rfl⟩)
          go_ret
          exact retBool_of HF.out hbw2
      · have hnx : ∀ ty, (Instr.next (.pointer (some ⟨w.heap.size, 0, none⟩)) true ty).run Tryd.prog wr = _ := fun ty => Lib.run_next_end_at wr w.heap.size s k ty hit hp
        have hdt := HDG.out
        rw [take_all s k hp] at hdt
        have HF := Lib.hid (HYES.out hdt)
        clear hdt
        go_wp2
        go_ret
        exact retBool_of HF.out hbw
end Go.Proofs.YtaojjkknmaldiaaDoor
