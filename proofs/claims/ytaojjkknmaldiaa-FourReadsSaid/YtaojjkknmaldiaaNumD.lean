/-
  Layer 3: the reference's Decimal; digitsAlone.
-/
import Derived.Test.YtaojjkknmaldiaaNumC
namespace Go.Proofs.Ytaojjkknmaldiaa
open Go.RowKit


set_option maxRecDepth 100000 in
set_option maxHeartbeats 2000000 in
theorem refDecimal_some (s : ByteArray) (m : Int) (w : World) (hs : s.size ≤ 1073741824) (hm : m ≤ 9223372036854775807) (hm0 : -9223372036854775808 ≤ m) (hn : 1 ≤ s.size) (hz : ¬ (1 < s.size ∧ s[0].toNat = 48)) (hd : digsB 10 s.data.toList = true) :
    Calls Try.prog 10 #[.string s, .int .i64 m] w (RetInt w (decZ s.data.toList m)) := by
  have HBIG := Lib.hid (decZ_big s.data.toList m)
  have HYES := Lib.hid (decZ_yes s.data.toList m (ne_of_size s (by omega)) (by rw [size_list, head_byte s (by omega)]; exact hz) hd)
  have HD := Lib.hid hd
  have l0 : 0 < s.size := by omega
  have hnb : ((s.size : Int) == 0) = false := beq_eq_false_iff_ne.2 (by omega)
  obtain ⟨a, ha⟩ : ∃ a, s[0].toNat = a := ⟨_, rfl⟩
  rw [ha] at hz
  rcases (show s.size ≤ 1 ∨ (1 < s.size ∧ ((a : Int) == 48) = false) from by
      by_cases h1 : 1 < s.size
      · exact .inr ⟨h1, beq_eq_false_iff_ne.2 (fun e => hz ⟨h1, by omega⟩)⟩
      · exact .inl (by omega)) with h1 | ⟨h1, hb1⟩
  all_goals
    clear hz hd
    go_enter Try.func10, Try.ntmps10
    go_wp2_with fail
    refine (refDigits_any s 10 _ hs).mono ?_
    rw [HD.out]
    rintro e w' ⟨rfl, rfl⟩
    go_wp2
    go_loop [6, 7] (fun n i => ∃ (k : Nat) (A : Int), k ≤ s.size ∧ i = .int .i64 k ∧ n = .int .i64 A ∧ 0 ≤ A ∧ A ≤ 9223372036854775807 ∧ Hid (A = decN (s.data.toList.take k))) (fun _ i => s.size - (intOf i).toNat)
    case atStart => exact ⟨0, 0, Nat.zero_le _, rfl, rfl, by omega, by omega, rfl⟩
    case round =>
      obtain ⟨k, A, hk, rfl, rfl, hA0, hA1, HA⟩ := hrel
      by_cases hp : k < s.size
      · obtain ⟨c, hc⟩ : ∃ c, (s[k]'hp).toNat = c := ⟨_, rfl⟩
        have hdk := digs_at 10 s k hp HD.out
        have hdg : digitB (c : Int) = true := by rw [digitB_val, ← hc]; exact decide_eq_true hdk
        obtain ⟨hc1, hc2⟩ := digitB_in hdg
        have hv : valZ (c : Int) = (c : Int) - 48 := valZ_digit hc1 hc2
        have hsn := decN_snoc s k hp
        rw [← HA.out, hc, hv] at hsn
        have HSN := Lib.hid hsn
        clear hsn hdk hdg hv
        by_cases hg : (9223372036854775807 - ((c : Int) - 48)) / 10 < A
        · have HB := Lib.hid (HBIG.out (k + 1) (by rw [HSN.out]; omega))
          go_wp2
          go_ret2
          exact retInt_of HB.out (Below.refl _ _)
        · go_wp2
          go_round
          case rel => exact ⟨k + 1, 10 * A + ((c : Int) - 48), by omega, by go_num, rfl, by omega, by omega, (by show _ = _; rw [HSN.out]; omega)⟩
          case measure => simp [intOf]; omega
      · have hat := HA.out
        rw [take_all s k hp] at hat
        by_cases hg : m < A
        · have HB := Lib.hid (HBIG.out k (by rw [← HA.out]; exact hg))
          go_wp2
          go_ret2
          exact retInt_of HB.out (Below.refl _ _)
        · have HF := Lib.hid (HYES.out (by rw [← hat]; omega))
          have HAT := Lib.hid hat
          clear hat
          go_wp2
          go_ret2
          exact retInt_of (by rw [HF.out, HAT.out]) (Below.refl _ _)

set_option maxRecDepth 100000 in
set_option maxHeartbeats 2000000 in
theorem refDecimal_any (s : ByteArray) (m : Int) (w : World) (hs : s.size ≤ 1073741824) (hm : m ≤ 9223372036854775807) (hm0 : -9223372036854775808 ≤ m) :
    Calls Try.prog 10 #[.string s, .int .i64 m] w (RetInt w (decZ s.data.toList m)) := by
  by_cases hn : s.size = 0
  · obtain rfl := empty_of_size s hn
    have HF := Lib.hid (decZ_form (ByteArray.mk #[]).data.toList m (.inl rfl))
    clear hn hs
    go_enter Try.func10, Try.ntmps10
    go_wp2
    go_ret2
    exact retInt_of HF.out (Below.refl _ _)
  · have hnb : ((s.size : Int) == 0) = false := beq_eq_false_iff_ne.2 (by omega)
    cases hd : digsB 10 s.data.toList with
    | false =>
      have HF := Lib.hid (decZ_dig s.data.toList m hd)
      have HD := Lib.hid hd
      clear hd
      go_enter Try.func10, Try.ntmps10
      go_wp2_with fail
      refine (refDigits_any s 10 _ hs).mono ?_
      rw [HD.out]
      rintro e w' ⟨rfl, rfl⟩
      go_wp2
      go_ret2
      exact retInt_of HF.out (Below.refl _ _)
    | true =>
      by_cases hz : 1 < s.size ∧ s[0].toNat = 48
      · obtain ⟨h1, h0⟩ := hz
        have HF := Lib.hid (decZ_form s.data.toList m (.inr ⟨by rw [size_list]; exact h1, by rw [head_byte s (by omega)]; exact h0⟩))
        have l0 : 0 < s.size := by omega
        have HD := Lib.hid hd
        clear hd
        go_enter Try.func10, Try.ntmps10
        go_wp2_with fail
        refine (refDigits_any s 10 _ hs).mono ?_
        rw [HD.out]
        rintro e w' ⟨rfl, rfl⟩
        go_wp2
        go_ret2
        exact retInt_of HF.out (Below.refl _ _)
      · exact refDecimal_some s m w hs hm hm0 (by omega) hz hd

def aloneB (l : List UInt8) : Bool := !l.isEmpty && digsB 10 l
theorem aloneB_no {l : List UInt8} (h : digsB 10 l = false) : aloneB l = false := by unfold aloneB; rw [h]; simp
theorem aloneB_yes {s : ByteArray} (hn : s.size ≠ 0) (h : digsB 10 s.data.toList = true) : aloneB s.data.toList = true := by
  unfold aloneB; rw [h]
  cases hd : s.data.toList with
  | nil => exact absurd hd (ne_of_size s hn)
  | cons a l => rfl

def RetBool (w : World) (b : Bool) (e : Ending) (w' : World) : Prop := e = .returned (.bool b) ∧ Below w.heap.size w w'
theorem retBool_of {w w' : World} {x b : Bool} (h : x = b) (hb : Below w.heap.size w w') : RetBool w x (.returned (.bool b)) w' := by
  subst h; exact ⟨rfl, hb⟩

set_option maxRecDepth 100000 in
set_option maxHeartbeats 2000000 in
theorem alone_any (s : ByteArray) (w : World) (hs : s.size ≤ 1073741824) :
    Calls Try.prog 25 #[.string s] w (RetBool w (aloneB s.data.toList)) := by
  by_cases hn : s.size = 0
  · obtain rfl := empty_of_size s hn
    have HF : Hid (aloneB (ByteArray.mk #[]).data.toList = false) := rfl
    clear hn hs
    go_enter Try.func25, Try.ntmps25
    go_wp2
    go_loopw [] (fun wr => wr.heap[w.heap.size]? = some (.stringIter ⟨#[]⟩ 0) ∧ Below w.heap.size w wr) (fun _ => 0)
    case atStart => exact ⟨World.iter_heap w ⟨#[]⟩ 0, (Below.refl _ w).alloc (Nat.le_refl _) _⟩
    case round =>
      obtain ⟨hit, hbw⟩ := hrel
      have hnx : ∀ ty, (Instr.next (.pointer (some ⟨w.heap.size, 0, none⟩)) true ty).run Try.prog wr = _ := fun ty => Lib.run_next_end_at wr w.heap.size ⟨#[]⟩ 0 ty hit (by decide)
      go_wp2
      go_ret
      exact retBool_of HF.out hbw
  · have HNO := Lib.hid (aloneB_no (l := s.data.toList))
    have HYES := Lib.hid (aloneB_yes hn)
    have hse := not_isEmpty s hn
    clear hn
    go_enter Try.func25, Try.ntmps25
    go_wp2
    go_loopw [] (fun wr => ∃ (k : Nat), k ≤ s.size ∧ wr.heap[w.heap.size]? = some (.stringIter s k) ∧ Below w.heap.size w wr ∧ w.heap.size + 1 ≤ wr.heap.size ∧ Hid (digsB 10 (s.data.toList.take k) = true)) (fun wr => s.size - wr.iterPos w.heap.size)
    case atStart => exact ⟨0, Nat.zero_le _, World.iter_heap w s 0, (Below.refl _ w).alloc (Nat.le_refl _) _, by simp [World.iter], rfl⟩
    case round =>
      obtain ⟨k, hk, hit, hbw, hsz, HDG⟩ := hrel
      by_cases hp : k < s.size
      · obtain ⟨c, hc⟩ : ∃ c, (s[k]'hp).toNat = c := ⟨_, rfl⟩
        have hnx : ∀ ty, (Instr.next (.pointer (some ⟨w.heap.size, 0, none⟩)) true ty).run Try.prog wr = _ := fun ty => Lib.run_next_any_at wr w.heap.size s k ty hit hp
        by_cases hc128 : c < 128
        · have hdec := decode_ascii s k hp (by omega)
          rw [hc] at hdec
          rw [hdec] at hnx
          have hit2 := Lib.iterAt_heap wr w.heap.size s k (k + 1) hit
          have hbw2 := Lib.below_iterAt hbw (k := w.heap.size) (Nat.le_refl _) s (k + 1)
          have hsz2 : w.heap.size + 1 ≤ (wr.iterAt w.heap.size s (k + 1)).heap.size := by rw [Lib.iterAt_size]; exact hsz
          simp only at hnx
          generalize wr.iterAt w.heap.size s (k + 1) = wi at *
          have HIT := Lib.hid hit
          have HC := Lib.hid hc
          clear hit hc hdec
          cases hdg : digitB (c : Int) with
          | false =>
            have HF := Lib.hid (HNO.out (digsB_no 10 s k hp (by rw [digit_c, HC.out]; exact hdg)))
            go_wp2_with (go_at_call 23; refine (digit_any _ _).mono ?_; rintro e w' ⟨rfl, rfl⟩)
            go_ret
            exact retBool_of HF.out hbw2
          | true =>
            have HF := Lib.hid (digsB_ok 10 s k hp HDG.out (by rw [digit_c, HC.out]; exact hdg))
            go_wp2_with (go_at_call 23; refine (digit_any _ _).mono ?_; rintro e w' ⟨rfl, rfl⟩)
            go_roundw
            case rel => exact ⟨k + 1, by omega, hit2, hbw2, hsz2, HF⟩
            case measure =>
              simp only [World.iterPos, hit2, HIT.out]
              omega
        · have hh := decode_high s k hp (by omega)
          obtain ⟨r, hr⟩ : ∃ r, (Utf8.decode s k).1 = r := ⟨_, rfl⟩
          obtain ⟨wd, hwd⟩ : ∃ r, (Utf8.decode s k).2 = r := ⟨_, rfl⟩
          have hrl := decode_le s k
          rw [hr, hwd] at hnx
          rw [hr, hwd] at hh
          rw [hr] at hrl
          have hbw2 := Lib.below_iterAt hbw (k := w.heap.size) (Nat.le_refl _) s (k + wd)
          generalize wr.iterAt w.heap.size s (k + wd) = wi at *
          have hv : digitB (r : Int) = false := digitB_high _ (by omega)
          have HF := Lib.hid (HNO.out (digsB_no 10 s k hp (by rw [digit_c]; exact digitB_high _ (by omega))))
          clear hc hr hwd
          go_wp2_with (go_at_call 23; refine (digit_any _ _).mono ?_; rintro e w' ⟨rfl, rfl⟩)
          go_ret
          exact retBool_of HF.out hbw2
      · have hnx : ∀ ty, (Instr.next (.pointer (some ⟨w.heap.size, 0, none⟩)) true ty).run Try.prog wr = _ := fun ty => Lib.run_next_end_at wr w.heap.size s k ty hit hp
        have hdt := HDG.out
        rw [take_all s k hp] at hdt
        have HF := Lib.hid (HYES.out hdt)
        clear hdt
        go_wp2
        go_ret
        exact retBool_of HF.out hbw
end Go.Proofs.Ytaojjkknmaldiaa
