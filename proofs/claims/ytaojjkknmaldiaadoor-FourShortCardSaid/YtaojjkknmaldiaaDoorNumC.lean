/-
  Layer 3: Decimal, the program's and the reference's, both tell decZ.
-/
import Derived.Test.YtaojjkknmaldiaaDoorNumB
namespace Go.Proofs.YtaojjkknmaldiaaDoor
open Go.RowKit


def decN (l : List UInt8) : Int := l.foldl (fun n c => n * 10 + valZ (c.toNat : Int)) 0
def decZ (l : List UInt8) (m : Int) : Int × Bool :=
  if (l.isEmpty || (decide (1 < l.length) && decide ((l.getD 0 0).toNat = 48)) || !digsB 10 l) = true then (0, false) else if m < decN l then (0, false) else (decN l, true)

theorem decN_snoc (s : ByteArray) (k : Nat) (h : k < s.size) : decN (s.data.toList.take (k + 1)) = decN (s.data.toList.take k) * 10 + valZ (s[k].toNat : Int) := by
  rw [take_bytes s k h]; simp [decN]

theorem decN_mono (l : List UInt8) : ∀ a : Int, 0 ≤ a → digsB 10 l = true → a ≤ l.foldl (fun n c => n * 10 + valZ (c.toNat : Int)) a := by
  induction l with
  | nil => intro a _ _; exact Int.le_refl _
  | cons c l ih =>
    intro a ha hd
    have h1 : digC 10 c = true ∧ digsB 10 l = true := by simpa [digsB] using hd
    have h2 := of_decide_eq_true h1.1
    have := ih (a * 10 + valZ (c.toNat : Int)) (by omega) h1.2
    exact Int.le_trans (by omega) this
theorem decN_nonneg (l : List UInt8) (hd : digsB 10 l = true) : 0 ≤ decN l := decN_mono l 0 (Int.le_refl _) hd

theorem digs_split (b : Int) (l : List UInt8) (k : Nat) : digsB b l = (digsB b (l.take k) && digsB b (l.drop k)) := by
  unfold digsB
  rw [← List.all_append, List.take_append_drop]
theorem decN_take_le (l : List UInt8) (k : Nat) (hd : digsB 10 l = true) : decN (l.take k) ≤ decN l := by
  have h := digs_split 10 l k
  rw [hd] at h
  have h2 : digsB 10 (l.take k) = true ∧ digsB 10 (l.drop k) = true := by simpa using h.symm
  have e : decN l = (l.drop k).foldl (fun n c => n * 10 + valZ (c.toNat : Int)) (decN (l.take k)) := by
    unfold decN
    rw [← List.foldl_append, List.take_append_drop]
  rw [e]
  exact decN_mono _ _ (decN_nonneg _ h2.1) h2.2

theorem decZ_form (l : List UInt8) (m : Int) (h : l = [] ∨ (1 < l.length ∧ (l.getD 0 0).toNat = 48)) : decZ l m = (0, false) := by
  unfold decZ
  rw [if_pos]
  rcases h with rfl | ⟨h1, h2⟩
  · rfl
  · rw [decide_eq_true h1, decide_eq_true h2]; simp
theorem decZ_dig (l : List UInt8) (m : Int) (h : digsB 10 l = false) : decZ l m = (0, false) := by
  unfold decZ
  rw [if_pos (by rw [h]; simp)]
theorem decZ_big (l : List UInt8) (m : Int) (k : Nat) (h : m < decN (l.take k)) : decZ l m = (0, false) := by
  by_cases hd : digsB 10 l = true
  · unfold decZ
    split
    · rfl
    · rw [if_pos]
      have := decN_take_le l k hd
      omega
  · exact decZ_dig l m (by simpa using hd)
theorem decZ_yes (l : List UInt8) (m : Int) (h0 : l ≠ []) (h1 : ¬ (1 < l.length ∧ (l.getD 0 0).toNat = 48)) (hd : digsB 10 l = true) (hm : decN l ≤ m) : decZ l m = (decN l, true) := by
  unfold decZ
  rw [if_neg, if_neg (by omega)]
  rw [hd]
  cases l with
  | nil => exact absurd rfl h0
  | cons a r =>
    by_cases e1 : 1 < (a :: r).length
    · rw [decide_eq_true e1, decide_eq_false (fun e => h1 ⟨e1, e⟩)]; simp
    · rw [decide_eq_false e1]; simp

theorem head_byte (s : ByteArray) (h : 0 < s.size) : (s.data.toList.getD 0 0).toNat = s[0].toNat := by
  rw [List.getD, bytes_at s 0 h]; rfl

theorem digitB_val (r : Int) : digitB r = decide (0 ≤ valZ r ∧ valZ r < 10) := by
  unfold digitB valZ
  by_cases h : 48 ≤ r ∧ r ≤ 57
  · rw [if_pos h, decide_eq_true h, decide_eq_true (by omega)]
  · rw [if_neg h, decide_eq_false h]
    refine (decide_eq_false ?_).symm
    repeat' split
    all_goals omega
theorem digit_c (c : UInt8) : digC 10 c = digitB (c.toNat : Int) := (digitB_val _).symm
theorem digitB_in {r : Int} (h : digitB r = true) : 48 ≤ r ∧ r ≤ 57 := of_decide_eq_true h
theorem valZ_digit {r : Int} (h1 : 48 ≤ r) (h2 : r ≤ 57) : valZ r = r - 48 := if_pos ⟨h1, h2⟩
theorem digitB_high (r : Int) (h : 128 ≤ r) : digitB r = false := decide_eq_false (by omega)

def RetInt (w : World) (x : Int × Bool) (e : Ending) (w' : World) : Prop := e = .returned (.tuple #[.int .i64 x.1, .bool x.2]) ∧ Below w.heap.size w w'
theorem retInt_of {w w' : World} {x : Int × Bool} {n : Int} {b : Bool} (h : x = (n, b)) (hb : Below w.heap.size w w') : RetInt w x (.returned (.tuple #[.int .i64 n, .bool b])) w' := by
  subst h; exact ⟨rfl, hb⟩

set_option maxRecDepth 100000 in
set_option maxHeartbeats 2000000 in
theorem decimal_some (s : ByteArray) (m : Int) (w : World) (hs : s.size ≤ 1073741824) (hm : m ≤ 9223372036854775807) (hm0 : -9223372036854775808 ≤ m) (hn : 1 ≤ s.size) (hz : ¬ (1 < s.size ∧ s[0].toNat = 48)) :
    Calls Tryd.prog 10 #[.string s, .int .i64 m] w (RetInt w (decZ s.data.toList m)) := by
  have HNO := Lib.hid (decZ_dig s.data.toList m)
  have HBIG := Lib.hid (decZ_big s.data.toList m)
  have HYES := Lib.hid (decZ_yes s.data.toList m (ne_of_size s (by omega)) (by rw [size_list, head_byte s (by omega)]; exact hz))
  have hse := not_isEmpty s (by omega)
  have l0 : 0 < s.size := by omega
  obtain ⟨a, ha⟩ : ∃ a, s[0].toNat = a := ⟨_, rfl⟩
  rw [ha] at hz
  rcases (show s.size ≤ 1 ∨ (1 < s.size ∧ ((a : Int) == 48) = false) from by
      by_cases h1 : 1 < s.size
      · exact .inr ⟨h1, beq_eq_false_iff_ne.2 (fun e => hz ⟨h1, by omega⟩)⟩
      · exact .inl (by omega)) with h1 | ⟨h1, hb1⟩
  all_goals
    clear hz
    go_enter Tryd.func10, Tryd.ntmps10
    go_wp2
    go_loopw [6] (fun n wr => ∃ (k : Nat) (A : Int), n = .int .i64 A ∧ 0 ≤ A ∧ (A = 0 ∨ A ≤ m) ∧ k ≤ s.size ∧ wr.heap[w.heap.size]? = some (.stringIter s k) ∧ Below w.heap.size w wr ∧ w.heap.size + 1 ≤ wr.heap.size ∧ Hid (A = decN (s.data.toList.take k)) ∧ Hid (digsB 10 (s.data.toList.take k) = true) ∧ Hid (1 ≤ k → A ≤ m)) (fun _ wr => s.size - wr.iterPos w.heap.size)
    case atStart => exact ⟨0, 0, rfl, by omega, .inl rfl, Nat.zero_le _, World.iter_heap w s 0, (Below.refl _ w).alloc (Nat.le_refl _) _, by simp [World.iter], rfl, rfl, fun h => absurd h (by omega)⟩
    case round =>
      obtain ⟨k, A, rfl, hA0, hA1, hk, hit, hbw, hsz, HA, HDG, HK⟩ := hrel
      have hA2 : A ≤ 9223372036854775807 := by omega
      clear hA1
      by_cases hp : k < s.size
      · obtain ⟨c, hc⟩ : ∃ c, (s[k]'hp).toNat = c := ⟨_, rfl⟩
        have hnx : ∀ ty, (Instr.next (.pointer (some ⟨w.heap.size, 0, none⟩)) true ty).run Tryd.prog wr = _ := fun ty => Lib.run_next_any_at wr w.heap.size s k ty hit hp
        by_cases hc128 : c < 128
        · have hdec := decode_ascii s k hp (by omega)
          rw [hc] at hdec
          rw [hdec] at hnx
          have hit2 := Lib.iterAt_heap wr w.heap.size s k (k + 1) hit
          have hbw2 := Lib.below_iterAt hbw (k := w.heap.size) (Nat.le_refl _) s (k + 1)
          have hsz2 : w.heap.size + 1 ≤ (wr.iterAt w.heap.size s (k + 1)).heap.size := by rw [Lib.iterAt_size]; exact hsz
          simp only at hnx
          generalize wr.iterAt w.heap.size s (k + 1) = wi at *
          have HIT := Lib.hid hit
          have HC := Lib.hid hc
          clear hit hc hdec
          cases hdg : digitB (c : Int) with
          | false =>
            have HF := Lib.hid (HNO.out (digsB_no 10 s k hp (by rw [digit_c, HC.out]; exact hdg)))
            go_wp2_with (go_at_call 24; refine (digit_any _ _).mono ?_; rintro e w' ⟨rfl, rfl⟩)
            go_ret2
            exact retInt_of HF.out hbw2
          | true =>
            obtain ⟨hc1, hc2⟩ := digitB_in hdg
            have hv : valZ (c : Int) = (c : Int) - 48 := valZ_digit hc1 hc2
            have HF := Lib.hid (digsB_ok 10 s k hp HDG.out (by rw [digit_c, HC.out]; exact hdg))
            have hsn := decN_snoc s k hp
            rw [← HA.out, HC.out, hv] at hsn
            have HSN := Lib.hid hsn
            clear hsn
            obtain ⟨v, hvv⟩ : ∃ v : Int, (c : Int) - 48 = v := ⟨_, rfl⟩
            have hv0 : 0 ≤ v := by omega
            have hv9 : v ≤ 9 := by omega
            rw [hvv] at hv
            have HVV := Lib.hid hvv
            clear hvv
            by_cases hg : m < A * 10 + v
            · have HB := Lib.hid (HBIG.out (k + 1) (by rw [HSN.out, HVV.out]; exact hg))
              by_cases hg1 : m < v
              · go_wp2_with (first | (go_at_call 24; refine (digit_any _ _).mono ?_; rintro e w' ⟨rfl, rfl⟩) | (go_at_call 23; refine (value_any _ _).mono ?_; rintro e w' ⟨rfl, rfl⟩))
                go_ret2
                exact retInt_of HB.out hbw2
              · have hg2 : (m - v) / 10 < A := by omega
                go_wp2_with (first | (go_at_call 24; refine (digit_any _ _).mono ?_; rintro e w' ⟨rfl, rfl⟩) | (go_at_call 23; refine (value_any _ _).mono ?_; rintro e w' ⟨rfl, rfl⟩))
                go_ret2
                exact retInt_of HB.out hbw2
            · have hg1 : ¬ m < v := by omega
              have hg2 : ¬ (m - v) / 10 < A := by omega
              go_wp2_with (first | (go_at_call 24; refine (digit_any _ _).mono ?_; rintro e w' ⟨rfl, rfl⟩) | (go_at_call 23; refine (value_any _ _).mono ?_; rintro e w' ⟨rfl, rfl⟩))
              go_roundw
              case rel => exact ⟨k + 1, A * 10 + v, rfl, by omega, by omega, by omega, hit2, hbw2, hsz2, (by show _ = _; rw [HSN.out, HVV.out]), HF, fun _ => by omega⟩
              case measure =>
                simp only [World.iterPos, hit2, HIT.out]
                omega
        · have hh := decode_high s k hp (by omega)
          obtain ⟨r, hr⟩ : ∃ r, (Utf8.decode s k).1 = r := ⟨_, rfl⟩
          obtain ⟨wd, hwd⟩ : ∃ r, (Utf8.decode s k).2 = r := ⟨_, rfl⟩
          have hrl := decode_le s k
          rw [hr, hwd] at hnx
          rw [hr, hwd] at hh
          rw [hr] at hrl
          have hbw2 := Lib.below_iterAt hbw (k := w.heap.size) (Nat.le_refl _) s (k + wd)
          generalize wr.iterAt w.heap.size s (k + wd) = wi at *
          have hv : digitB (r : Int) = false := digitB_high _ (by omega)
          have HF := Lib.hid (HNO.out (digsB_no 10 s k hp (by rw [digit_c]; exact digitB_high _ (by omega))))
          clear hc hr hwd
          go_wp2_with (go_at_call 24; refine (digit_any _ _).mono ?_; rintro e w' ⟨rfl, rfl⟩)
          go_ret2
          exact retInt_of HF.out hbw2
      · have hnx : ∀ ty, (Instr.next (.pointer (some ⟨w.heap.size, 0, none⟩)) true ty).run Tryd.prog wr = _ := fun ty => Lib.run_next_end_at wr w.heap.size s k ty hit hp
        have hdt := HDG.out
        rw [take_all s k hp] at hdt
        have hat := HA.out
        rw [take_all s k hp] at hat
        have HF := Lib.hid (HYES.out hdt (by rw [← hat]; exact HK.out (by omega)))
        have HAT := Lib.hid hat
        clear hdt hat
        go_wp2
        go_ret2
        exact retInt_of (by rw [HF.out, HAT.out]) hbw

set_option maxRecDepth 100000 in
set_option maxHeartbeats 2000000 in
theorem decimal_any (s : ByteArray) (m : Int) (w : World) (hs : s.size ≤ 1073741824) (hm : m ≤ 9223372036854775807) (hm0 : -9223372036854775808 ≤ m) :
    Calls Tryd.prog 10 #[.string s, .int .i64 m] w (RetInt w (decZ s.data.toList m)) := by
  by_cases hn : s.size = 0
  · obtain rfl := empty_of_size s hn
    have HF := Lib.hid (decZ_form (ByteArray.mk #[]).data.toList m (.inl rfl))
    clear hn hs
    go_enter Tryd.func10, Tryd.ntmps10
    go_wp2
    go_ret2
    exact retInt_of HF.out (Below.refl _ _)
  · by_cases hz : 1 < s.size ∧ s[0].toNat = 48
    · obtain ⟨h1, h0⟩ := hz
      have HF := Lib.hid (decZ_form s.data.toList m (.inr ⟨by rw [size_list]; exact h1, by rw [head_byte s (by omega)]; exact h0⟩))
      have hse := not_isEmpty s hn
      have l0 : 0 < s.size := by omega
      go_enter Tryd.func10, Tryd.ntmps10
      go_wp2
      go_ret2
      exact retInt_of HF.out (Below.refl _ _)
    · exact decimal_some s m w hs hm hm0 (by omega) hz
end Go.Proofs.YtaojjkknmaldiaaDoor
