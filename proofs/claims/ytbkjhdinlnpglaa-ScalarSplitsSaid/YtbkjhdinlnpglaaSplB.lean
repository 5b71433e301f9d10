/-
  Layer 1: strings.ContainsAny of a text that has none of the signs, whatever its bytes are; how many parts Split tells, and how long they are.
-/
import Derived.Test.YtbkjhdinlnpglaaSplA
namespace Go.Proofs.Ytbkjhdinlnpglaa
open Go.RowKit

theorem decode_isB (s : ByteArray) (p : Nat) : isB ((Utf8.decode s p).1 : Int) = true := by
  have hb0 := byteN_lt s p
  have hb1 := byteN_lt s (p + 1)
  rw [decode_eq]
  split
  · exact decide_eq_true (by simp only; omega)
  · split
    · split
      · exact decide_eq_true (by simp only; omega)
      · decide
    · split
      · split
        · rename_i h; exact h.2
        · decide
      · split
        · split
          · rename_i h; exact h.2
          · decide
        · decide

set_option maxRecDepth 100000 in
set_option maxHeartbeats 2000000 in
theorem indexAny_short (s ch : ByteArray) (w : World) (h8 : s.size ≤ 8) (h2 : 2 ≤ ch.size) (hcz : ch.size ≤ 1000) (ha : Asc ch) (hno : ∀ k (h : k < s.size), hasB ch.data.toList s[k] = false) :
    Calls Try.prog 58 #[.string s, .string ch] w fun e w' => e = .returned (.int .i64 (-1)) ∧ Below w.heap.size w w' := by
  have HA := Lib.hid ha
  have HNO := Lib.hid hno
  clear ha hno
  have he : ch.toList.isEmpty = false := by
    rw [Lib.toList_data]
    cases hl : ch.data.toList with
    | nil => have := size_list ch; rw [hl] at this; simp at this; omega
    | cons _ _ => rfl
  have hc1 : ((ch.size : Int) == 1) = false := beq_eq_false_iff_ne.2 (by omega)
  have hd8 : decide ((8 : Int) < (s.size : Int)) = false := decide_eq_false (by omega)
  go_enter Try.func58, Try.ntmps58
  go_wp2_with (go_at_call 73; refine ((Try.strings_shouldUseASCIISet _ _).mono fun _ _ h => (⟨h.1, h.2.symm⟩ : _ ∧ _)).mono ?_; rintro e w' ⟨rfl, rfl⟩)
  go_loopw [] (fun wr => ∃ pos : Nat, wr.heap[w.heap.size]? = some (.stringIter s pos) ∧ Below w.heap.size w wr) (fun wr => s.size - wr.iterPos w.heap.size)
  case atStart => exact ⟨0, World.iter_heap w s 0, (Below.refl _ _).alloc (Nat.le_refl _) _⟩
  case round =>
    obtain ⟨pos, hit, hbw⟩ := hrel
    have hsz : w.heap.size < wr.heap.size := (Array.getElem?_eq_some_iff.1 hit).1
    have HWP : Hid (wr.iterPos w.heap.size = pos) := by
      show wr.iterPos w.heap.size = pos
      simp only [World.iterPos, hit]
    by_cases hp : pos < s.size
    · have hwd := width_pos s pos hp
      have hnx : ∀ ty, (Instr.next (.pointer (some ⟨w.heap.size, 0, none⟩)) true ty).run Try.prog wr = _ := fun ty => Lib.run_next_any_at wr w.heap.size s pos ty hit hp
      have hit2 := Lib.iterAt_heap wr w.heap.size s pos (pos + (Utf8.decode s pos).2) hit
      have hbw2 := Lib.below_iterAt hbw (k := w.heap.size) (Nat.le_refl _) s (pos + (Utf8.decode s pos).2)
      have hsz2 : w.heap.size < (wr.iterAt w.heap.size s (pos + (Utf8.decode s pos).2)).heap.size := by rw [Lib.iterAt_size]; exact hsz
      generalize wr.iterAt w.heap.size s (pos + (Utf8.decode s pos).2) = wi at *
      have key : Calls Try.prog 72 #[.string ch, .int .i32 ((Utf8.decode s pos).1 : Int)] wi fun e w' => e = .returned (.int .i64 (-1)) ∧ Below wi.heap.size wi w' := by
        by_cases hlow : (s[pos]'hp).toNat < 128
        · rw [decode_ascii s pos hp hlow]
          refine (Try.strings_IndexRune_ascii ch _ wi (by simp only; omega) (by simp only; omega)).mono ?_
          rintro e w' ⟨rfl, rfl⟩
          have h3 := (hasB_index ch.data.toList (s[pos]'hp)).2 (HNO.out pos hp)
          simp only [u8_back]
          rw [h3]
          exact ⟨rfl, Below.refl _ _⟩
        · exact indexRune_asc ch HA.out _ wi (by have := (decode_high s pos hp (by omega)).1; omega) (decode_isB s pos)
      have KEY := Lib.hid key
      clear key
      generalize hr : ((Utf8.decode s pos).1 : Int) = r at *
      clear hr
      go_wp2_with fail
      refine KEY.out.mono ?_
      rintro e w3 ⟨rfl, hb3⟩
      have hit3 := (hb3.block w.heap.size hsz2).trans hit2
      have hbw3 : Below w.heap.size w w3 := hbw2.trans (hb3.mono (by omega))
      go_wp2
      go_roundw
      case rel => exact ⟨pos + (Utf8.decode s pos).2, hit3, hbw3⟩
      case measure =>
        rw [HWP.out]
        simp only [World.iterPos, hit3]
        omega
    · have hnx : ∀ ty, (Instr.next (.pointer (some ⟨w.heap.size, 0, none⟩)) true ty).run Try.prog wr = _ := fun ty => Lib.run_next_end_at wr w.heap.size s pos ty hit hp
      go_wp2
      go_ret
      exact ⟨rfl, hbw⟩

theorem indexAny_neg : ∀ (l ch : List UInt8), (∀ c ∈ l, hasB ch c = false) → Lib.indexAny l ch = -1
  | [], _, _ => rfl
  | b :: l, ch, h => by
    have hb := h b (List.mem_cons_self ..)
    have hc : ch.contains b = false := by
      rw [← hb]
      unfold hasB
      rw [Bool.eq_iff_iff]
      simp
    unfold Lib.indexAny
    rw [hc, indexAny_neg l ch (fun c hc => h c (List.mem_cons_of_mem _ hc))]
    rfl

theorem indexAny_any (s : ByteArray) (w : World) (hz : s.size ≤ 1000000) (hno : ∀ k (h : k < s.size), hasB [9, 13, 10] s[k] = false) :
    Calls Try.prog 58 #[.string s, .string ⟨#[9, 13, 10]⟩] w fun e w' => e = .returned (.int .i64 (-1)) ∧ Below w.heap.size w w' := by
  have hasc : Asc ⟨#[9, 13, 10]⟩ := by
    intro k hk
    have key : ∀ k : Fin 3, ((ByteArray.mk #[9, 13, 10])[k.val]'k.isLt).toNat < 128 := by decide
    exact key ⟨k, hk⟩
  by_cases h8 : s.size ≤ 8
  · exact indexAny_short s _ w h8 (by decide) (by decide) hasc hno
  · refine (Try.strings_IndexAny_long (fun w => (Try.zeroValue79 w).trans (by kernel_rfl)) s ⟨#[9, 13, 10]⟩ w (by decide) (by omega) (by omega) (by decide) (fun j b hj => ?_)).mono ?_
    · have hj3 : j < 3 := by have := (List.getElem?_eq_some_iff.1 hj).1; simpa using this
      have key : ∀ j : Fin 3, ∀ b, ([9, 13, 10] : List UInt8)[j.val]? = some b → b.toNat < 128 := by decide
      exact key ⟨j, hj3⟩ b hj
    · rintro e w' ⟨rfl, rfl⟩
      have h3 : Lib.indexAny s.data.toList (ByteArray.mk #[9, 13, 10]).data.toList = -1 := by
        refine indexAny_neg _ _ (fun c hc => ?_)
        obtain ⟨k, hk, rfl⟩ := List.getElem_of_mem hc
        exact hno k (by simpa using hk)
      rw [h3]
      exact ⟨rfl, ((Below.refl _ _).alloc (Nat.le_refl _) _).alloc (by simp) _⟩

set_option maxRecDepth 100000 in
set_option maxHeartbeats 2000000 in
theorem containsAny_any (s : ByteArray) (w : World) (hz : s.size ≤ 1000000) (hno : ∀ k (h : k < s.size), hasB [9, 13, 10] s[k] = false) :
    Calls Try.prog 37 #[.string s, .string ⟨#[9, 13, 10]⟩] w fun e w' => e = .returned (.bool false) ∧ Below w.heap.size w w' := by
  have HNO := Lib.hid hno
  clear hno
  go_enter Try.func37, Try.ntmps37
  go_wp2_with fail
  refine (indexAny_any s _ hz HNO.out).mono ?_
  rintro e w1 ⟨rfl, hb⟩
  go_wp2
  go_ret
  exact ⟨rfl, hb⟩

/-! ### how many parts, and how long -/
def sumLen (ps : List (List UInt8)) : Nat := (ps.map List.length).sum
theorem sumLen_snoc (ps : List (List UInt8)) (l : List UInt8) : sumLen (ps ++ [l]) = sumLen ps + l.length := by simp [sumLen]

theorem spl_inv (p : UInt8 → Bool) (l : List UInt8) : ∀ (st : List (List UInt8) × List UInt8), (∀ q ∈ st.1, ∀ c ∈ q, p c = false) → (∀ c ∈ st.2, p c = false) →
    (l.foldl (splStep p) st).1.length = st.1.length + l.countP p ∧ sumLen (l.foldl (splStep p) st).1 + (l.foldl (splStep p) st).2.length + l.countP p = sumLen st.1 + st.2.length + l.length ∧
      (∀ q ∈ (l.foldl (splStep p) st).1, ∀ c ∈ q, p c = false) ∧ ∀ c ∈ (l.foldl (splStep p) st).2, p c = false := by
  induction l with
  | nil => intro st h1 h2; exact ⟨by simp, by simp, h1, h2⟩
  | cons c l ih =>
    intro st h1 h2
    rw [List.foldl_cons]
    by_cases hp : p c = true
    · have e : splStep p st c = (st.1 ++ [st.2], []) := if_pos hp
      rw [e]
      obtain ⟨a1, a2, a3, a4⟩ := ih (st.1 ++ [st.2], []) (by
        intro q hq
        rcases List.mem_append.1 hq with hq | hq
        · exact h1 q hq
        · simp at hq; subst hq; exact h2) (by intro c hc; simp at hc)
      refine ⟨?_, ?_, a3, a4⟩
      · rw [a1, List.countP_cons_of_pos hp]; simp; omega
      · rw [List.countP_cons_of_pos hp]; simp only [sumLen_snoc, List.length_nil] at a2; simp; omega
    · have e : splStep p st c = (st.1, st.2 ++ [c]) := if_neg hp
      rw [e]
      obtain ⟨a1, a2, a3, a4⟩ := ih (st.1, st.2 ++ [c]) h1 (by
        intro x hx
        rcases List.mem_append.1 hx with hx | hx
        · exact h2 x hx
        · simp at hx; subst hx; simpa using hp)
      refine ⟨?_, ?_, a3, a4⟩
      · rw [a1, List.countP_cons_of_neg hp]
      · rw [List.countP_cons_of_neg hp]; simp at a2; simp; omega

theorem split_count (p : UInt8 → Bool) (l : List UInt8) : (splitB p l).length = l.countP p + 1 ∧ sumLen (splitB p l) + l.countP p = l.length ∧ ∀ q ∈ splitB p l, ∀ c ∈ q, p c = false := by
  obtain ⟨a1, a2, a3, a4⟩ := spl_inv p l ([], []) (by intro q hq; simp at hq) (by intro c hc; simp at hc)
  unfold splitB spl
  refine ⟨by rw [List.length_append, a1]; simp, by rw [sumLen_snoc]; simp [sumLen] at a2 ⊢; omega, ?_⟩
  intro q hq
  rcases List.mem_append.1 hq with hq | hq
  · exact a3 q hq
  · simp at hq; subst hq; exact a4

theorem drop_none (l : List UInt8) : ∀ c ∈ dropB l, hasB [9, 13, 10] c = false := by
  intro c hc
  have h := (List.mem_filter.1 hc).2
  have key : ∀ c : UInt8, keepC c = true → hasB [9, 13, 10] c = false := by
    intro c h
    simp only [keepC, Bool.not_eq_true', Bool.or_eq_false_iff, beq_eq_false_iff_ne] at h
    obtain ⟨⟨h1, h2⟩, h3⟩ := h
    simp only [hasB, List.any_cons, List.any_nil, Bool.or_false, Bool.or_eq_false_iff, beq_eq_false_iff_ne]
    exact ⟨fun e => h1 e.symm, fun e => h3 e.symm, fun e => h2 e.symm⟩
  exact key c h
theorem drop_twice (l : List UInt8) : dropB (dropB l) = dropB l := by simp [dropB]
end Go.Proofs.Ytbkjhdinlnpglaa
