/-
  Layer 1, without the program: what is written as UTF-8 is read again as it was; parts are put together again; trimming and small letters change nothing a second time.
-/
import Derived.Test.YtaojjkknmaldiaaDoorScalL
namespace Go.Proofs.YtaojjkknmaldiaaDoor
open Go.RowKit


def fixZ (r : Int) : Int := if isB r = true then r else 65533

theorem byteN_list (l : List UInt8) (i : Nat) : byteN ⟨l.toArray⟩ i = (l.getD i 0).toNat := by
  unfold byteN
  congr 1
  by_cases h : i < l.length
  · rw [show (ByteArray.mk l.toArray).get! i = (ByteArray.mk l.toArray).get! (i + 0) from rfl, get_at _ i (by simpa [ByteArray.size] using h)]
    simp [List.getD, List.getElem?_eq_getElem h]
    rfl
  · have : ¬ i < (ByteArray.mk l.toArray).size := by simpa [ByteArray.size] using h
    simp only [List.getD, List.getElem?_eq_none (Nat.le_of_not_lt h), Option.getD_none]
    show (l.toArray)[i]! = _
    rw [getElem!_neg _ _ (by simpa using h)]
    rfl

theorem size_mk (l : List UInt8) : (ByteArray.mk l.toArray).size = l.length := by simp [ByteArray.size]

theorem getD_mid (pre e post : List UInt8) (k : Nat) (h : k < e.length) : (pre ++ e ++ post).getD (pre.length + k) 0 = e.getD k 0 := by
  simp only [List.getD]
  rw [List.append_assoc, List.getElem?_append_right (by omega), List.getElem?_append_left (by omega)]
  congr 2
  omega

theorem u8_of (x : Int) (h0 : 0 ≤ x) (h1 : x < 256) : (x.toNat.toUInt8).toNat = x.toNat := by
  have : x.toNat % 256 = x.toNat := Nat.mod_eq_of_lt (by omega)
  simp [Nat.toUInt8, this]

/-- the bytes of a code point, anywhere in a text, are decoded as that code point -/
theorem decode_encode (pre post : List UInt8) (r : Int) :
    Utf8.decode ⟨(pre ++ Lib.encodeRune r ++ post).toArray⟩ pre.length = ((fixZ r).toNat, (Lib.encodeRune r).length) := by
  obtain ⟨e, he⟩ : ∃ e, Lib.encodeRune r = e := ⟨_, rfl⟩
  have hb : ∀ k, k < e.length → byteN ⟨(pre ++ e ++ post).toArray⟩ (pre.length + k) = (e.getD k 0).toNat := fun k hk => by
    rw [byteN_list, getD_mid pre e post k hk]
  have hsz : (ByteArray.mk (pre ++ e ++ post).toArray).size = pre.length + e.length + post.length := by rw [size_mk]; simp; omega
  rw [he]
  generalize ByteArray.mk (pre ++ e ++ post).toArray = t at *
  have hv : isB r = true ∨ isB r = false := by cases isB r <;> simp
  rcases hv with hv | hv
  · have hr := of_decide_eq_true hv
    have hf : fixZ r = r := if_pos hv
    rw [hf]
    by_cases a : r < 128
    · have hz := Lib.encodeRuneZ_one hr.1 (by omega)
      have hE : e = [r.toNat.toUInt8] := by rw [← he]; unfold Lib.encodeRune; rw [hz]; rfl
      subst hE
      have h0 := hb 0 (by simp)
      simp only [List.getD_cons_zero, Nat.add_zero] at h0
      rw [u8_of r hr.1 (by omega)] at h0
      rw [decode_eq, h0, if_pos (by omega)]
      rfl
    · by_cases b : r < 2048
      · have hz := Lib.encodeRuneZ_two (r := r) (by omega) (by omega)
        have hE : e = [(192 + r / 64).toNat.toUInt8, (128 + r % 64).toNat.toUInt8] := by rw [← he]; unfold Lib.encodeRune; rw [hz]; rfl
        subst hE
        have h0 := hb 0 (by simp)
        have h1 := hb 1 (by simp)
        simp only [List.getD_cons_zero, List.getD_cons_succ, Nat.add_zero] at h0 h1
        rw [u8_of _ (by omega) (by omega)] at h0 h1
        simp only [List.length_cons, List.length_nil] at hsz ⊢
        rw [decode_eq, h0, h1, if_neg (by omega), if_pos (by omega), if_pos (by omega)]
        congr 1
        omega
      · by_cases c : r < 65536
        · have hz := Lib.encodeRuneZ_three (r := r) (by omega)
          have hE : e = [(224 + r / 4096).toNat.toUInt8, (128 + r / 64 % 64).toNat.toUInt8, (128 + r % 64).toNat.toUInt8] := by rw [← he]; unfold Lib.encodeRune; rw [hz]; rfl
          subst hE
          have h0 := hb 0 (by simp)
          have h1 := hb 1 (by simp)
          have h2 := hb 2 (by simp)
          simp only [List.getD_cons_zero, List.getD_cons_succ, Nat.add_zero] at h0 h1 h2
          rw [u8_of _ (by omega) (by omega)] at h0 h1 h2
          simp only [List.length_cons, List.length_nil] at hsz ⊢
          have hsum : (224 + r / 4096).toNat % 16 * 4096 + (128 + r / 64 % 64).toNat % 64 * 64 + (128 + r % 64).toNat % 64 = r.toNat := by omega
          have hvv : isB ((r.toNat : Nat) : Int) = true := by rw [Int.toNat_of_nonneg hr.1]; exact hv
          rw [decode_eq, h0, h1, h2, if_neg (by omega), if_neg (by omega), if_pos (by omega), hsum, if_pos ⟨by omega, hvv⟩]
        · have hz := Lib.encodeRuneZ_four (r := r) (by omega) (by omega)
          have hE : e = [(240 + r / 262144).toNat.toUInt8, (128 + r / 4096 % 64).toNat.toUInt8, (128 + r / 64 % 64).toNat.toUInt8, (128 + r % 64).toNat.toUInt8] := by rw [← he]; unfold Lib.encodeRune; rw [hz]; rfl
          subst hE
          have h0 := hb 0 (by simp)
          have h1 := hb 1 (by simp)
          have h2 := hb 2 (by simp)
          have h3 := hb 3 (by simp)
          simp only [List.getD_cons_zero, List.getD_cons_succ, Nat.add_zero] at h0 h1 h2 h3
          rw [u8_of _ (by omega) (by omega)] at h0 h1 h2 h3
          simp only [List.length_cons, List.length_nil] at hsz ⊢
          have hsum : (240 + r / 262144).toNat % 8 * 262144 + (128 + r / 4096 % 64).toNat % 64 * 4096 + (128 + r / 64 % 64).toNat % 64 * 64 + (128 + r % 64).toNat % 64 = r.toNat := by omega
          have hvv : isB ((r.toNat : Nat) : Int) = true := by rw [Int.toNat_of_nonneg hr.1]; exact hv
          rw [decode_eq, h0, h1, h2, h3, if_neg (by omega), if_neg (by omega), if_neg (by omega), if_pos (by omega), hsum, if_pos ⟨by omega, hvv⟩]
  · have hr := of_decide_eq_false hv
    have hf : fixZ r = 65533 := if_neg (by rw [hv]; simp)
    rw [hf]
    have hz := Lib.encodeRuneZ_bad (r := r) (by omega)
    have hE : e = [239, 191, 189] := by rw [← he]; unfold Lib.encodeRune; rw [hz]; rfl
    subst hE
    have h0 := hb 0 (by simp)
    have h1 := hb 1 (by simp)
    have h2 := hb 2 (by simp)
    simp only [List.getD_cons_zero, List.getD_cons_succ, Nat.add_zero] at h0 h1 h2
    simp only [List.length_cons, List.length_nil] at hsz ⊢
    have k0 : (239 : UInt8).toNat = 239 := rfl
    have k1 : (191 : UInt8).toNat = 191 := rfl
    have k2 : (189 : UInt8).toNat = 189 := rfl
    have hvv : isB ((65533 : Nat) : Int) = true := by decide
    rw [decode_eq, h0, h1, h2, k0, k1, k2, if_neg (by omega), if_neg (by omega), if_pos (by omega)]
    rw [if_pos ⟨by omega, by decide⟩]
    rfl

theorem encodeRune_pos (r : Int) : 1 ≤ (Lib.encodeRune r).length := by
  simp only [Lib.encodeRune, List.length_map]; exact (Lib.encodeRuneZ_length r).1

theorem textB_cons (r : Int) (l : List Int) : textB (r :: l) = Lib.encodeRune r ++ textB l := by simp [textB]

theorem textB_len (l : List Int) : l.length ≤ (textB l).length := by
  induction l with
  | nil => simp [textB]
  | cons r l ih => rw [textB_cons, List.length_append, List.length_cons]; have := encodeRune_pos r; omega
theorem textB_le (l : List Int) : (textB l).length ≤ 4 * l.length := by
  have := textB_take_le l l.length
  rwa [List.take_of_length_le (Nat.le_refl _)] at this

theorem fixZ_nonneg (r : Int) : 0 ≤ fixZ r := by
  unfold fixZ
  split
  · rename_i h; exact (of_decide_eq_true h).1
  · omega

theorem scalF_text (l : List Int) : ∀ (pre : List UInt8) (f : Nat), l.length ≤ f → scalF ⟨(pre ++ textB l).toArray⟩ f pre.length = l.map fixZ := by
  induction l with
  | nil =>
    intro pre f _
    rw [scalF_end _ _ _ (by rw [size_mk]; simp [textB])]
    rfl
  | cons r l ih =>
    intro pre f hf
    obtain ⟨f', rfl⟩ : ∃ f', f = f' + 1 := ⟨f - 1, by simp at hf; omega⟩
    have hlt : pre.length < (ByteArray.mk (pre ++ textB (r :: l)).toArray).size := by
      rw [size_mk, textB_cons]; have := encodeRune_pos r; simp; omega
    rw [scalF_step _ _ _ hlt, textB_cons, ← List.append_assoc, decode_encode pre (textB l) r]
    have h2 := ih (pre ++ Lib.encodeRune r) f' (by simp at hf; omega)
    rw [List.length_append] at h2
    rw [h2, List.map_cons, Int.toNat_of_nonneg (fixZ_nonneg r)]

theorem scal_text (l : List Int) : scal ⟨(textB l).toArray⟩ = l.map fixZ := by
  unfold scal
  rw [size_mk]
  exact scalF_text l [] _ (textB_len l)

theorem encode_fix (r : Int) : Lib.encodeRune (fixZ r) = Lib.encodeRune r := by
  unfold fixZ
  split
  · rfl
  · rename_i h
    have hv : isB r = false := by simpa using h
    have hr := of_decide_eq_false hv
    unfold Lib.encodeRune
    rw [Lib.encodeRuneZ_bad (r := r) (by omega)]
    rfl

theorem textB_fix (l : List Int) : textB (l.map fixZ) = textB l := by
  induction l with
  | nil => rfl
  | cons r l ih => rw [List.map_cons, textB_cons, textB_cons, ih, encode_fix]

/-- the numbers that decoding tells are all code points' -/
theorem scal_runes (s : ByteArray) : Runes (scal s) := by
  have key : ∀ f p, Runes (scalF s f p) := by
    intro f
    induction f with
    | zero => intro p x hx; simp [scalF] at hx
    | succ f ih =>
      intro p
      by_cases h : p < s.size
      · rw [scalF_step s f p h]
        intro x hx
        rcases List.mem_cons.1 hx with rfl | hx
        · have := decode_le s p; omega
        · exact ih _ x hx
      · rw [scalF_end s _ p h]; intro x hx; simp at hx
  exact key _ _

/-! ### parts, put together again -/
theorem dropWhile_head {p : UInt8 → Bool} : ∀ (l : List UInt8), (l.dropWhile p).dropWhile p = l.dropWhile p
  | [] => rfl
  | x :: l => by
    by_cases h : p x = true
    · rw [List.dropWhile_cons, if_pos h]; exact dropWhile_head l
    · rw [List.dropWhile_cons, if_neg h, List.dropWhile_cons, if_neg h]

theorem dropWhile_take {p : UInt8 → Bool} (l : List UInt8) (n : Nat) (h : l.dropWhile p = l) : (l.take n).dropWhile p = l.take n := by
  cases l with
  | nil => simp
  | cons x l =>
    by_cases hp : p x = true
    · rw [List.dropWhile_cons, if_pos hp] at h
      have := congrArg List.length h
      have h2 := (List.dropWhile_suffix (l := l) p).length_le
      simp at this
      omega
    · cases n with
      | zero => simp
      | succ n => rw [List.take_succ_cons, List.dropWhile_cons, if_neg hp]

theorem rdrop_take {p : UInt8 → Bool} (l : List UInt8) : ∃ n, (l.reverse.dropWhile p).reverse = l.take n := by
  have h := (List.dropWhile_suffix (l := l.reverse) p)
  obtain ⟨t, ht⟩ := h
  refine ⟨(l.reverse.dropWhile p).length, ?_⟩
  have : l = (l.reverse.dropWhile p).reverse ++ t.reverse := by
    rw [← List.reverse_append, ht, List.reverse_reverse]
  generalize (l.reverse.dropWhile p) = d at *
  rw [this]
  simp

theorem trimL_twice (l : List UInt8) : trimL (trimL l) = trimL l := by
  have h1 : (trimL l).dropWhile blankC = trimL l := by
    unfold trimL
    obtain ⟨n, hn⟩ := rdrop_take (p := blankC) (l.dropWhile blankC)
    rw [hn]
    exact dropWhile_take _ n (dropWhile_head l)
  show (((trimL l).dropWhile blankC).reverse.dropWhile blankC).reverse = trimL l
  rw [h1]
  unfold trimL
  rw [List.reverse_reverse, dropWhile_head]

theorem lowC_twice (c : UInt8) : lowC (lowC c) = lowC c := by
  by_cases h : 65 ≤ c.toNat ∧ c.toNat ≤ 90
  · apply lowC_id
    have := lowC_up h.1 h.2
    omega
  · rw [lowC_id (c := c) (by omega), lowC_id (by omega)]
theorem lowerB_twice (l : List UInt8) : lowerB (lowerB l) = lowerB l := by
  simp [lowerB, lowC_twice]
end Go.Proofs.YtaojjkknmaldiaaDoor
