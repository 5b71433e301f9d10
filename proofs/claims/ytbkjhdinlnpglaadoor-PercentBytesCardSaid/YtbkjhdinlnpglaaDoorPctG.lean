/-
  Layer 2, without the program: what is encoded is decoded as it was; encoded again nothing is changed; it has none of the set but by %.
-/
import Derived.Test.YtbkjhdinlnpglaaDoorPctF
namespace Go.Proofs.YtbkjhdinlnpglaaDoor
open Go.RowKit


theorem val_hex (n : Nat) (h : n < 16) : valZ ((hexN n).toNat : Int) = n ∧ (hexN n).toNat ≠ 37 ∧ (hexN n).toNat < 128 := by
  have key : ∀ n : Fin 16, valZ ((hexN n.val).toNat : Int) = n.val ∧ (hexN n.val).toNat ≠ 37 ∧ (hexN n.val).toNat < 128 := by decide +kernel
  exact key ⟨n, h⟩
theorem hex_in (st : Nat) (n : Nat) (hs : st < 6) (h : n < 16) : inB st ((hexN n).toNat : Int) = false ∧ inB st 37 = false := by
  have key : ∀ st : Fin 6, ∀ n : Fin 16, inB (st.val : Int) ((hexN n.val).toNat : Int) = false ∧ inB (st.val : Int) 37 = false := by decide +kernel
  exact key ⟨st, hs⟩ ⟨n, h⟩

theorem three_pct (c : UInt8) (rest : List UInt8) : threeV (pctB c ++ rest) = some c := by
  have hc := c.toNat_lt
  have h1 := val_hex (c.toNat / 16) (by omega)
  have h2 := val_hex (c.toNat % 16) (by omega)
  show threeV (37 :: hexN (c.toNat / 16) :: hexN (c.toNat % 16) :: rest) = some c
  simp only [threeV]
  rw [if_pos ⟨rfl, by rw [h1.1]; omega, by rw [h2.1]; omega⟩, h1.1, h2.1]
  congr 1
  apply UInt8.toNat_inj.1
  have e : ((c.toNat / 16 : Nat) : Int) * 16 + ((c.toNat % 16 : Nat) : Int) = (c.toNat : Int) := by omega
  rw [e]
  simp

theorem three_not (c : UInt8) (rest : List UInt8) (h : c.toNat ≠ 37) : threeV (c :: rest) = none := by
  match rest with
  | [] => rfl
  | [_] => rfl
  | a :: b :: r => simp only [threeV]; rw [if_neg (by intro hh; exact h hh.1)]

theorem dec_plain (c : UInt8) (rest : List UInt8) (f : Nat) (h : c.toNat ≠ 37) : decL (f + 1) (c :: rest) = c :: decL f rest := by
  simp only [decL, three_not c rest h]
theorem dec_pct1 (c : UInt8) (rest : List UInt8) (f : Nat) : decL (f + 1) (pctB c ++ rest) = c :: decL f rest := by
  have h := three_pct c rest
  have e : pctB c ++ rest = 37 :: (hexN (c.toNat / 16) :: hexN (c.toNat % 16) :: rest) := rfl
  rw [e] at h ⊢
  simp only [decL, h]
  rfl
theorem dec_pct (E rest : List UInt8) : ∀ f, E.length ≤ f → decL f (pctL E ++ rest) = E ++ decL (f - E.length) rest := by
  induction E with
  | nil => intro f _; simp [pctL]
  | cons c E ih =>
    intro f hf
    obtain ⟨g, rfl⟩ : ∃ g, f = g + 1 := ⟨f - 1, by simp at hf; omega⟩
    have e : pctL (c :: E) ++ rest = pctB c ++ (pctL E ++ rest) := by simp [pctL]
    rw [e, dec_pct1, ih g (by simp at hf; omega)]
    simp

theorem right_plain (c : UInt8) (rest : List UInt8) (h : c.toNat ≠ 37) : rightB (c :: rest) = rightB rest := by
  simp [rightB, h]
theorem right_pct1 (c : UInt8) (rest : List UInt8) : rightB (pctB c ++ rest) = rightB rest := by
  have hc := c.toNat_lt
  have h1 := val_hex (c.toNat / 16) (by omega)
  have h2 := val_hex (c.toNat % 16) (by omega)
  have h := three_pct c rest
  have e : pctB c ++ rest = 37 :: (hexN (c.toNat / 16) :: hexN (c.toNat % 16) :: rest) := rfl
  rw [e] at h ⊢
  simp only [rightB, h, h1.2.1, h2.2.1]
  simp
theorem right_pct (E rest : List UInt8) : rightB (pctL E ++ rest) = rightB rest := by
  induction E with
  | nil => rfl
  | cons c E ih =>
    have e : pctL (c :: E) ++ rest = pctB c ++ (pctL E ++ rest) := by simp [pctL]
    rw [e, right_pct1, ih]

/-- what isn't in a set is a sign of ASCII's -/
theorem out_ascii {st r : Int} (h0 : 0 ≤ st) (h1 : st ≤ 5) (h : inB st r = false) : 31 < r ∧ r ≤ 126 := by
  by_cases hc : r ≤ 31 ∨ 126 < r
  · rw [inB_ctl h0 h1 hc] at h; cases h
  · omega
theorem encode_ascii {r : Int} (h0 : 0 ≤ r) (h1 : r < 128) : Lib.encodeRune r = [r.toNat.toUInt8] := by
  unfold Lib.encodeRune
  rw [Lib.encodeRuneZ_one h0 (by omega)]
  rfl

theorem dec_enc (st : Int) (h0 : 0 ≤ st) (h1 : st ≤ 5) (l : List Int) (hl : ∀ r ∈ l, r ≠ 37) : ∀ f, (encB st l).length ≤ f → decL f (encB st l) = textB l := by
  induction l with
  | nil => intro f _; cases f <;> rfl
  | cons r l ih =>
    intro f hf
    have ihl := ih (fun x hx => hl x (List.mem_cons_of_mem _ hx))
    rw [encB_cons, textB_cons]
    rw [encB_cons, List.length_append] at hf
    cases hin : inB st r with
    | true =>
      have e : encP st r = pctL (Lib.encodeRune r) := by unfold encP; rw [hin]; rfl
      rw [e] at hf ⊢
      rw [pctL_len] at hf
      rw [dec_pct _ _ f (by omega), ihl _ (by omega)]
    | false =>
      have e : encP st r = Lib.encodeRune r := by unfold encP; rw [hin]; rfl
      have ha := out_ascii h0 h1 hin
      rw [e, encode_ascii (by omega) (by omega)] at hf ⊢
      obtain ⟨g, rfl⟩ : ∃ g, f = g + 1 := ⟨f - 1, by simp at hf; omega⟩
      have hne : (r.toNat.toUInt8).toNat ≠ 37 := by
        rw [u8_of r (by omega) (by omega)]
        have := hl r (List.mem_cons_self ..)
        omega
      show decL (g + 1) (r.toNat.toUInt8 :: encB st l) = r.toNat.toUInt8 :: textB l
      rw [dec_plain _ _ _ hne, ihl g (by simp at hf; omega)]

theorem right_enc (st : Int) (h0 : 0 ≤ st) (h1 : st ≤ 5) (l : List Int) (hl : ∀ r ∈ l, r ≠ 37) : rightB (encB st l) = true := by
  induction l with
  | nil => rfl
  | cons r l ih =>
    have ihl := ih (fun x hx => hl x (List.mem_cons_of_mem _ hx))
    rw [encB_cons]
    cases hin : inB st r with
    | true =>
      have e : encP st r = pctL (Lib.encodeRune r) := by unfold encP; rw [hin]; rfl
      rw [e, right_pct]; exact ihl
    | false =>
      have e : encP st r = Lib.encodeRune r := by unfold encP; rw [hin]; rfl
      have ha := out_ascii h0 h1 hin
      have hne : (r.toNat.toUInt8).toNat ≠ 37 := by
        rw [u8_of r (by omega) (by omega)]
        have := hl r (List.mem_cons_self ..)
        omega
      rw [e, encode_ascii (by omega) (by omega)]
      show rightB (r.toNat.toUInt8 :: encB st l) = true
      rw [right_plain _ _ hne]; exact ihl

/-- each byte of what is encoded is a sign of ASCII's that isn't in the set -/
theorem enc_signs (st : Int) (h0 : 0 ≤ st) (h1 : st ≤ 5) (l : List Int) : ∀ b ∈ encB st l, b.toNat < 128 ∧ inB st (b.toNat : Int) = false := by
  intro b hb
  obtain ⟨r, _, hb⟩ := List.mem_flatMap.1 hb
  cases hin : inB st r with
  | true =>
    have e : encP st r = pctL (Lib.encodeRune r) := by unfold encP; rw [hin]; rfl
    rw [e] at hb
    obtain ⟨c, _, hb⟩ := List.mem_flatMap.1 hb
    have hc := c.toNat_lt
    have hst : st = (st.toNat : Int) := (Int.toNat_of_nonneg h0).symm
    have k1 := hex_in st.toNat (c.toNat / 16) (by omega) (by omega)
    have k2 := hex_in st.toNat (c.toNat % 16) (by omega) (by omega)
    rw [← hst] at k1 k2
    have v1 := val_hex (c.toNat / 16) (by omega)
    have v2 := val_hex (c.toNat % 16) (by omega)
    simp only [pctB, List.mem_cons, List.not_mem_nil, or_false] at hb
    rcases hb with rfl | rfl | rfl
    · exact ⟨by decide, k1.2⟩
    · exact ⟨v1.2.2, k1.1⟩
    · exact ⟨v2.2.2, k2.1⟩
  | false =>
    have e : encP st r = Lib.encodeRune r := by unfold encP; rw [hin]; rfl
    have ha := out_ascii h0 h1 hin
    rw [e, encode_ascii (by omega) (by omega)] at hb
    simp only [List.mem_cons, List.not_mem_nil, or_false] at hb
    subst hb
    rw [u8_of r (by omega) (by omega), Int.toNat_of_nonneg (by omega)]
    exact ⟨by omega, hin⟩

def intsOf (e : List UInt8) : List Int := e.map fun b => (b.toNat : Int)

theorem textB_ascii (e : List UInt8) (h : ∀ b ∈ e, b.toNat < 128) : textB (intsOf e) = e := by
  induction e with
  | nil => rfl
  | cons b e ih =>
    have hb := h b (List.mem_cons_self ..)
    have ih' := ih (fun x hx => h x (List.mem_cons_of_mem _ hx))
    show textB ((b.toNat : Int) :: intsOf e) = b :: e
    rw [textB_cons, ih', encode_ascii (by omega) (by omega), u8_back]
    rfl
theorem scal_ascii (e : List UInt8) (h : ∀ b ∈ e, b.toNat < 128) : scal ⟨e.toArray⟩ = intsOf e := by
  have h1 := scal_text (intsOf e)
  rw [textB_ascii e h] at h1
  rw [h1]
  have : ∀ x ∈ intsOf e, fixZ x = x := by
    intro x hx
    obtain ⟨b, hb, rfl⟩ := List.mem_map.1 hx
    have := h b hb
    have hv : isB (b.toNat : Int) = true := decide_eq_true (by omega)
    exact if_pos hv
  exact (List.map_congr_left this).trans (List.map_id _)
theorem enc_same (st : Int) (e : List UInt8) (h : ∀ b ∈ e, b.toNat < 128 ∧ inB st (b.toNat : Int) = false) : encB st (intsOf e) = e := by
  induction e with
  | nil => rfl
  | cons b e ih =>
    have hb := h b (List.mem_cons_self ..)
    have ih' := ih (fun x hx => h x (List.mem_cons_of_mem _ hx))
    show encB st ((b.toNat : Int) :: intsOf e) = b :: e
    have he : encP st (b.toNat : Int) = [b] := by
      unfold encP
      rw [hb.2, encode_ascii (by omega) (by omega), u8_back]
      rfl
    rw [encB_cons, ih', he]
    rfl
theorem enc_scal (st : Int) (h0 : 0 ≤ st) (h1 : st ≤ 5) (l : List Int) : encB st (scal ⟨(encB st l).toArray⟩) = encB st l := by
  have hs := enc_signs st h0 h1 l
  rw [scal_ascii _ (fun b hb => (hs b hb).1)]
  exact enc_same st _ hs
theorem enc_none (st : Int) (h0 : 0 ≤ st) (h1 : st ≤ 5) (l : List Int) : ∀ x ∈ scal ⟨(encB st l).toArray⟩, inB st x = false := by
  have hs := enc_signs st h0 h1 l
  rw [scal_ascii _ (fun b hb => (hs b hb).1)]
  intro x hx
  obtain ⟨b, hb, rfl⟩ := List.mem_map.1 hx
  exact (hs b hb).2

/-- a text without the byte 37 has no code point 37 -/
theorem scal_no37 (s : ByteArray) (h : ∀ k (h : k < s.size), s[k].toNat ≠ 37) : ∀ r ∈ scal s, r ≠ 37 := by
  have key : ∀ f p, ∀ r ∈ scalF s f p, r ≠ 37 := by
    intro f
    induction f with
    | zero => intro p x hx; simp [scalF] at hx
    | succ f ih =>
      intro p x hx
      by_cases hp : p < s.size
      · rw [scalF_step s f p hp] at hx
        rcases List.mem_cons.1 hx with rfl | hx
        · by_cases ha : (s[p]'hp).toNat < 128
          · rw [decode_ascii s p hp ha]
            have := h p hp
            simp only
            omega
          · have := (decode_high s p hp (by omega)).1
            omega
        · exact ih _ x hx
      · rw [scalF_end s _ p hp] at hx; simp at hx
  exact key _ _
end Go.Proofs.YtbkjhdinlnpglaaDoor
