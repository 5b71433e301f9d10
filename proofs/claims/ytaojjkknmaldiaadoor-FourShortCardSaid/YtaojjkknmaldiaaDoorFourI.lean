/-
  Layer 4: the text of an address, and what is read of it.
-/
import Derived.Test.YtaojjkknmaldiaaDoorFourF
import Derived.Test.YtaojjkknmaldiaaDoorScalN
import Derived.Lib.ItoaNum
namespace Go.Proofs.YtaojjkknmaldiaaDoor
open Go.RowKit


def dec3 (u : Nat) : List UInt8 :=
  if u < 10 then [UInt8.ofNat (48 + u)] else if u < 100 then [UInt8.ofNat (48 + u / 10), UInt8.ofNat (48 + u % 10)] else [UInt8.ofNat (48 + u / 100), UInt8.ofNat (48 + u / 10 % 10), UInt8.ofNat (48 + u % 10)]
theorem decDigits_dec3 (u : Nat) (h : u < 1000) : Lib.decDigits u = dec3 u := by
  unfold dec3
  by_cases h1 : u < 10
  · rw [if_pos h1, Lib.decDigits, dif_pos h1]
  · rw [if_neg h1, Lib.decDigits, dif_neg h1, Lib.decDigits]
    by_cases h2 : u < 100
    · rw [if_pos h2, dif_pos (by omega)]; rfl
    · rw [if_neg h2, dif_neg (by omega), Lib.decDigits, dif_pos (by omega), show u / 10 / 10 = u / 100 from by omega]; rfl
theorem itoa_dec3 (n : Int) (h0 : 0 ≤ n) (h1 : n < 1000) : Lib.itoa n = dec3 n.toNat := by
  unfold Lib.itoa
  rw [if_neg (by omega), decDigits_dec3 _ (by omega)]

theorem dec3_dec' : ∀ u : Fin 256, decZ (dec3 u.val) 255 = ((u.val : Int), true) := by decide +kernel
theorem dec3_par' : ∀ u : Fin 256, parseZ (dec3 u.val) = ((u.val : Int), true) := by decide +kernel
theorem dec3_dot' : ∀ u : Fin 256, (dec3 u.val).all (fun c => !hasB [46] c) = true := by decide +kernel
theorem dec3_ne' : ∀ u : Fin 256, (dec3 u.val).isEmpty = false := by decide +kernel
theorem dec3_dec (u : Nat) (h : u < 256) : decZ (dec3 u) 255 = ((u : Int), true) := dec3_dec' ⟨u, h⟩
theorem dec3_par (u : Nat) (h : u < 256) : parseZ (dec3 u) = ((u : Int), true) := dec3_par' ⟨u, h⟩
theorem dec3_dot (u : Nat) (h : u < 256) : ∀ c ∈ dec3 u, hasB [46] c = false := by
  intro c hc
  have := List.all_eq_true.1 (dec3_dot' ⟨u, h⟩) c hc
  simpa using this
theorem dec3_ne (u : Nat) (h : u < 256) : dec3 u ≠ [] := by
  intro e
  have := dec3_ne' ⟨u, h⟩
  simp only at this
  rw [e] at this
  cases this
theorem dec3_len (u : Nat) : (dec3 u).length ≤ 3 := by
  unfold dec3
  repeat' split
  all_goals simp

theorem spl_shift (p : UInt8 → Bool) (l : List UInt8) : ∀ (xs : List (List UInt8)) (t : List UInt8), l.foldl (splStep p) (xs, t) = (xs ++ (l.foldl (splStep p) ([], t)).1, (l.foldl (splStep p) ([], t)).2) := by
  induction l with
  | nil => intro xs t; simp
  | cons c l ih =>
    intro xs t
    simp only [List.foldl_cons, splStep]
    by_cases hp : p c = true
    · simp only [hp, if_true]
      rw [ih (xs ++ [t]) [], ih ([] ++ [t]) []]
      simp
    · have hf : p c = false := by simpa using hp
      simp only [hf]
      rw [show (if false = true then (xs ++ [t], ([] : List UInt8)) else (xs, t ++ [c])) = (xs, t ++ [c]) from rfl, ih xs (t ++ [c])]
      rfl
theorem dotted_cons (a r : List UInt8) (h : ∀ c ∈ a, hasB [46] c = false) : dotted (a ++ [46] ++ r) = a :: dotted r := by
  unfold dotted splitB spl
  rw [List.foldl_append, List.foldl_append, spl_none _ a [] [] h]
  have e : [46].foldl (splStep (hasB [46])) (([] : List (List UInt8)), ([] : List UInt8) ++ a) = ([a], []) := by simp [splStep, has46]
  rw [e, spl_shift _ r [a] []]
  simp
theorem dotted_one (a : List UInt8) (h : ∀ c ∈ a, hasB [46] c = false) : dotted a = [a] := by
  unfold dotted splitB spl
  rw [spl_none _ a [] [] h]
  simp

def txt (a b c d : Nat) : List UInt8 := dec3 a ++ [46] ++ (dec3 b ++ [46] ++ (dec3 c ++ [46] ++ dec3 d))
theorem dotted_txt (a b c d : Nat) (ha : a < 256) (hb : b < 256) (hc : c < 256) (hd : d < 256) : dotted (txt a b c d) = [dec3 a, dec3 b, dec3 c, dec3 d] := by
  unfold txt
  rw [dotted_cons _ _ (dec3_dot a ha), dotted_cons _ _ (dec3_dot b hb), dotted_cons _ _ (dec3_dot c hc), dotted_one _ (dec3_dot d hd)]
set_option maxRecDepth 100000 in
theorem strict_txt (a b c d : Nat) (ha : a < 256) (hb : b < 256) (hc : c < 256) (hd : d < 256) : strictZ (txt a b c d) = ((a : Int) * 16777216 + b * 65536 + c * 256 + d, true) := by
  unfold strictZ
  rw [dotted_txt a b c d ha hb hc hd]
  simp only [List.length_cons, List.length_nil, goS, dec3_dec a ha, dec3_dec b hb, dec3_dec c hc, dec3_dec d hd, if_true]
  congr 1
  omega
set_option maxRecDepth 100000 in
theorem four_txt (a b c d : Nat) (ha : a < 256) (hb : b < 256) (hc : c < 256) (hd : d < 256) : fourZ (txt a b c d) = ((a : Int) * 16777216 + b * 65536 + c * 256 + d, true) := by
  unfold fourZ fourP
  rw [dotted_txt a b c d ha hb hc hd]
  have hk : keptN [dec3 a, dec3 b, dec3 c, dec3 d] = 4 := keptN_last 3 _ rfl (.inr (dec3_ne d hd))
  rw [hk]
  have l0 : limZ 4 0 = 256 := rfl
  have l1 : limZ 4 (0 + 1) = 256 := rfl
  have l2 : limZ 4 (0 + 1 + 1) = 256 := rfl
  have l3 : limZ 4 (0 + 1 + 1 + 1) = 256 := rfl
  have v0 : wtZ 4 0 = 16777216 := rfl
  have v1 : wtZ 4 (0 + 1) = 65536 := rfl
  have v2 : wtZ 4 (0 + 1 + 1) = 256 := rfl
  have v3 : wtZ 4 (0 + 1 + 1 + 1) = 1 := rfl
  show (if 4 < 4 then _ else goF 4 0 0 [dec3 a, dec3 b, dec3 c, dec3 d]) = _
  rw [if_neg (by omega)]
  unfold goF
  rw [dec3_par a ha, l0, v0, if_pos ⟨rfl, by show (a : Int) < 256; omega⟩]
  unfold goF
  rw [dec3_par b hb, l1, v1, if_pos ⟨rfl, by show (b : Int) < 256; omega⟩]
  unfold goF
  rw [dec3_par c hc, l2, v2, if_pos ⟨rfl, by show (c : Int) < 256; omega⟩]
  unfold goF
  rw [dec3_par d hd, l3, v3, if_pos ⟨rfl, by show (d : Int) < 256; omega⟩]
  unfold goF
  congr 1
  show (0 : Int) + (a : Int) * 16777216 + (b : Int) * 65536 + (c : Int) * 256 + (d : Int) * 1 = _
  omega

/-- the text of a number of 32 bits -/
def txtZ (n : Int) : List UInt8 := txt (n / 16777216).toNat (n / 65536 % 256).toNat (n / 256 % 256).toNat (n % 256).toNat
theorem txtZ_len (n : Int) : (txtZ n).length ≤ 15 := by
  unfold txtZ txt
  have h1 := dec3_len (n / 16777216).toNat
  have h2 := dec3_len (n / 65536 % 256).toNat
  have h3 := dec3_len (n / 256 % 256).toNat
  have h4 := dec3_len (n % 256).toNat
  simp only [List.length_append, List.length_cons, List.length_nil]
  omega
theorem strict_txtZ (n : Int) (h0 : 0 ≤ n) (h1 : n ≤ 4294967295) : strictZ (txtZ n) = (n, true) := by
  unfold txtZ
  rw [strict_txt _ _ _ _ (by omega) (by omega) (by omega) (by omega)]
  congr 1
  omega
theorem four_txtZ (n : Int) (h0 : 0 ≤ n) (h1 : n ≤ 4294967295) : fourZ (txtZ n) = (n, true) := by
  unfold txtZ
  rw [four_txt _ _ _ _ (by omega) (by omega) (by omega) (by omega)]
  congr 1
  omega
end Go.Proofs.YtaojjkknmaldiaaDoor
