/-
  Numbers printed: what a text of digits is worth.
-/
import Derived.Test.YtaojjkknmaldiaaDoorFourL
namespace Go.Proofs.YtaojjkknmaldiaaDoor
open Go.RowKit


def valP (b : Int) (L : List UInt8) : Int := L.foldl (fun n c => n * b + valZ (c.toNat : Int)) 0
/-- a text of digits to the base b that is worth u -/
structure IsNum (b u : Int) (L : List UInt8) : Prop where
  ne : L ≠ []
  digs : digsB b L = true
  val : valP b L = u
  len : L.length ≤ 65

def dgt (d : Nat) : UInt8 := if d < 10 then UInt8.ofNat (48 + d) else UInt8.ofNat (87 + d)
theorem dgt_val' : ∀ d : Fin 16, valZ ((dgt d.val).toNat : Int) = (d.val : Int) := by decide +kernel
theorem dgt_val (d : Nat) (h : d < 16) : valZ ((dgt d).toNat : Int) = (d : Int) := dgt_val' ⟨d, h⟩
theorem dgt_dig (b : Int) (d : Nat) (h : d < 16) (hb : (d : Int) < b) : digC b (dgt d) = true := digC_true (dgt_val d h) (by omega) hb

theorem valP_from (b : Int) (L : List UInt8) : ∀ a : Int, L.foldl (fun n c => n * b + valZ (c.toNat : Int)) a = a * b ^ L.length + valP b L := by
  unfold valP
  induction L with
  | nil => intro a; simp
  | cons c L ih =>
    intro a
    simp only [List.foldl_cons, List.length_cons]
    rw [ih, ih (0 * b + _), Int.pow_succ]
    rw [Int.zero_mul, Int.zero_add, Int.add_mul, Int.mul_assoc, Int.mul_comm b (b ^ L.length), Int.add_assoc]
theorem valP_cons (b : Int) (c : UInt8) (L : List UInt8) : valP b (c :: L) = valZ (c.toNat : Int) * b ^ L.length + valP b L := by
  show (c :: L).foldl _ 0 = _
  rw [List.foldl_cons, valP_from, Int.zero_mul, Int.zero_add]
theorem valP_step (b : Nat) (v : Nat) (T : List UInt8) (u : Int) (hd : v % b < 16) (h : (v : Int) * (b : Int) ^ T.length + valP b T = u) :
    ((v / b : Nat) : Int) * (b : Int) ^ (dgt (v % b) :: T).length + valP b (dgt (v % b) :: T) = u := by
  rw [valP_cons, dgt_val _ hd, ← h, List.length_cons, Int.pow_succ]
  have e : (v : Int) = ((v / b : Nat) : Int) * b + ((v % b : Nat) : Int) := by
    have := Nat.div_add_mod v b
    have h2 : v = (v / b) * b + v % b := by rw [Nat.mul_comm]; exact this.symm
    exact_mod_cast h2
  conv => rhs; rw [e]
  rw [Int.add_mul, Int.mul_assoc, Int.mul_comm (b : Int) ((b : Int) ^ T.length)]
  omega
theorem valP_end (b v : Nat) (T : List UInt8) (u : Int) (hd : v < 16) (h : (v : Int) * (b : Int) ^ T.length + valP b T = u) : valP b (dgt v :: T) = u := by
  rw [valP_cons, dgt_val _ hd, h]

theorem valP_nonneg (b : Int) (hb : 0 ≤ b) (L : List UInt8) (hd : digsB b L = true) : 0 ≤ valP b L := by
  have key : ∀ (L : List UInt8) (n : Int), 0 ≤ n → digsB b L = true → 0 ≤ L.foldl (fun n c => n * b + valZ (c.toNat : Int)) n := by
    intro L
    induction L with
    | nil => intro n h _; exact h
    | cons c L ih =>
      intro n h hd
      have h2 : digC b c = true ∧ digsB b L = true := by simpa [digsB] using hd
      have h3 := of_decide_eq_true h2.1
      have hp : 0 ≤ n * b := Int.mul_nonneg h hb
      exact ih (n * b + valZ (c.toNat : Int)) (by omega) h2.2
  exact key L 0 (Int.le_refl _) hd

theorem capZ_step (n b v : Int) (hn : 0 ≤ n) (hb : 1 ≤ b) (hv : 0 ≤ v) : capZ (capZ n * b + v) = capZ (n * b + v) := by
  unfold capZ
  by_cases h : 1099511627776 < n
  · rw [if_pos h]
    have h1 : n * 1 ≤ n * b := Int.mul_le_mul_of_nonneg_left hb (by omega)
    have h2 : (1099511627776 : Int) * 1 ≤ 1099511627776 * b := Int.mul_le_mul_of_nonneg_left hb (by omega)
    rw [if_pos (show 1099511627776 < n * b + v from by omega)]
    split
    · rfl
    · omega
  · rw [if_neg h]
theorem numZ_cap (b : Int) (hb : 1 ≤ b) (L : List UInt8) (hd : digsB b L = true) : numZ b L = capZ (valP b L) := by
  have key : ∀ (L : List UInt8) (n : Int), 0 ≤ n → digsB b L = true → L.foldl (stepN b) (capZ n) = capZ (L.foldl (fun n c => n * b + valZ (c.toNat : Int)) n) := by
    intro L
    induction L with
    | nil => intro n _ _; rfl
    | cons c L ih =>
      intro n h hd
      have h2 : digC b c = true ∧ digsB b L = true := by simpa [digsB] using hd
      have h3 := of_decide_eq_true h2.1
      have hp : 0 ≤ n * b := Int.mul_nonneg h (by omega)
      rw [List.foldl_cons, List.foldl_cons, ← ih _ (by omega) h2.2]
      congr 1
      show stepN b (capZ n) c = _
      unfold stepN
      exact capZ_step n b _ h hb h3.1
  have := key L 0 (Int.le_refl _) hd
  exact this

theorem digs_mono {b c : Int} (h : b ≤ c) {L : List UInt8} (hd : digsB b L = true) : digsB c L = true := by
  unfold digsB at *
  rw [List.all_eq_true] at *
  intro x hx
  have := of_decide_eq_true (hd x hx)
  exact decide_eq_true (by omega)
theorem dig_not (b : Int) (c : UInt8) (h : digC b c = true) : c.toNat ≠ 120 ∧ c.toNat ≠ 88 ∧ c ≠ 46 := by
  have h1 := of_decide_eq_true h
  refine ⟨fun e => ?_, fun e => ?_, fun e => ?_⟩
  · rw [e] at h1; exact absurd h1.1 (by decide)
  · rw [e] at h1; exact absurd h1.1 (by decide)
  · rw [e] at h1; exact absurd h1.1 (by decide)
theorem digs_dot {b : Int} {L : List UInt8} (hd : digsB b L = true) : ∀ c ∈ L, hasB [46] c = false := by
  intro c hc
  rw [has46]
  exact decide_eq_false (dig_not b c (List.all_eq_true.1 hd c hc)).2.2

/-- read to the base 16, 8, 10 -/
theorem parse_hex {u : Int} {L : List UInt8} (h : IsNum 16 u L) (x : UInt8) (hx : x.toNat = 120 ∨ x.toNat = 88) : parseZ (48 :: x :: L) = (capZ u, true) := by
  have hr : restB (48 :: x :: L) = (L, 16) := by simp only [restB, show (48 : UInt8).toNat = 48 from rfl, hx, if_true]
  rw [parseZ_yes _ _ _ hr (by simp) h.digs, numZ_cap 16 (by decide) L h.digs, h.val]
theorem parse_oct {u : Int} {L : List UInt8} (h : IsNum 8 u L) : parseZ (48 :: L) = (capZ u, true) := by
  cases L with
  | nil => exact absurd rfl h.ne
  | cons c r =>
    have hd : digC 8 c = true := (List.all_eq_true.1 h.digs) c (by simp)
    have hn := dig_not 8 c hd
    have hr : restB (48 :: c :: r) = (c :: r, 8) := by
      simp only [restB, show (48 : UInt8).toNat = 48 from rfl, if_true]
      rw [if_neg]
      rintro (e | e)
      · exact hn.1 e
      · exact hn.2.1 e
    rw [parseZ_yes _ _ _ hr (by simp) h.digs, numZ_cap 8 (by decide) _ h.digs, h.val]
/-- no nought ahead, unless it is alone -/
def NoNought (L : List UInt8) : Prop := ¬ (1 < L.length ∧ (L.getD 0 0).toNat = 48)
theorem parse_dec {u : Int} {L : List UInt8} (h : IsNum 10 u L) (hn : NoNought L) : parseZ L = (capZ u, true) := by
  have hr : restB L = (L, 10) := by
    match L, hn with
    | [], _ => rfl
    | [a], _ => rfl
    | a :: c :: r, hn =>
      show (if a.toNat = 48 then _ else _) = _
      rw [if_neg]
      intro e
      exact hn ⟨by simp, e⟩
  rw [parseZ_yes _ _ _ hr h.ne h.digs, numZ_cap 10 (by decide) L h.digs, h.val]
theorem dec_dec {u : Int} {L : List UInt8} (h : IsNum 10 u L) (hn : NoNought L) (m : Int) : decZ L m = if u ≤ m then (u, true) else (0, false) := by
  have hv : decN L = u := h.val
  by_cases hm : u ≤ m
  · rw [if_pos hm, decZ_yes L m h.ne hn h.digs (by rw [hv]; exact hm), hv]
  · rw [if_neg hm]
    have := decZ_big L m L.length (by rw [List.take_length, hv]; omega)
    exact this
theorem dec_nought {b u : Int} {L : List UInt8} (h : IsNum b u L) (m : Int) : decZ (48 :: L) m = (0, false) := by
  refine decZ_form _ _ (.inr ⟨?_, rfl⟩)
  have := List.length_pos_iff.2 h.ne
  simp only [List.length_cons]
  omega
theorem ends_dec {u : Int} {L : List UInt8} (h : IsNum 10 u L) : endsB L = true := by
  unfold endsB
  rw [dotted_one L (digs_dot h.digs)]
  have : lastPart [L] = L := ends_last 0 L _ rfl rfl (.inl rfl)
  rw [this]
  apply endsX_alone
  unfold aloneB
  rw [h.digs, isEmpty_false h.ne]
  rfl
theorem ends_hex {u : Int} {L : List UInt8} (h : IsNum 16 u L) (x : UInt8) (hx : x.toNat = 120 ∨ x.toNat = 88) (a : List UInt8) : endsB (a ++ [46] ++ (48 :: x :: L) ++ [46]) = true := by
  rw [ends_e1, tail_ahead]
  have hd : ∀ c ∈ 48 :: x :: L, hasB [46] c = false := by
    intro c hc
    rcases List.mem_cons.1 hc with h1 | h1
    · subst h1; rfl
    · rcases List.mem_cons.1 h1 with h2 | h2
      · subst h2
        rw [has46]
        refine decide_eq_false (fun e => ?_)
        rw [e] at hx
        rcases hx with h3 | h3 <;> exact absurd h3 (by decide)
      · exact digs_dot h.digs c h2
  have ht : tailP (48 :: x :: L) = 48 :: x :: L := by
    have := spl_none (hasB [46]) (48 :: x :: L) [] [] hd
    show (spl (hasB [46]) (48 :: x :: L)).2 = _
    unfold spl
    rw [this]
    simp
  rw [ht]
  unfold endsX
  rw [parse_hex h x hx]
  simp
end Go.Proofs.YtaojjkknmaldiaaDoor
