/-
  Layer 4: what Strict reads is just what is written.
-/
import Derived.Test.YtaojjkknmaldiaaDoorFourI
namespace Go.Proofs.YtaojjkknmaldiaaDoor
open Go.RowKit


theorem dec3_1 : ∀ i : Fin 10, dec3 i.val = [UInt8.ofNat (48 + i.val)] := by decide +kernel
theorem dec3_2 : ∀ i j : Fin 10, i.val ≠ 0 → dec3 (i.val * 10 + j.val) = [UInt8.ofNat (48 + i.val), UInt8.ofNat (48 + j.val)] := by decide +kernel
theorem dec3_3 : ∀ i j k : Fin 10, i.val ≠ 0 → dec3 ((i.val * 10 + j.val) * 10 + k.val) = [UInt8.ofNat (48 + i.val), UInt8.ofNat (48 + j.val), UInt8.ofNat (48 + k.val)] := by decide +kernel

theorem dig_form (c : UInt8) (h : digC 10 c = true) : ∃ i : Nat, i < 10 ∧ c = UInt8.ofNat (48 + i) ∧ c.toNat = 48 + i ∧ valZ (c.toNat : Int) = (i : Int) := by
  rw [digit_c] at h
  obtain ⟨h1, h2⟩ := digitB_in h
  refine ⟨c.toNat - 48, by omega, ?_, by omega, ?_⟩
  · apply UInt8.toNat_inj.1
    rw [show 48 + (c.toNat - 48) = c.toNat from by omega]
    simp
  · rw [valZ_digit h1 h2]; omega

theorem dec3_back (p : List UInt8) (x : Int) (h : decZ p 255 = (x, true)) : 0 ≤ x ∧ x ≤ 255 ∧ p = dec3 x.toNat := by
  have hb := decZ_bounds p 255 (by decide)
  rw [h] at hb
  refine ⟨hb.1, hb.2, ?_⟩
  unfold decZ at h
  split at h
  · exact absurd (congrArg Prod.snd h) (by simp)
  · rename_i hc
    split at h
    · exact absurd (congrArg Prod.snd h) (by simp)
    · rename_i hm
      have hx : decN p = x := congrArg Prod.fst h
      have hd : digsB 10 p = true := by
        cases hd : digsB 10 p with
        | true => rfl
        | false => rw [hd] at hc; simp at hc
      rw [hd] at hc
      have hall : ∀ c ∈ p, digC 10 c = true := List.all_eq_true.1 hd
      match p, hx, hc, hall, hm, hd with
      | [], _, hc, _, _, _ => simp at hc
      | [a], hx, _, hall, _, _ =>
        obtain ⟨i, hi, ha, _, hv⟩ := dig_form a (hall a (by simp))
        have : x = (i : Int) := by rw [← hx]; simp [decN, hv]
        rw [this, ha]
        exact (dec3_1 ⟨i, hi⟩).symm
      | [a, b], hx, hc, hall, _, _ =>
        obtain ⟨i, hi, ha, hna, hva⟩ := dig_form a (hall a (by simp))
        obtain ⟨j, hj, hb', _, hvb⟩ := dig_form b (hall b (by simp))
        have hi0 : i ≠ 0 := by
          intro e
          apply hc
          simp [hna, e]
        have : x = ((i * 10 + j : Nat) : Int) := by rw [← hx]; simp [decN, hva, hvb]
        rw [this, ha, hb']
        exact (dec3_2 ⟨i, hi⟩ ⟨j, hj⟩ hi0).symm
      | [a, b, c], hx, hc, hall, _, _ =>
        obtain ⟨i, hi, ha, hna, hva⟩ := dig_form a (hall a (by simp))
        obtain ⟨j, hj, hb', _, hvb⟩ := dig_form b (hall b (by simp))
        obtain ⟨k, hk, hc', _, hvc⟩ := dig_form c (hall c (by simp))
        have hi0 : i ≠ 0 := by
          intro e
          apply hc
          simp [hna, e]
        have : x = (((i * 10 + j) * 10 + k : Nat) : Int) := by rw [← hx]; simp [decN, hva, hvb, hvc]
        rw [this, ha, hb', hc']
        exact (dec3_3 ⟨i, hi⟩ ⟨j, hj⟩ ⟨k, hk⟩ hi0).symm
      | a :: b :: c :: d :: r, hx, hc, hall, hm, hd =>
        exfalso
        obtain ⟨i, hi, ha, hna, hva⟩ := dig_form a (hall a (by simp))
        obtain ⟨j, hj, _, _, hvb⟩ := dig_form b (hall b (by simp))
        obtain ⟨k, hk, _, _, hvc⟩ := dig_form c (hall c (by simp))
        obtain ⟨l, hl, _, _, hvd⟩ := dig_form d (hall d (by simp))
        have hi0 : i ≠ 0 := by
          intro e
          apply hc
          simp [hna, e]
        have h4 := decN_take_le (a :: b :: c :: d :: r) 4 hd
        have e4 : decN ((a :: b :: c :: d :: r).take 4) = (((i : Int) * 10 + j) * 10 + k) * 10 + l := by simp [decN, hva, hvb, hvc, hvd]
        omega

theorem goS_false (l : List (List UInt8)) : ∀ (A x : Int), goS A l = (x, false) → x = 0 := by
  induction l with
  | nil => intro A x h; exact absurd (congrArg Prod.snd h) (by simp [goS])
  | cons p r ih =>
    intro A x h
    unfold goS at h
    split at h
    · exact ih _ _ h
    · exact (congrArg Prod.fst h).symm
theorem strict_false (l : List UInt8) (x : Int) (h : strictZ l = (x, false)) : x = 0 := by
  unfold strictZ at h
  split at h
  · exact goS_false _ _ _ h
  · exact (congrArg Prod.fst h).symm

theorem goS_step {A x : Int} {p : List UInt8} {r : List (List UInt8)} (h : goS A (p :: r) = (x, true)) : ∃ y, decZ p 255 = (y, true) ∧ goS (A * 256 + y) r = (x, true) := by
  unfold goS at h
  split at h
  · rename_i hp
    refine ⟨(decZ p 255).1, ?_, h⟩
    rw [← hp]
  · exact absurd (congrArg Prod.snd h) (by simp)

theorem strict_back (l : List UInt8) (x : Int) (h : strictZ l = (x, true)) : 0 ≤ x ∧ x ≤ 4294967295 ∧ l = txtZ x := by
  unfold strictZ at h
  split at h
  · rename_i hl
    have hj : Lib.join (dotted l) [46] = l := split_join l 46
    match hd : dotted l, hl, h, hj with
    | [p0, p1, p2, p3], _, h, hj =>
      obtain ⟨x0, d0, h⟩ := goS_step h
      obtain ⟨x1, d1, h⟩ := goS_step h
      obtain ⟨x2, d2, h⟩ := goS_step h
      obtain ⟨x3, d3, h⟩ := goS_step h
      have hx : (((0 * 256 + x0) * 256 + x1) * 256 + x2) * 256 + x3 = x := congrArg Prod.fst h
      obtain ⟨a0, b0, rfl⟩ := dec3_back p0 x0 d0
      obtain ⟨a1, b1, rfl⟩ := dec3_back p1 x1 d1
      obtain ⟨a2, b2, rfl⟩ := dec3_back p2 x2 d2
      obtain ⟨a3, b3, rfl⟩ := dec3_back p3 x3 d3
      refine ⟨by omega, by omega, ?_⟩
      rw [← hj]
      have e0 : x / 16777216 = x0 := by omega
      have e1 : x / 65536 % 256 = x1 := by omega
      have e2 : x / 256 % 256 = x2 := by omega
      have e3 : x % 256 = x3 := by omega
      unfold txtZ
      rw [e0, e1, e2, e3]
      simp [Lib.join, txt, List.intercalate]
  · exact absurd (congrArg Prod.snd h) (by simp)

theorem dotted_len_dot (l : List UInt8) : (dotted (l ++ [46])).length = (dotted l).length + 1 := by
  unfold dotted splitB
  rw [dot_behind]
  simp
theorem strict_point (x : Int) (h0 : 0 ≤ x) (h1 : x ≤ 4294967295) : strictZ (txtZ x ++ [46]) = (0, false) := by
  refine strictZ_no ?_
  rw [dotted_len_dot]
  unfold txtZ
  rw [dotted_txt _ _ _ _ (by omega) (by omega) (by omega) (by omega)]
  simp
theorem strict_nought (x : Int) (h0 : 0 ≤ x) (h1 : x ≤ 4294967295) : strictZ ([48] ++ txtZ x) = (0, false) := by
  unfold txtZ txt
  have e : ([48] : List UInt8) ++ (dec3 (x / 16777216).toNat ++ [46] ++ (dec3 (x / 65536 % 256).toNat ++ [46] ++ (dec3 (x / 256 % 256).toNat ++ [46] ++ dec3 (x % 256).toNat))) = (48 :: dec3 (x / 16777216).toNat) ++ [46] ++ (dec3 (x / 65536 % 256).toNat ++ [46] ++ (dec3 (x / 256 % 256).toNat ++ [46] ++ dec3 (x % 256).toNat)) := by simp
  rw [e]
  unfold strictZ
  rw [dotted_cons]
  · split
    · unfold goS
      rw [decZ_form (48 :: dec3 (x / 16777216).toNat) 255 (.inr ⟨by
        have := List.length_pos_iff.2 (dec3_ne (x / 16777216).toNat (by omega))
        simp only [List.length_cons]; omega, rfl⟩)]
      rfl
    · rfl
  · intro c hc
    rcases List.mem_cons.1 hc with h | h
    · subst h; rfl
    · exact dec3_dot _ (by omega) c h
end Go.Proofs.YtaojjkknmaldiaaDoor
