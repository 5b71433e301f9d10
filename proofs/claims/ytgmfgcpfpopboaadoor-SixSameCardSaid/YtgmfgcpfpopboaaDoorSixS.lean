/-
  Layer 5: great letters are as small ones; noughts ahead change nothing.
-/
import Derived.Test.YtgmfgcpfpopboaaDoorSixR
import Derived.Lib.Case
namespace Go.Proofs.YtgmfgcpfpopboaaDoor
open Go.RowKit


theorem up_all' : ∀ i : Fin 256, valZ ((Lib.upperB (UInt8.ofNat i.val)).toNat : Int) = valZ ((UInt8.ofNat i.val).toNat : Int) ∧ (Lib.upperB (UInt8.ofNat i.val) = 58 ↔ UInt8.ofNat i.val = 58) ∧ (Lib.upperB (UInt8.ofNat i.val) = 46 ↔ UInt8.ofNat i.val = 46) ∧ ((Lib.upperB (UInt8.ofNat i.val)).toNat = 48 ↔ (UInt8.ofNat i.val).toNat = 48) := by decide +kernel
theorem up_all (c : UInt8) : valZ ((Lib.upperB c).toNat : Int) = valZ (c.toNat : Int) ∧ (Lib.upperB c = 58 ↔ c = 58) ∧ (Lib.upperB c = 46 ↔ c = 46) ∧ ((Lib.upperB c).toNat = 48 ↔ c.toNat = 48) := by
  have h := up_all' ⟨c.toNat, c.toNat_lt⟩
  simpa using h
theorem up_has58 (c : UInt8) : hasB [58] (Lib.upperB c) = hasB [58] c := by
  have h := (up_all c).2.1
  simp only [hasB, List.any_cons, List.any_nil, Bool.or_false]
  rw [Bool.eq_iff_iff, beq_iff_eq, beq_iff_eq]
  exact ⟨fun e => (h.1 e.symm).symm, fun e => (h.2 e.symm).symm⟩
theorem up_has46 (c : UInt8) : hasB [46] (Lib.upperB c) = hasB [46] c := by
  have h := (up_all c).2.2.1
  simp only [hasB, List.any_cons, List.any_nil, Bool.or_false]
  rw [Bool.eq_iff_iff, beq_iff_eq, beq_iff_eq]
  exact ⟨fun e => (h.1 e.symm).symm, fun e => (h.2 e.symm).symm⟩
theorem up_digC (b : Int) (c : UInt8) : digC b (Lib.upperB c) = digC b c := by unfold digC; rw [(up_all c).1]
theorem up_digs (b : Int) (l : List UInt8) : digsB b (l.map Lib.upperB) = digsB b l := by
  unfold digsB
  rw [List.all_map]
  congr 1
  funext c
  exact up_digC b c
theorem up_fold (b : Int) (l : List UInt8) : ∀ A : Int, (l.map Lib.upperB).foldl (fun n c => n * b + valZ (c.toNat : Int)) A = l.foldl (fun n c => n * b + valZ (c.toNat : Int)) A := by
  induction l with
  | nil => intro A; rfl
  | cons c r ih => intro A; rw [List.map_cons, List.foldl_cons, List.foldl_cons, (up_all c).1, ih]
theorem up_val (b : Int) (l : List UInt8) : valP b (l.map Lib.upperB) = valP b l := up_fold b l 0
theorem up_dec (l : List UInt8) (m : Int) : decZ (l.map Lib.upperB) m = decZ l m := by
  unfold decZ
  rw [up_digs, show decN (l.map Lib.upperB) = decN l from up_fold 10 l 0, List.length_map]
  cases l with
  | nil => rfl
  | cons c r =>
    simp only [List.map_cons, List.isEmpty_cons, List.getD_cons_zero]
    rw [show decide ((Lib.upperB c).toNat = 48) = decide (c.toNat = 48) from by rw [decide_eq_decide]; exact (up_all c).2.2.2]
theorem spl_map (p : UInt8 → Bool) (f : UInt8 → UInt8) (hf : ∀ c, p (f c) = p c) (l : List UInt8) : ∀ xs t, (l.map f).foldl (splStep p) (xs.map (List.map f), t.map f) = ((l.foldl (splStep p) (xs, t)).1.map (List.map f), (l.foldl (splStep p) (xs, t)).2.map f) := by
  induction l with
  | nil => intro xs t; rfl
  | cons c r ih =>
    intro xs t
    rw [List.map_cons, List.foldl_cons, List.foldl_cons]
    unfold splStep at ih ⊢
    simp only [hf]
    cases h : p c with
    | true =>
      have := ih (xs ++ [t]) []
      simpa using this
    | false =>
      have := ih xs (t ++ [c])
      simpa using this
theorem splitB_map (p : UInt8 → Bool) (f : UInt8 → UInt8) (hf : ∀ c, p (f c) = p c) (l : List UInt8) : splitB p (l.map f) = (splitB p l).map (List.map f) := by
  unfold splitB spl
  have := spl_map p f hf l [] []
  simp only [List.map_nil] at this
  rw [this]
  simp
theorem up_goS (ps : List (List UInt8)) : ∀ A, goS A (ps.map (List.map Lib.upperB)) = goS A ps := by
  induction ps with
  | nil => intro A; rfl
  | cons p r ih => intro A; rw [List.map_cons, goS, goS, up_dec, ih]
theorem up_strict (l : List UInt8) : strictZ (l.map Lib.upperB) = strictZ l := by
  unfold strictZ dotted
  rw [splitB_map _ _ up_has46, List.length_map, up_goS]
theorem up_piece (l : List UInt8) : pieceZ (l.map Lib.upperB) = pieceZ l := by
  unfold pieceZ
  rw [List.length_map, up_digs, up_val]
theorem up_rowP (last : Bool) (ps : List (List UInt8)) : ∀ acc, rowP last acc (ps.map (List.map Lib.upperB)) = rowP last acc ps := by
  induction ps with
  | nil => intro acc; rfl
  | cons p r ih => intro acc; rw [List.map_cons, rowP, rowP, up_strict, up_piece, ih]; simp only [List.map_eq_nil_iff]
theorem up_row (l : List UInt8) (last : Bool) : rowZ (l.map Lib.upperB) last = rowZ l last := by
  unfold rowZ colons
  rw [splitB_map _ _ up_has58, up_rowP]; simp only [List.map_eq_nil_iff]
theorem up_cc (l : List UInt8) : ccAt (l.map Lib.upperB) = ccAt l := by
  induction l with
  | nil => rfl
  | cons a r ih =>
    rw [List.map_cons, ccAt, ccAt, ih]
    have h1 := (up_all a).2.1
    have h2 : (r.map Lib.upperB).head? = some 58 ↔ r.head? = some 58 := by
      cases r with
      | nil => simp
      | cons b r => simpa using (up_all b).2.1
    simp only [h1, h2]
theorem up_six (l : List UInt8) : sixZ (l.map Lib.upperB) = sixZ l := by
  unfold sixZ
  have : sixL (l.map Lib.upperB) = sixL l := by
    unfold sixL
    rw [up_cc]
    cases ccAt l with
    | none => simp only [up_row]
    | some k => simp only [← List.map_take, ← List.map_drop, up_row]
  rw [this]

/-- what is read has signs of ASCII alone -/
def Low (l : List UInt8) : Prop := ∀ c ∈ l, c.toNat < 127
theorem digC_low (b : Int) (c : UInt8) (h : digC b c = true) : c.toNat < 127 := by
  have h1 := (of_decide_eq_true h).1
  unfold valZ at h1
  split at h1
  · omega
  · split at h1
    · omega
    · split at h1 <;> omega
theorem digs_low (b : Int) (l : List UInt8) (h : digsB b l = true) : Low l := fun c hc => digC_low b c (List.all_eq_true.1 h c hc)
theorem spl_low (p : UInt8 → Bool) (hp : ∀ c, p c = true → c.toNat < 127) (l : List UInt8) : ∀ xs t, (∀ x ∈ (l.foldl (splStep p) (xs, t)).1, Low x) → Low (l.foldl (splStep p) (xs, t)).2 → (∀ x ∈ xs, Low x) ∧ Low t ∧ Low l := by
  induction l with
  | nil => intro xs t h1 h2; exact ⟨h1, h2, fun _ h => by cases h⟩
  | cons c r ih =>
    intro xs t h1 h2
    rw [List.foldl_cons] at h1 h2
    cases h : p c with
    | true =>
      rw [show splStep p (xs, t) c = (xs ++ [t], []) from by simp [splStep, h]] at h1 h2
      obtain ⟨a1, a2, a3⟩ := ih _ _ h1 h2
      refine ⟨fun x hx => a1 x (by simp [hx]), a1 t (by simp), fun d hd => ?_⟩
      rcases List.mem_cons.1 hd with rfl | hd
      · exact hp _ h
      · exact a3 d hd
    | false =>
      rw [show splStep p (xs, t) c = (xs, t ++ [c]) from by simp [splStep, h]] at h1 h2
      obtain ⟨a1, a2, a3⟩ := ih _ _ h1 h2
      refine ⟨a1, fun x hx => a2 x (by simp [hx]), fun d hd => ?_⟩
      rcases List.mem_cons.1 hd with rfl | hd
      · exact a2 _ (by simp)
      · exact a3 d hd
theorem splitB_low (p : UInt8 → Bool) (hp : ∀ c, p c = true → c.toNat < 127) (l : List UInt8) (h : ∀ x ∈ splitB p l, Low x) : Low l := by
  unfold splitB spl at h
  exact (spl_low p hp l [] [] (fun x hx => h x (by simp [hx])) (h _ (by simp))).2.2
theorem has_low (k : UInt8) (hk : k.toNat < 127) (c : UInt8) (h : hasB [k] c = true) : c.toNat < 127 := by
  simp only [hasB, List.any_cons, List.any_nil, Bool.or_false, beq_iff_eq] at h
  rw [← h]; exact hk
theorem dec_low (l : List UInt8) (m : Int) (h : (decZ l m).2 = true) : Low l := by
  refine digs_low 10 l ?_
  unfold decZ at h
  split at h
  · cases h
  · rename_i hn
    cases hd : digsB 10 l with
    | true => rfl
    | false => rw [hd] at hn; simp at hn
theorem goS_low (ps : List (List UInt8)) : ∀ A, (goS A ps).2 = true → ∀ p ∈ ps, Low p := by
  induction ps with
  | nil => intro A _ p hp; cases hp
  | cons q r ih =>
    intro A h p hp
    unfold goS at h
    split at h
    · rename_i hq
      rcases List.mem_cons.1 hp with rfl | hp
      · exact dec_low _ _ hq
      · exact ih _ h p hp
    · cases h
theorem strict_low (l : List UInt8) (h : (strictZ l).2 = true) : Low l := by
  unfold strictZ at h
  split at h
  · exact splitB_low _ (has_low 46 (by decide)) l (goS_low _ _ h)
  · cases h
theorem piece_low (l : List UInt8) (h : (pieceZ l).2 = true) : Low l := by
  unfold pieceZ at h
  split at h
  · cases h
  · split at h
    · exact digs_low 16 l (by assumption)
    · cases h
theorem rowP_low (last : Bool) (ps : List (List UInt8)) : ∀ acc, (rowP last acc ps).2 = true → ∀ p ∈ ps, Low p := by
  induction ps with
  | nil => intro A _ p hp; cases hp
  | cons q r ih =>
    intro acc h p hp
    unfold rowP at h
    split at h
    · rename_i hq
      rw [hq.2.1] at hp
      simp at hp
      subst hp
      exact strict_low _ hq.2.2
    · split at h
      · rename_i hq
        rcases List.mem_cons.1 hp with rfl | hp
        · exact piece_low _ hq
        · exact ih _ h p hp
      · cases h
theorem row_low (l : List UInt8) (last : Bool) (h : (rowZ l last).2 = true) : Low l := by
  unfold rowZ at h
  split at h
  · rename_i e; subst e; intro c hc; cases hc
  · exact splitB_low _ (has_low 58 (by decide)) l (rowP_low _ _ _ h)
theorem cc_low {l : List UInt8} {k : Nat} (h : ccAt l = some k) (h1 : Low (l.take k)) (h2 : Low (l.drop (k + 2))) : Low l := by
  induction l generalizing k with
  | nil => intro c hc; cases hc
  | cons a r ih =>
    rw [ccAt] at h
    split at h
    · rename_i hc
      cases h
      cases r with
      | nil => simp at hc
      | cons b r =>
        simp at hc
        obtain ⟨rfl, rfl⟩ := hc
        intro c hc
        simp only [List.mem_cons] at hc
        rcases hc with rfl | rfl | hc
        · decide
        · decide
        · exact h2 c (by simpa using hc)
    · cases hr : ccAt r with
      | none => rw [hr] at h; cases h
      | some j =>
        rw [hr] at h
        cases h
        have hk : Low r := ih hr (fun c hc => h1 c (by simp [hc])) (fun c hc => h2 c (by simpa using hc))
        intro c hc
        rcases List.mem_cons.1 hc with rfl | hc
        · exact h1 _ (by simp)
        · exact hk c hc
theorem six_low (l : List UInt8) (h : (sixZ l).2 = true) : Low l := by
  unfold sixZ sixL at h
  simp only at h
  split at h
  · split at h
    · rename_i hc; exact row_low _ _ hc.1
    · cases h
  · rename_i k hk
    split at h
    · rename_i hc; exact cc_low hk (row_low _ _ hc.1) (row_low _ _ hc.2.1)
    · cases h

/-- pieces of four digits -/
def padI (x : Int) : List UInt8 := List.replicate (4 - (hexI x).length) 48 ++ hexI x
def joinP (l : List Int) : List UInt8 := Lib.join (l.map padI) [58]
theorem digs_app (b : Int) (x y : List UInt8) : digsB b (x ++ y) = (digsB b x && digsB b y) := by simp [digsB]
theorem pad_digs (n : Nat) : digsB 16 (List.replicate n 48) = true := by
  refine List.all_eq_true.2 fun c hc => ?_
  rw [(List.mem_replicate.1 hc).2]; decide
theorem pad_val (n : Nat) (l : List UInt8) : valP 16 (List.replicate n 48 ++ l) = valP 16 l := by
  induction n with
  | zero => rfl
  | succ n ih =>
    rw [List.replicate_succ, List.cons_append]
    have : valP 16 (48 :: (List.replicate n 48 ++ l)) = valP 16 (List.replicate n 48 ++ l) := by
      unfold valP; rw [List.foldl_cons]; rfl
    rw [this, ih]
theorem padI_len {x : Int} (h : 0 ≤ x ∧ x ≤ 65535) : (padI x).length = 4 := by
  have hl : (hexI x).length ≤ 4 := hexI_len h
  unfold padI; rw [List.length_append, List.length_replicate]; omega
theorem padI_no (x : Int) : ∀ c ∈ padI x, c.toNat ≠ 58 ∧ c.toNat ≠ 46 := fun c hc => by
  unfold padI at hc
  rcases List.mem_append.1 hc with hc | hc
  · rw [(List.mem_replicate.1 hc).2]; decide
  · exact (hexD_facts x.toNat).2.2.2 c hc
theorem padI_piece {x : Int} (h : 0 ≤ x ∧ x ≤ 65535) : pieceZ (padI x) = (x, true) := by
  have hl := padI_len h
  rw [pieceZ_yes (by omega) (by unfold padI; rw [digs_app, pad_digs]; exact (hexD_facts x.toNat).1)]
  congr 1
  unfold padI
  rw [pad_val]
  have := (hexD_facts x.toNat).2.1
  unfold hexI
  rw [this]; omega
theorem padI_strict (x : Int) : (strictZ (padI x)).2 = false := by
  rw [strictZ_no]
  rw [dotted_one _ (fun c hc => has_no (padI_no x c hc).2)]
  simp
theorem padI_col (x : Int) : ∀ c ∈ padI x, hasB [58] c = false := fun c hc => has_no (padI_no x c hc).1
theorem padI_ne58 (x : Int) : ∀ c ∈ padI x, c ≠ 58 := fun c hc e => (padI_no x c hc).1 (by rw [e]; rfl)
theorem colons_joinP (l : List Int) (h : l ≠ []) : colons (joinP l) = l.map padI := by
  induction l with
  | nil => exact absurd rfl h
  | cons x r ih =>
    cases r with
    | nil => simp only [joinP, List.map_cons, List.map_nil]; rw [show Lib.join [padI x] [58] = padI x from by simp [Lib.join]]; exact colons_one _ (padI_col x)
    | cons y r =>
      have e : joinP (x :: y :: r) = padI x ++ [58] ++ joinP (y :: r) := join_cons _ _ _ _
      rw [e, colons_cons _ _ (padI_col x), ih (by simp)]
      rfl
theorem rowP_pad (last : Bool) (l : List Int) (h : In16 l) : ∀ acc, rowP last acc (l.map padI) = (acc ++ l, true) := by
  induction l with
  | nil => intro acc; simp [rowP]
  | cons x r ih =>
    intro acc
    rw [List.map_cons, rowP_yes (x := x) (fun hc => by rw [padI_strict] at hc; exact absurd hc.2.2 (by decide)) (padI_piece (h x (by simp))), ih (fun y hy => h y (by simp [hy]))]
    simp
theorem joinP_head (l : List Int) (h : In16 l) : (joinP l).head? ≠ some 58 := by
  cases l with
  | nil => simp [joinP, Lib.join]
  | cons x r =>
    have hx := padI_len (h x (by simp))
    have h58 := padI_ne58 x
    have key : ∀ y, (padI x ++ y).head? ≠ some 58 := fun y => by
      cases e : padI x with
      | nil => rw [e] at hx; cases hx
      | cons c s =>
        rw [e] at h58
        intro hc
        simp at hc
        exact h58 c (by simp) hc
    cases r with
    | nil => have := key []; simpa [joinP, Lib.join] using this
    | cons y r =>
      rw [show joinP (x :: y :: r) = padI x ++ [58] ++ joinP (y :: r) from join_cons _ _ _ _, List.append_assoc]
      exact key _
theorem cc_joinP (l : List Int) (h : In16 l) : ccAt (joinP l) = none := by
  induction l with
  | nil => rfl
  | cons x r ih =>
    cases r with
    | nil =>
      rw [show joinP [x] = padI x ++ [] from by simp [joinP, Lib.join], cc_skip _ _ (padI_ne58 x)]
      rfl
    | cons y r =>
      have hr : In16 (y :: r) := fun z hz => h z (by simp at hz ⊢; exact Or.inr hz)
      rw [show joinP (x :: y :: r) = padI x ++ [58] ++ joinP (y :: r) from join_cons _ _ _ _, List.append_assoc, cc_skip _ _ (padI_ne58 x)]
      rw [show [58] ++ joinP (y :: r) = 58 :: joinP (y :: r) from rfl, cc_colon _ (joinP_head _ hr), ih hr]
      rfl
theorem six_pad {hi lo : Int} (h0 : 0 ≤ hi) (h1 : hi ≤ 18446744073709551615) (l0 : 0 ≤ lo) (l1 : lo ≤ 18446744073709551615) : sixZ (joinP (pcs hi lo)) = ((hi, lo), true) := by
  have hin := pcs_in h0 h1 l0 l1
  have hne : joinP (pcs hi lo) ≠ [] := by
    intro e
    have := colons_joinP (pcs hi lo) (by simp [pcs])
    rw [e] at this
    simp [pcs, colons, splitB, spl] at this
  unfold sixZ
  rw [sixL_none (cc_joinP _ hin) (show rowZ (joinP (pcs hi lo)) true = (pcs hi lo, true) from by
    unfold rowZ
    rw [if_neg hne, colons_joinP _ (by simp [pcs]), rowP_pad true _ hin]
    rfl), if_pos ⟨rfl, rfl⟩, hi4_pcs, lo4_pcs]
end Go.Proofs.YtgmfgcpfpopboaaDoor
