/-
  Layer 5: what is written is read as it was.
-/
import Derived.Test.YtgmfgcpfpopboaaGreatDoorSixQ
namespace Go.Proofs.YtgmfgcpfpopboaaGreatDoor
open Go.RowKit


theorem dgt_no' : ∀ d : Fin 16, (dgt d.val).toNat ≠ 58 ∧ (dgt d.val).toNat ≠ 46 := by decide +kernel
theorem dgt_no (d : Nat) (h : d < 16) : (dgt d).toNat ≠ 58 ∧ (dgt d).toNat ≠ 46 := dgt_no' ⟨d, h⟩
theorem valP_last (a : List UInt8) (c : UInt8) : valP 16 (a ++ [c]) = valP 16 a * 16 + valZ (c.toNat : Int) := by simp [valP]
theorem digs_last (a : List UInt8) (c : UInt8) : digsB 16 (a ++ [c]) = (digsB 16 a && digC 16 c) := by simp [digsB]
theorem hexD_facts (u : Nat) : digsB 16 (hexD u) = true ∧ valP 16 (hexD u) = (u : Int) ∧ hexD u ≠ [] ∧ ∀ c ∈ hexD u, c.toNat ≠ 58 ∧ c.toNat ≠ 46 := by
  induction u using Nat.strongRecOn with
  | ind u ih =>
    by_cases h : u < 16
    · rw [hexD_lo u h]
      refine ⟨?_, ?_, by simp, fun c hc => ?_⟩
      · simp [digsB, dgt_dig 16 u h (by omega)]
      · simp [valP, dgt_val u h]
      · simp at hc; subst hc; exact dgt_no u h
    · rw [hexD_hi u (by omega)]
      obtain ⟨h1, h2, h3, h4⟩ := ih (u / 16) (by omega)
      have hm : u % 16 < 16 := by omega
      refine ⟨?_, ?_, by simp, fun c hc => ?_⟩
      · rw [digs_last, h1, dgt_dig 16 _ hm (by omega)]; rfl
      · rw [valP_last, h2, dgt_val _ hm]; omega
      · rcases List.mem_append.1 hc with hc | hc
        · exact h4 c hc
        · simp at hc; subst hc; exact dgt_no _ hm
theorem has_no {k c : UInt8} (h : c.toNat ≠ k.toNat) : hasB [k] c = false := by
  have : k ≠ c := fun e => h (by rw [e])
  simp [hasB, this]
theorem hexI_piece {x : Int} (h : 0 ≤ x ∧ x ≤ 65535) : pieceZ (hexI x) = (x, true) := by
  obtain ⟨h1, h2, h3, _⟩ := hexD_facts x.toNat
  have hl : (hexD x.toNat).length ≤ 4 := hexI_len h
  have hp : 0 < (hexD x.toNat).length := List.length_pos_iff.2 h3
  unfold hexI
  rw [pieceZ_yes (by omega) h1]
  congr 1
  rw [h2]; omega
theorem hexI_strict (x : Int) : (strictZ (hexI x)).2 = false := by
  unfold hexI
  rw [strictZ_no]
  rw [dotted_one _ (fun c hc => has_no ((hexD_facts x.toNat).2.2.2 c hc).2)]
  simp

theorem colons_cons (a r : List UInt8) (h : ∀ c ∈ a, hasB [58] c = false) : colons (a ++ [58] ++ r) = a :: colons r := by
  unfold colons splitB spl
  rw [List.foldl_append, List.foldl_append, spl_none _ a [] [] h]
  have e : [58].foldl (splStep (hasB [58])) (([] : List (List UInt8)), ([] : List UInt8) ++ a) = ([a], []) := by simp [splStep, hasB]
  rw [e, spl_shift _ r [a] []]
  simp
theorem colons_one (a : List UInt8) (h : ∀ c ∈ a, hasB [58] c = false) : colons a = [a] := by
  unfold colons splitB spl
  rw [spl_none _ a [] [] h]
  simp
theorem join_cons (sep x y : List UInt8) (z : List (List UInt8)) : Lib.join (x :: y :: z) sep = x ++ sep ++ Lib.join (y :: z) sep := by simp [Lib.join, List.intercalate]
theorem hexI_col (x : Int) : ∀ c ∈ hexI x, hasB [58] c = false := fun c hc => has_no ((hexD_facts x.toNat).2.2.2 c hc).1
theorem colons_join (l : List Int) (h : l ≠ []) : colons (joinH l) = l.map hexI := by
  induction l with
  | nil => exact absurd rfl h
  | cons x r ih =>
    cases r with
    | nil => simp only [joinH, List.map_cons, List.map_nil]; rw [show Lib.join [hexI x] [58] = hexI x from by simp [Lib.join]]; exact colons_one _ (hexI_col x)
    | cons y r =>
      have e : joinH (x :: y :: r) = hexI x ++ [58] ++ joinH (y :: r) := join_cons _ _ _ _
      rw [e, colons_cons _ _ (hexI_col x), ih (by simp)]
      rfl
theorem rowP_hex (last : Bool) (l : List Int) (h : In16 l) : ∀ acc, rowP last acc (l.map hexI) = (acc ++ l, true) := by
  induction l with
  | nil => intro acc; simp [rowP]
  | cons x r ih =>
    intro acc
    rw [List.map_cons, rowP_yes (x := x) (fun hc => by rw [hexI_strict] at hc; exact absurd hc.2.2 (by decide)) (hexI_piece (h x (by simp))), ih (fun y hy => h y (by simp [hy]))]
    simp
theorem joinH_ne (l : List Int) (h : l ≠ []) : joinH l ≠ [] := by
  cases l with
  | nil => exact absurd rfl h
  | cons x r =>
    have hx : hexI x ≠ [] := (hexD_facts x.toNat).2.2.1
    cases r with
    | nil => simpa [joinH, Lib.join] using hx
    | cons y r =>
      rw [show joinH (x :: y :: r) = hexI x ++ [58] ++ joinH (y :: r) from join_cons _ _ _ _]
      simp
theorem rowZ_join (last : Bool) (l : List Int) (h : In16 l) : rowZ (joinH l) last = (l, true) := by
  by_cases e : l = []
  · subst e; rfl
  · unfold rowZ
    rw [if_neg (joinH_ne l e), colons_join l e, rowP_hex last l h]
    rfl

theorem cc_skip (x y : List UInt8) (h : ∀ c ∈ x, c ≠ 58) : ccAt (x ++ y) = (ccAt y).map (· + x.length) := by
  induction x with
  | nil => show ccAt y = _; cases ccAt y <;> rfl
  | cons a r ih =>
    rw [List.cons_append, ccAt, if_neg (fun hc => h a (by simp) hc.1), ih (fun c hc => h c (by simp [hc]))]
    cases ccAt y with
    | none => rfl
    | some k => simp; omega
theorem cc_colon (z : List UInt8) (h : z.head? ≠ some 58) : ccAt (58 :: z) = (ccAt z).map (· + 1) := by
  rw [ccAt, if_neg (fun hc => h hc.2)]
theorem hexI_ne58 (x : Int) : ∀ c ∈ hexI x, c ≠ 58 := fun c hc e => ((hexD_facts x.toNat).2.2.2 c hc).1 (by rw [e]; rfl)
theorem joinH_head (l : List Int) : (joinH l).head? ≠ some 58 := by
  cases l with
  | nil => simp [joinH, Lib.join]
  | cons x r =>
    have hx := (hexD_facts x.toNat).2.2.1
    have h58 := hexI_ne58 x
    have key : ∀ y, (hexI x ++ y).head? ≠ some 58 := fun y => by
      cases e : hexI x with
      | nil => exact absurd e hx
      | cons c s =>
        rw [e] at h58
        intro hc
        simp at hc
        exact h58 c (by simp) hc
    cases r with
    | nil => have := key []; simpa [joinH, Lib.join] using this
    | cons y r =>
      rw [show joinH (x :: y :: r) = hexI x ++ [58] ++ joinH (y :: r) from join_cons _ _ _ _, List.append_assoc]
      exact key _
theorem cc_join (l : List Int) : ccAt (joinH l) = none := by
  induction l with
  | nil => rfl
  | cons x r ih =>
    cases r with
    | nil =>
      rw [show joinH [x] = hexI x ++ [] from by simp [joinH, Lib.join], cc_skip _ _ (hexI_ne58 x)]
      rfl
    | cons y r =>
      rw [show joinH (x :: y :: r) = hexI x ++ [58] ++ joinH (y :: r) from join_cons _ _ _ _, List.append_assoc, cc_skip _ _ (hexI_ne58 x)]
      rw [show [58] ++ joinH (y :: r) = 58 :: joinH (y :: r) from rfl, cc_colon _ (joinH_head _), ih]
      rfl
theorem cc_two (l : List Int) (y : List UInt8) : ccAt (joinH l ++ 58 :: 58 :: y) = some (joinH l).length := by
  induction l with
  | nil => rfl
  | cons x r ih =>
    cases r with
    | nil =>
      rw [show joinH [x] = hexI x from by simp [joinH, Lib.join], cc_skip _ _ (hexI_ne58 x)]
      rw [show ccAt (58 :: 58 :: y) = some 0 from by rw [ccAt, if_pos ⟨rfl, rfl⟩]]
      simp
    | cons z r =>
      rw [show joinH (x :: z :: r) = hexI x ++ [58] ++ joinH (z :: r) from join_cons _ _ _ _, List.append_assoc, List.append_assoc, cc_skip _ _ (hexI_ne58 x)]
      have hh : (joinH (z :: r) ++ 58 :: 58 :: y).head? ≠ some 58 := by
        have h1 := joinH_head (z :: r)
        have h2 := joinH_ne (z :: r) (by simp)
        cases e : joinH (z :: r) with
        | nil => exact absurd e h2
        | cons c s => rw [e] at h1; simpa using h1
      rw [show [58] ++ (joinH (z :: r) ++ 58 :: 58 :: y) = 58 :: (joinH (z :: r) ++ 58 :: 58 :: y) from rfl, cc_colon _ hh, ih]
      simp only [Option.map_some, List.length_append, List.length_singleton]
      congr 1
      omega

theorem zr_fill {p : List Int} {f n : Nat} (hl : f + n ≤ p.length) (h : zrB p f n = true) : p.take f ++ List.replicate n 0 ++ p.drop (f + n) = p := by
  have e : (p.drop f).take n = List.replicate n 0 := by
    rw [List.eq_replicate_iff]
    refine ⟨by simp; omega, fun x hx => ?_⟩
    have := List.all_eq_true.1 h x hx
    exact of_decide_eq_true this
  rw [← e, ← List.drop_drop, List.append_assoc, List.take_append_drop, List.take_append_drop]
theorem sixL_text {p : List Int} (hp : p.length = 8) (hin : In16 p) : sixL (textP p) = (p, true) := by
  have hle := lrAt_le p
  unfold textP
  split
  · rw [sixL_none (cc_join p) (rowZ_join true p hin), if_pos ⟨rfl, hp⟩]
  · rename_i hne
    have his := lr_is hp hne
    generalize (lrAt (zeroB p) 8).2.1 = F at *
    generalize (lrAt (zeroB p) 8).2.2 = T at *
    have hcat : joinH (p.take F) ++ [58, 58] ++ joinH (p.drop T) = joinH (p.take F) ++ 58 :: 58 :: joinH (p.drop T) := by simp
    rw [hcat]
    have h1 : (joinH (p.take F) ++ 58 :: 58 :: joinH (p.drop T)).take (joinH (p.take F)).length = joinH (p.take F) := List.take_left
    have h2 : (joinH (p.take F) ++ 58 :: 58 :: joinH (p.drop T)).drop ((joinH (p.take F)).length + 2) = joinH (p.drop T) := by
      rw [← List.drop_drop, List.drop_left]; rfl
    rw [sixL_some (T := p.take F) (U := p.drop T) (b := true) (c := true) (cc_two (p.take F) (joinH (p.drop T))) (by rw [h1]; exact rowZ_join false _ (hin.take F)) (by rw [h2]; exact rowZ_join true _ (hin.drop T))]
    have hlen : (p.take F).length + (p.drop T).length = 8 - (T - F) := by rw [List.length_take, List.length_drop, hp]; omega
    rw [if_pos ⟨rfl, rfl, by omega⟩, hlen, show 8 - (8 - (T - F)) = T - F from by omega]
    have := zr_fill (p := p) (f := F) (n := T - F) (by omega) his.2
    rw [show F + (T - F) = T from by omega] at this
    rw [this]
theorem six_text {hi lo : Int} (h0 : 0 ≤ hi) (h1 : hi ≤ 18446744073709551615) (l0 : 0 ≤ lo) (l1 : lo ≤ 18446744073709551615) : sixZ (text6Z hi lo) = ((hi, lo), true) := by
  unfold sixZ text6Z
  rw [sixL_text rfl (pcs_in h0 h1 l0 l1), hi4_pcs, lo4_pcs]
theorem join_len1 (ps : List (List UInt8)) (h : ∀ p ∈ ps, p.length ≤ 4) (hn : ps ≠ []) : (Lib.join ps [58]).length + 1 ≤ 5 * ps.length := by
  induction ps with
  | nil => exact absurd rfl hn
  | cons p r ih =>
    have h1 := h p (by simp)
    cases r with
    | nil => simp [Lib.join]; omega
    | cons q r =>
      have h2 := ih (fun x hx => h x (by simp [hx])) (by simp)
      rw [join_cons, List.length_append, List.length_append, List.length_cons (a := p)]
      simp only [List.length_singleton]
      omega
theorem text6_len {hi lo : Int} (h0 : 0 ≤ hi) (h1 : hi ≤ 18446744073709551615) (l0 : 0 ≤ lo) (l1 : lo ≤ 18446744073709551615) : (text6Z hi lo).length ≤ 39 := by
  have hin := pcs_in h0 h1 l0 l1
  have hp : (pcs hi lo).length = 8 := rfl
  unfold text6Z
  generalize pcs hi lo = p at *
  have hle := lrAt_le p
  unfold textP
  split
  · have := join_len1 (p.map hexI) (fun q hq => by
      obtain ⟨x, hx, rfl⟩ := List.mem_map.1 hq
      exact hexI_len (hin x hx)) (by intro e; rw [List.map_eq_nil_iff] at e; rw [e] at hp; cases hp)
    rw [List.length_map, hp] at this
    unfold joinH
    omega
  · rename_i hne
    have his := lr_is hp hne
    have a1 := joinH_len (hin.take (lrAt (zeroB p) 8).2.1)
    have a2 := joinH_len (hin.drop (lrAt (zeroB p) 8).2.2)
    rw [List.length_take, hp] at a1
    rw [List.length_drop, hp] at a2
    simp only [List.length_append, List.length_cons, List.length_nil]
    omega
end Go.Proofs.YtgmfgcpfpopboaaGreatDoor
