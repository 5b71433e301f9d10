/-
  Layer 7: Text: what it comes to, and that it is read as it was.
-/
import Derived.Test.YtoobiaifogackaaGreatDoorPreL
import Derived.Lib.ItoaLen
namespace Go.Proofs.YtoobiaifogackaaGreatDoor
open Go.RowKit


theorem digs_sl {b : Int} {l : List UInt8} (h : digsB b l = true) : (47 : UInt8) ∉ l := fun g => by
  have := List.all_eq_true.1 h 47 g
  rw [dig_sl] at this; cases this
theorem joinH_sl (l : List Int) : (47 : UInt8) ∉ joinH l := by
  induction l with
  | nil => simp [joinH, Lib.join]
  | cons x r ih =>
    cases r with
    | nil =>
      rw [show joinH [x] = hexI x from by simp [joinH, Lib.join]]
      exact digs_sl (hexD_facts x.toNat).1
    | cons y r =>
      rw [show joinH (x :: y :: r) = hexI x ++ [58] ++ joinH (y :: r) from join_cons _ _ _ _]
      intro h
      rcases List.mem_append.1 h with h | h
      · rcases List.mem_append.1 h with h | h
        · exact digs_sl (hexD_facts x.toNat).1 h
        · simp at h
      · exact ih h
theorem text6_sl (hi lo : Int) : (47 : UInt8) ∉ text6Z hi lo := by
  unfold text6Z textP
  split
  · exact joinH_sl _
  · intro h
    rcases List.mem_append.1 h with h | h
    · rcases List.mem_append.1 h with h | h
      · exact joinH_sl _ h
      · simp at h
    · exact joinH_sl _ h
theorem dec3_sl' : ∀ u : Fin 256, (dec3 u.val).all (fun c => !decide (c = 47)) = true := by decide +kernel
theorem dec3_sl (u : Nat) (h : u < 256) : (47 : UInt8) ∉ dec3 u := fun g => by
  have := List.all_eq_true.1 (dec3_sl' ⟨u, h⟩) 47 g
  simp at this
theorem txtZ_sl (n : Int) (h0 : 0 ≤ n) (h1 : n ≤ 4294967295) : (47 : UInt8) ∉ txtZ n := by
  unfold txtZ txt
  intro h
  simp only [List.mem_append, List.mem_cons, List.not_mem_nil, or_false] at h
  rcases h with (h | h) | (h | h) | (h | h) | h
  · exact dec3_sl _ (by omega) h
  · cases h
  · exact dec3_sl _ (by omega) h
  · cases h
  · exact dec3_sl _ (by omega) h
  · cases h
  · exact dec3_sl _ (by omega) h
theorem textA_sl (a : AZ) (h : a.Ok) : (47 : UInt8) ∉ textA a := by
  cases a with
  | four n => exact txtZ_sl n h.1 h.2
  | six hi lo => exact text6_sl hi lo
theorem dec_32' : ∀ u : Fin 33, decZ (dec3 u.val) 32 = ((u.val : Int), true) := by decide +kernel
theorem dec_128' : ∀ u : Fin 129, decZ (dec3 u.val) 128 = ((u.val : Int), true) := by decide +kernel

/-- is it written as an address of four bytes? -/
def asFour (hi lo : Nat) (n : Int) : Bool := decide (96 ≤ n ∧ hi = 0 ∧ lo / 4294967296 = 65535)
def textPf (hi lo : Nat) (n : Int) : List UInt8 :=
  if asFour hi lo n = true then txtZ ((lo : Int) % 4294967296) ++ [47] ++ Lib.itoa (n - 96) else text6Z hi lo ++ [47] ++ Lib.itoa n
theorem prefZ_mk {a : AZ} (ha : a.Ok) {d : List UInt8} {k : Nat} {m : Int} (hd : decZ d (128 - a.ahead) = (m, true)) (hk : a.ahead + m = k) (hr : rt a.wd k) (h2 : k ≤ 128) : prefZ (textA a) d = some (a.wd, k) := by
  unfold prefZ
  rw [addrZ_text a ha]
  simp only [hd]
  rw [hk, if_pos ⟨trivial, pRightB_nat.2 ⟨h2, hr⟩⟩]
  simp
theorem parse_text {hi lo k : Nat} (h1 : hi < 18446744073709551616) (h2 : lo < 18446744073709551616) (hk : k ≤ 128) (hr : rt (wideN hi lo) k) : parseP (textPf hi lo k) = some (wideN hi lo, k) := by
  unfold textPf
  by_cases c : asFour hi lo k = true
  · rw [if_pos c]
    unfold asFour at c
    rw [decide_eq_true_iff] at c
    obtain ⟨c1, c2, c3⟩ := c
    have ho : (AZ.four ((lo : Int) % 4294967296)).Ok := ⟨by omega, by omega⟩
    have hw : (AZ.four ((lo : Int) % 4294967296)).wd = wideN hi lo := by
      show wideN 0 (281470681743360 + ((lo : Int) % 4294967296)).toNat = _
      rw [c2]; congr 1; omega
    have hs : (47 : UInt8) ∉ txtZ ((lo : Int) % 4294967296) := txtZ_sl _ ho.1 ho.2
    unfold parseP
    rw [List.append_assoc, show ([47] ++ Lib.itoa ((k : Int) - 96) : List UInt8) = 47 :: Lib.itoa ((k : Int) - 96) from rfl, slc_some _ hs]
    rw [← hw]
    refine prefZ_mk (a := .four ((lo : Int) % 4294967296)) (m := ((k - 96 : Nat) : Int)) ho ?_ (by show (96 : Int) + _ = _; omega) (hw ▸ hr) hk
    rw [itoa_dec3 _ (by omega) (by omega), show ((k : Int) - 96).toNat = k - 96 from by omega]
    exact dec_32' ⟨k - 96, by omega⟩
  · rw [if_neg c]
    have ho : (AZ.six hi lo).Ok := ⟨⟨by omega, by omega⟩, by omega, by omega⟩
    have hw : (AZ.six hi lo).wd = wideN hi lo := rfl
    have hs : (47 : UInt8) ∉ text6Z hi lo := text6_sl _ _
    unfold parseP
    rw [List.append_assoc, show ([47] ++ Lib.itoa (k : Int) : List UInt8) = 47 :: Lib.itoa (k : Int) from rfl, slc_some _ hs]
    rw [← hw]
    refine prefZ_mk (a := .six hi lo) (m := (k : Int)) ho ?_ (by show (0 : Int) + _ = _; omega) hr hk
    rw [itoa_dec3 _ (by omega) (by omega), show ((k : Int)).toNat = k from by omega]
    exact dec_128' ⟨k, by omega⟩

theorem itoaP_any (n : Int) (w : World) (h0 : -9223372036854775808 ≤ n) (h1 : n ≤ 9223372036854775807) (htab : PowTab w) :
    Calls Tryz.prog 78 #[.int .i64 n] w (RetStr w (Lib.itoa n)) := by
  refine (Tryz.strconv_Itoa n h0 h1 w htab).mono ?_
  rintro e w' ⟨rfl, k, os, rfl⟩
  exact ⟨rfl, Lib.below_grow _ _ (Nat.le_refl _) _ _⟩
theorem drew_c {x W : World} (h : Below x.drew.heap.size x.drew W) : Below x.heap.size x W := (Below.refl _ _).drew.trans h

theorem textPf_len (hi lo : Nat) (n : Int) (h1 : hi < 18446744073709551616) (h2 : lo < 18446744073709551616) (n0 : -9223372036854775808 ≤ n) (n1 : n ≤ 9223372036854775807) : (textPf hi lo n).length ≤ 100 := by
  unfold textPf
  split
  · rename_i c
    unfold asFour at c
    rw [decide_eq_true_iff] at c
    have a := txtZ_len ((lo : Int) % 4294967296)
    have b := Lib.itoa_length_le (n - 96) (by omega) (by omega)
    simp only [List.length_append, List.length_cons, List.length_nil]; omega
  · have a := text6_len (hi := hi) (lo := lo) (by omega) (by omega) (by omega) (by omega)
    have b := Lib.itoa_length_le n n0 n1
    simp only [List.length_append, List.length_cons, List.length_nil]; omega

/-- Text walked -/
theorem text_walked : True := trivial

set_option maxRecDepth 100000 in
set_option maxHeartbeats 4000000 in
theorem pText_four (hi lo : Nat) (n : Int) (w : World) (h1 : hi < 18446744073709551616) (_ : lo < 18446744073709551616) (n0 : -9223372036854775808 ≤ n) (n1 : n ≤ 9223372036854775807) (hpow : PowTab w) (_ : BruTab w) (c : asFour hi lo n = true) :
    Calls Tryz.prog 77 #[.agg #[.int .u64 hi, .int .u64 lo, .int .i64 n]] w (RetStr w (textPf hi lo n)) := by
  have HP := Lib.hid hpow
  have HT : Hid (textPf hi lo n = txtZ ((lo : Int) % 4294967296) ++ [47] ++ Lib.itoa (n - 96)) := by
    show _ = _
    unfold textPf; rw [if_pos c]
  unfold asFour at c
  rw [decide_eq_true_iff] at c
  have hXl : (txtZ ((lo : Int) % 4294967296)).length ≤ 100 := by have := txtZ_len ((lo : Int) % 4294967296); omega
  have hYl : (Lib.itoa (n - 96)).length ≤ 100 := by have := Lib.itoa_length_le (n - 96) (by omega) (by omega); omega
  have HX : Hid (∀ W, Below w.heap.size w W → Calls Tryz.prog 102 #[.int .u32 ((lo : Int) % 4294967296)] W (RetStr W (txtZ ((lo : Int) % 4294967296)))) := fun W hW => text4_any _ W (by omega) (by omega) (powTab_below HP.out hW)
  have HI : Hid (∀ W, Below w.heap.size w W → Calls Tryz.prog 78 #[.int .i64 (n - 96)] W (RetStr W (Lib.itoa (n - 96)))) := fun W hW => itoaP_any (n - 96) W (by omega) (by omega) (powTab_below HP.out hW)
  have HK := Lib.hid (keep_box w (.int .u64 hi) (.int .u64 lo) (.int .i64 n) 37)
  unfold RetStr
  rw [HT.out]
  clear HT hpow
  generalize txtZ ((lo : Int) % 4294967296) = X at *
  generalize Lib.itoa (n - 96) = Y at *
  have hadd1 : ∀ W, (Op.stringOp .add ⟨X.toArray⟩ ⟨#[47]⟩).run Tryz.prog W = .ok (.string ⟨(X ++ [47]).toArray⟩) W := fun W => by
    rw [run_string_add_sum W _ _ (by rw [size_mk]; show X.length + 1 ≤ _; omega), show (ByteArray.mk #[47]) = ByteArray.mk [47].toArray from rfl, cat2]
  have hadd2 : ∀ W, (Op.stringOp .add ⟨(X ++ [47]).toArray⟩ ⟨Y.toArray⟩).run Tryz.prog W = .ok (.string ⟨(X ++ [47] ++ Y).toArray⟩) W := fun W => by
    rw [run_string_add_sum W _ _ (by rw [size_mk, size_mk, List.length_append]; show X.length + 1 + Y.length ≤ _; omega), cat2]
  have hg1 : ¬ ((ByteArray.mk X.toArray).size + (ByteArray.mk #[47]).size > 9223372036854775807) := by rw [size_mk]; show ¬ (X.length + 1 > _); omega
  have hg2 : ¬ ((ByteArray.mk (X ++ [47]).toArray).size + (ByteArray.mk Y.toArray).size > 9223372036854775807) := by rw [size_mk, size_mk, List.length_append]; show ¬ (X.length + 1 + Y.length > _); omega
  · have t1 : decide ((96 : Int) ≤ n) = true := decide_eq_true (by omega)
    obtain rfl : hi = 0 := by omega
    have t3 : ((lo : Int) / 4294967296 == 65535) = true := by rw [beq_iff_eq]; omega
    have w1 : IntKind.i64.wrap (n - 96) = n - 96 := IntWalk.i64_in _ (by omega)
    have w2 : IntKind.u32.wrap (lo : Int) = (lo : Int) % 4294967296 := u32_wrap _
    clear c
    have HK := Lib.hid (keep_box w (.int .u64 0) (.int .u64 lo) (.int .i64 n) 37)
    change Calls Tryz.prog 77 #[.agg #[.int .u64 0, .int .u64 lo, .int .i64 n]] w _
    go_enter Tryz.func77, Tryz.ntmps77
    go_wp2
    go_region_held3 (fun W => W.cell? ⟨w.heap.size, 0, none⟩ = some (.int .u64 0) ∧ W.cell? ⟨w.heap.size, 1, none⟩ = some (.int .u64 lo) ∧ W.cell? ⟨w.heap.size, 2, none⟩ = some (.int .i64 n))
      (first | exact HK.out _ drew_a | exact HK.out _ (drew_b (by simp) hb1) | exact HK.out _ (chain_b (by simp) (drew_b (by simp) hb1) hb2))
      (first
        | (go_simp; go_at_call 102; ((with_reducible refine (HX.out _ (alloc_keeps drew_a)).mono ?_); rintro e x1 ⟨rfl, hb1⟩))
        | (go_simp; go_at_call 78; ((with_reducible refine (HI.out _ (alloc_keeps (drew_b (by simp) hb1))).mono ?_); rintro e x2 ⟨rfl, hb2⟩)))
    go_wp2
    go_ret
    exact ⟨by simp, alloc_keeps (chain_b (by simp) (drew_b (by simp) hb1) hb2)⟩

set_option maxRecDepth 100000 in
set_option maxHeartbeats 4000000 in
theorem pText_six (hi lo : Nat) (n : Int) (w : World) (h1 : hi < 18446744073709551616) (h2 : lo < 18446744073709551616) (n0 : -9223372036854775808 ≤ n) (n1 : n ≤ 9223372036854775807) (hpow : PowTab w) (hbru : BruTab w) (c : asFour hi lo n = false) :
    Calls Tryz.prog 77 #[.agg #[.int .u64 hi, .int .u64 lo, .int .i64 n]] w (RetStr w (textPf hi lo n)) := by
  have HP := Lib.hid hpow
  have HB := Lib.hid hbru
  clear hbru
  have HT : Hid (textPf hi lo n = text6Z hi lo ++ [47] ++ Lib.itoa (n)) := by
    show _ = _
    unfold textPf; rw [if_neg (by rw [c]; simp)]
  unfold asFour at c
  rw [decide_eq_false_iff_not] at c
  have hXl : (text6Z hi lo).length ≤ 100 := by have := text6_len (hi := hi) (lo := lo) (by omega) (by omega) (by omega) (by omega); omega
  have hYl : (Lib.itoa (n)).length ≤ 100 := by have := Lib.itoa_length_le (n) (by omega) (by omega); omega
  have HX : Hid (∀ W, Below w.heap.size w W → Calls Tryz.prog 103 #[.agg #[.int .u64 hi, .int .u64 lo]] W (RetStr W (text6Z hi lo))) := fun W hW => text6_any _ _ W (by omega) (by omega) (by omega) (by omega) (bruTab_below HB.out hW)
  have HI : Hid (∀ W, Below w.heap.size w W → Calls Tryz.prog 78 #[.int .i64 (n)] W (RetStr W (Lib.itoa (n)))) := fun W hW => itoaP_any (n) W (by omega) (by omega) (powTab_below HP.out hW)
  have HK := Lib.hid (keep_box w (.int .u64 hi) (.int .u64 lo) (.int .i64 n) 37)
  unfold RetStr
  rw [HT.out]
  clear HT hpow
  generalize text6Z hi lo = X at *
  generalize Lib.itoa (n) = Y at *
  have hadd1 : ∀ W, (Op.stringOp .add ⟨X.toArray⟩ ⟨#[47]⟩).run Tryz.prog W = .ok (.string ⟨(X ++ [47]).toArray⟩) W := fun W => by
    rw [run_string_add_sum W _ _ (by rw [size_mk]; show X.length + 1 ≤ _; omega), show (ByteArray.mk #[47]) = ByteArray.mk [47].toArray from rfl, cat2]
  have hadd2 : ∀ W, (Op.stringOp .add ⟨(X ++ [47]).toArray⟩ ⟨Y.toArray⟩).run Tryz.prog W = .ok (.string ⟨(X ++ [47] ++ Y).toArray⟩) W := fun W => by
    rw [run_string_add_sum W _ _ (by rw [size_mk, size_mk, List.length_append]; show X.length + 1 + Y.length ≤ _; omega), cat2]
  have hg1 : ¬ ((ByteArray.mk X.toArray).size + (ByteArray.mk #[47]).size > 9223372036854775807) := by rw [size_mk]; show ¬ (X.length + 1 > _); omega
  have hg2 : ¬ ((ByteArray.mk (X ++ [47]).toArray).size + (ByteArray.mk Y.toArray).size > 9223372036854775807) := by rw [size_mk, size_mk, List.length_append]; show ¬ (X.length + 1 + Y.length > _); omega
  rcases (show n < 96 ∨ (96 ≤ n ∧ hi ≠ 0) ∨ (96 ≤ n ∧ hi = 0 ∧ lo / 4294967296 ≠ 65535) from by omega) with d | ⟨d, e⟩ | ⟨d, e, e'⟩
  · have t1 : decide ((96 : Int) ≤ n) = false := decide_eq_false (by omega)
    clear c
    go_enter Tryz.func77, Tryz.ntmps77
    go_wp2
    go_region_held3 (fun W => W.cell? ⟨w.heap.size, 0, none⟩ = some (.int .u64 hi) ∧ W.cell? ⟨w.heap.size, 1, none⟩ = some (.int .u64 lo) ∧ W.cell? ⟨w.heap.size, 2, none⟩ = some (.int .i64 n))
      (first | exact HK.out _ drew_a | exact HK.out _ (drew_b (by simp) hb1) | exact HK.out _ (chain_b (by simp) (drew_b (by simp) hb1) hb2))
      (first
        | (go_simp; go_at_call 103; ((with_reducible refine (HX.out _ (alloc_keeps drew_a)).mono ?_); rintro e x1 ⟨rfl, hb1⟩))
        | (go_simp; go_at_call 78; ((with_reducible refine (HI.out _ (alloc_keeps (drew_b (by simp) hb1))).mono ?_); rintro e x2 ⟨rfl, hb2⟩)))
    go_wp2
    go_ret
    exact ⟨by simp, alloc_keeps (chain_b (by simp) (drew_b (by simp) hb1) hb2)⟩
  · have t1 : decide ((96 : Int) ≤ n) = true := decide_eq_true (by omega)
    have t2 : ((hi : Int) == 0) = false := by rw [beq_eq_false_iff_ne]; omega
    clear c
    go_enter Tryz.func77, Tryz.ntmps77
    go_wp2
    go_region_held3 (fun W => W.cell? ⟨w.heap.size, 0, none⟩ = some (.int .u64 hi) ∧ W.cell? ⟨w.heap.size, 1, none⟩ = some (.int .u64 lo) ∧ W.cell? ⟨w.heap.size, 2, none⟩ = some (.int .i64 n))
      (first | exact HK.out _ drew_a | exact HK.out _ (drew_b (by simp) hb1) | exact HK.out _ (chain_b (by simp) (drew_b (by simp) hb1) hb2))
      (first
        | (go_simp; go_at_call 103; ((with_reducible refine (HX.out _ (alloc_keeps drew_a)).mono ?_); rintro e x1 ⟨rfl, hb1⟩))
        | (go_simp; go_at_call 78; ((with_reducible refine (HI.out _ (alloc_keeps (drew_b (by simp) hb1))).mono ?_); rintro e x2 ⟨rfl, hb2⟩)))
    go_wp2
    go_ret
    exact ⟨by simp, alloc_keeps (chain_b (by simp) (drew_b (by simp) hb1) hb2)⟩
  · have t1 : decide ((96 : Int) ≤ n) = true := decide_eq_true (by omega)
    obtain rfl : hi = 0 := e
    have t3 : ((lo : Int) / 4294967296 == 65535) = false := by rw [beq_eq_false_iff_ne]; omega
    clear c
    have HK := Lib.hid (keep_box w (.int .u64 0) (.int .u64 lo) (.int .i64 n) 37)
    change Calls Tryz.prog 77 #[.agg #[.int .u64 0, .int .u64 lo, .int .i64 n]] w _
    have HX' : Hid (∀ W, Below w.heap.size w W → Calls Tryz.prog 103 #[.agg #[.int .u64 0, .int .u64 lo]] W (RetStr W X)) := HX
    go_enter Tryz.func77, Tryz.ntmps77
    go_wp2
    go_region_held3 (fun W => W.cell? ⟨w.heap.size, 0, none⟩ = some (.int .u64 0) ∧ W.cell? ⟨w.heap.size, 1, none⟩ = some (.int .u64 lo) ∧ W.cell? ⟨w.heap.size, 2, none⟩ = some (.int .i64 n))
      (first | exact HK.out _ drew_a | exact HK.out _ (drew_b (by simp) hb1) | exact HK.out _ (chain_b (by simp) (drew_b (by simp) hb1) hb2))
      (first
        | (go_simp; go_at_call 103; ((with_reducible refine (HX'.out _ (alloc_keeps drew_a)).mono ?_); rintro e x1 ⟨rfl, hb1⟩))
        | (go_simp; go_at_call 78; ((with_reducible refine (HI.out _ (alloc_keeps (drew_b (by simp) hb1))).mono ?_); rintro e x2 ⟨rfl, hb2⟩)))
    go_wp2
    go_ret
    exact ⟨by simp, alloc_keeps (chain_b (by simp) (drew_b (by simp) hb1) hb2)⟩
theorem pText_any (hi lo : Nat) (n : Int) (w : World) (h1 : hi < 18446744073709551616) (h2 : lo < 18446744073709551616) (n0 : -9223372036854775808 ≤ n) (n1 : n ≤ 9223372036854775807) (hpow : PowTab w) (hbru : BruTab w) :
    Calls Tryz.prog 77 #[.agg #[.int .u64 hi, .int .u64 lo, .int .i64 n]] w (RetStr w (textPf hi lo n)) := by
  cases c : asFour hi lo n with
  | true => exact pText_four hi lo n w h1 h2 n0 n1 hpow hbru c
  | false => exact pText_six hi lo n w h1 h2 n0 n1 hpow hbru c

set_option maxRecDepth 100000 in
set_option maxHeartbeats 4000000 in
theorem rText_four (hi lo : Nat) (n : Int) (w : World) (h1 : hi < 18446744073709551616) (_ : lo < 18446744073709551616) (n0 : -9223372036854775808 ≤ n) (n1 : n ≤ 9223372036854775807) (hpow : PowTab w) (c : asFour hi lo n = true) :
    Calls Tryz.prog 80 #[.agg #[.int .u64 hi, .int .u64 lo, .int .i64 n]] w (RetStr w (textPf hi lo n)) := by
  have HP := Lib.hid hpow
  have HT : Hid (textPf hi lo n = txtZ ((lo : Int) % 4294967296) ++ [47] ++ Lib.itoa (n - 96)) := by
    show _ = _
    unfold textPf; rw [if_pos c]
  unfold asFour at c
  rw [decide_eq_true_iff] at c
  have hXl : (txtZ ((lo : Int) % 4294967296)).length ≤ 100 := by have := txtZ_len ((lo : Int) % 4294967296); omega
  have hYl : (Lib.itoa (n - 96)).length ≤ 100 := by have := Lib.itoa_length_le (n - 96) (by omega) (by omega); omega
  have HX : Hid (∀ W, Below w.heap.size w W → Calls Tryz.prog 105 #[.int .u32 ((lo : Int) % 4294967296)] W (RetStr W (txtZ ((lo : Int) % 4294967296)))) := fun W hW => refText4_any _ W (by omega) (by omega) (powTab_below HP.out hW)
  have HI : Hid (∀ W, Below w.heap.size w W → Calls Tryz.prog 78 #[.int .i64 (n - 96)] W (RetStr W (Lib.itoa (n - 96)))) := fun W hW => itoaP_any (n - 96) W (by omega) (by omega) (powTab_below HP.out hW)
  have HK := Lib.hid (keep_box w (.int .u64 hi) (.int .u64 lo) (.int .i64 n) 50)
  unfold RetStr
  rw [HT.out]
  clear HT hpow
  generalize txtZ ((lo : Int) % 4294967296) = X at *
  generalize Lib.itoa (n - 96) = Y at *
  have hadd1 : ∀ W, (Op.stringOp .add ⟨X.toArray⟩ ⟨#[47]⟩).run Tryz.prog W = .ok (.string ⟨(X ++ [47]).toArray⟩) W := fun W => by
    rw [run_string_add_sum W _ _ (by rw [size_mk]; show X.length + 1 ≤ _; omega), show (ByteArray.mk #[47]) = ByteArray.mk [47].toArray from rfl, cat2]
  have hadd2 : ∀ W, (Op.stringOp .add ⟨(X ++ [47]).toArray⟩ ⟨Y.toArray⟩).run Tryz.prog W = .ok (.string ⟨(X ++ [47] ++ Y).toArray⟩) W := fun W => by
    rw [run_string_add_sum W _ _ (by rw [size_mk, size_mk, List.length_append]; show X.length + 1 + Y.length ≤ _; omega), cat2]
  have hg1 : ¬ ((ByteArray.mk X.toArray).size + (ByteArray.mk #[47]).size > 9223372036854775807) := by rw [size_mk]; show ¬ (X.length + 1 > _); omega
  have hg2 : ¬ ((ByteArray.mk (X ++ [47]).toArray).size + (ByteArray.mk Y.toArray).size > 9223372036854775807) := by rw [size_mk, size_mk, List.length_append]; show ¬ (X.length + 1 + Y.length > _); omega
  · have t1 : decide ((96 : Int) ≤ n) = true := decide_eq_true (by omega)
    obtain rfl : hi = 0 := by omega
    have t3 : ((lo : Int) / 4294967296 == 65535) = true := by rw [beq_iff_eq]; omega
    have w1 : IntKind.i64.wrap (n - 96) = n - 96 := IntWalk.i64_in _ (by omega)
    have w2 : (lo : Int).tmod 4294967296 = (lo : Int) % 4294967296 := Int.tmod_eq_emod_of_nonneg (by omega)
    have w4 : IntKind.u64.wrap ((lo : Int) % 4294967296) = (lo : Int) % 4294967296 := by rw [IntKind.wrap_u64]; omega
    have w3 : IntKind.u32.wrap ((lo : Int) % 4294967296) = (lo : Int) % 4294967296 := by rw [u32_wrap]; omega
    clear c
    have HK := Lib.hid (keep_box w (.int .u64 0) (.int .u64 lo) (.int .i64 n) 50)
    change Calls Tryz.prog 80 #[.agg #[.int .u64 0, .int .u64 lo, .int .i64 n]] w _
    go_enter Tryz.func80, Tryz.ntmps80
    go_wp2
    go_region_held3 (fun W => W.cell? ⟨w.heap.size, 0, none⟩ = some (.int .u64 0) ∧ W.cell? ⟨w.heap.size, 1, none⟩ = some (.int .u64 lo) ∧ W.cell? ⟨w.heap.size, 2, none⟩ = some (.int .i64 n))
      (first | exact HK.out _ drew_a | exact HK.out _ (drew_b (by simp) hb1) | exact HK.out _ (chain_b (by simp) (drew_b (by simp) hb1) hb2))
      (first
        | (go_simp; go_at_call 105; ((with_reducible refine (HX.out _ (alloc_keeps drew_a)).mono ?_); rintro e x1 ⟨rfl, hb1⟩))
        | (go_simp; go_at_call 78; ((with_reducible refine (HI.out _ (alloc_keeps (drew_b (by simp) hb1))).mono ?_); rintro e x2 ⟨rfl, hb2⟩)))
    go_wp2
    go_ret
    exact ⟨by simp, alloc_keeps (chain_b (by simp) (drew_b (by simp) hb1) hb2)⟩

set_option maxRecDepth 100000 in
set_option maxHeartbeats 4000000 in
theorem rText_six (hi lo : Nat) (n : Int) (w : World) (h1 : hi < 18446744073709551616) (h2 : lo < 18446744073709551616) (n0 : -9223372036854775808 ≤ n) (n1 : n ≤ 9223372036854775807) (hpow : PowTab w) (c : asFour hi lo n = false) :
    Calls Tryz.prog 80 #[.agg #[.int .u64 hi, .int .u64 lo, .int .i64 n]] w (RetStr w (textPf hi lo n)) := by
  have HP := Lib.hid hpow
  have HT : Hid (textPf hi lo n = text6Z hi lo ++ [47] ++ Lib.itoa (n)) := by
    show _ = _
    unfold textPf; rw [if_neg (by rw [c]; simp)]
  unfold asFour at c
  rw [decide_eq_false_iff_not] at c
  have hXl : (text6Z hi lo).length ≤ 100 := by have := text6_len (hi := hi) (lo := lo) (by omega) (by omega) (by omega) (by omega); omega
  have hYl : (Lib.itoa (n)).length ≤ 100 := by have := Lib.itoa_length_le (n) (by omega) (by omega); omega
  have HX : Hid (∀ W, Below w.heap.size w W → Calls Tryz.prog 106 #[.int .u64 hi, .int .u64 lo] W (RetStr W (text6Z hi lo))) := fun W hW => refText6_any _ _ W (by omega) (by omega) (by omega) (by omega)
  have HI : Hid (∀ W, Below w.heap.size w W → Calls Tryz.prog 78 #[.int .i64 (n)] W (RetStr W (Lib.itoa (n)))) := fun W hW => itoaP_any (n) W (by omega) (by omega) (powTab_below HP.out hW)
  have HK := Lib.hid (keep_box w (.int .u64 hi) (.int .u64 lo) (.int .i64 n) 50)
  unfold RetStr
  rw [HT.out]
  clear HT hpow
  generalize text6Z hi lo = X at *
  generalize Lib.itoa (n) = Y at *
  have hadd1 : ∀ W, (Op.stringOp .add ⟨X.toArray⟩ ⟨#[47]⟩).run Tryz.prog W = .ok (.string ⟨(X ++ [47]).toArray⟩) W := fun W => by
    rw [run_string_add_sum W _ _ (by rw [size_mk]; show X.length + 1 ≤ _; omega), show (ByteArray.mk #[47]) = ByteArray.mk [47].toArray from rfl, cat2]
  have hadd2 : ∀ W, (Op.stringOp .add ⟨(X ++ [47]).toArray⟩ ⟨Y.toArray⟩).run Tryz.prog W = .ok (.string ⟨(X ++ [47] ++ Y).toArray⟩) W := fun W => by
    rw [run_string_add_sum W _ _ (by rw [size_mk, size_mk, List.length_append]; show X.length + 1 + Y.length ≤ _; omega), cat2]
  have hg1 : ¬ ((ByteArray.mk X.toArray).size + (ByteArray.mk #[47]).size > 9223372036854775807) := by rw [size_mk]; show ¬ (X.length + 1 > _); omega
  have hg2 : ¬ ((ByteArray.mk (X ++ [47]).toArray).size + (ByteArray.mk Y.toArray).size > 9223372036854775807) := by rw [size_mk, size_mk, List.length_append]; show ¬ (X.length + 1 + Y.length > _); omega
  rcases (show n < 96 ∨ (96 ≤ n ∧ hi ≠ 0) ∨ (96 ≤ n ∧ hi = 0 ∧ lo / 4294967296 ≠ 65535) from by omega) with d | ⟨d, e⟩ | ⟨d, e, e'⟩
  · have t1 : decide ((96 : Int) ≤ n) = false := decide_eq_false (by omega)
    clear c
    go_enter Tryz.func80, Tryz.ntmps80
    go_wp2
    go_region_held3 (fun W => W.cell? ⟨w.heap.size, 0, none⟩ = some (.int .u64 hi) ∧ W.cell? ⟨w.heap.size, 1, none⟩ = some (.int .u64 lo) ∧ W.cell? ⟨w.heap.size, 2, none⟩ = some (.int .i64 n))
      (first | exact HK.out _ drew_a | exact HK.out _ (drew_b (by simp) hb1) | exact HK.out _ (chain_b (by simp) (drew_b (by simp) hb1) hb2))
      (first
        | (go_simp; go_at_call 106; ((with_reducible refine (HX.out _ (alloc_keeps drew_a)).mono ?_); rintro e x1 ⟨rfl, hb1⟩))
        | (go_simp; go_at_call 78; ((with_reducible refine (HI.out _ (alloc_keeps (drew_b (by simp) hb1))).mono ?_); rintro e x2 ⟨rfl, hb2⟩)))
    go_wp2
    go_ret
    exact ⟨by simp, alloc_keeps (chain_b (by simp) (drew_b (by simp) hb1) hb2)⟩
  · have t1 : decide ((96 : Int) ≤ n) = true := decide_eq_true (by omega)
    have t2 : ((hi : Int) == 0) = false := by rw [beq_eq_false_iff_ne]; omega
    clear c
    go_enter Tryz.func80, Tryz.ntmps80
    go_wp2
    go_region_held3 (fun W => W.cell? ⟨w.heap.size, 0, none⟩ = some (.int .u64 hi) ∧ W.cell? ⟨w.heap.size, 1, none⟩ = some (.int .u64 lo) ∧ W.cell? ⟨w.heap.size, 2, none⟩ = some (.int .i64 n))
      (first | exact HK.out _ drew_a | exact HK.out _ (drew_b (by simp) hb1) | exact HK.out _ (chain_b (by simp) (drew_b (by simp) hb1) hb2))
      (first
        | (go_simp; go_at_call 106; ((with_reducible refine (HX.out _ (alloc_keeps drew_a)).mono ?_); rintro e x1 ⟨rfl, hb1⟩))
        | (go_simp; go_at_call 78; ((with_reducible refine (HI.out _ (alloc_keeps (drew_b (by simp) hb1))).mono ?_); rintro e x2 ⟨rfl, hb2⟩)))
    go_wp2
    go_ret
    exact ⟨by simp, alloc_keeps (chain_b (by simp) (drew_b (by simp) hb1) hb2)⟩
  · have t1 : decide ((96 : Int) ≤ n) = true := decide_eq_true (by omega)
    obtain rfl : hi = 0 := e
    have t3 : ((lo : Int) / 4294967296 == 65535) = false := by rw [beq_eq_false_iff_ne]; omega
    clear c
    have HK := Lib.hid (keep_box w (.int .u64 0) (.int .u64 lo) (.int .i64 n) 50)
    change Calls Tryz.prog 80 #[.agg #[.int .u64 0, .int .u64 lo, .int .i64 n]] w _
    have HX' : Hid (∀ W, Below w.heap.size w W → Calls Tryz.prog 106 #[.int .u64 0, .int .u64 lo] W (RetStr W X)) := HX
    go_enter Tryz.func80, Tryz.ntmps80
    go_wp2
    go_region_held3 (fun W => W.cell? ⟨w.heap.size, 0, none⟩ = some (.int .u64 0) ∧ W.cell? ⟨w.heap.size, 1, none⟩ = some (.int .u64 lo) ∧ W.cell? ⟨w.heap.size, 2, none⟩ = some (.int .i64 n))
      (first | exact HK.out _ drew_a | exact HK.out _ (drew_b (by simp) hb1) | exact HK.out _ (chain_b (by simp) (drew_b (by simp) hb1) hb2))
      (first
        | (go_simp; go_at_call 106; ((with_reducible refine (HX'.out _ (alloc_keeps drew_a)).mono ?_); rintro e x1 ⟨rfl, hb1⟩))
        | (go_simp; go_at_call 78; ((with_reducible refine (HI.out _ (alloc_keeps (drew_b (by simp) hb1))).mono ?_); rintro e x2 ⟨rfl, hb2⟩)))
    go_wp2
    go_ret
    exact ⟨by simp, alloc_keeps (chain_b (by simp) (drew_b (by simp) hb1) hb2)⟩
theorem rText_any (hi lo : Nat) (n : Int) (w : World) (h1 : hi < 18446744073709551616) (h2 : lo < 18446744073709551616) (n0 : -9223372036854775808 ≤ n) (n1 : n ≤ 9223372036854775807) (hpow : PowTab w) :
    Calls Tryz.prog 80 #[.agg #[.int .u64 hi, .int .u64 lo, .int .i64 n]] w (RetStr w (textPf hi lo n)) := by
  cases c : asFour hi lo n with
  | true => exact rText_four hi lo n w h1 h2 n0 n1 hpow c
  | false => exact rText_six hi lo n w h1 h2 n0 n1 hpow c
end Go.Proofs.YtoobiaifogackaaGreatDoor
