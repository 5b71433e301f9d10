/-
  What the law PolicyBack leans on, and its walk (9 of 16).
-/
import Derived.Lib.ItoaLen
import Derived.Test.YtoobiaifogackaaGreatDoorPolicyBackPkH
namespace Go.Proofs.YtoobiaifogackaaGreatDoor
section
open Go.RowKit
theorem digs_sl {b : Int} {l : List UInt8} (h : digsB b l = true) : (47 : UInt8) ∉ l := fun g => by
  have := List.all_eq_true.1 h 47 g
  rw [dig_sl] at this; cases this
theorem joinH_sl (l : List Int) : (47 : UInt8) ∉ joinH l := by
  induction l with
  | nil => simp [joinH, Lib.join]
  | cons x r ih =>
    cases r with
    | nil =>
      rw [show joinH [x] = hexI x from by simp [joinH, Lib.join]]
      exact digs_sl (hexD_facts x.toNat).1
    | cons y r =>
      rw [show joinH (x :: y :: r) = hexI x ++ [58] ++ joinH (y :: r) from join_cons _ _ _ _]
      intro h
      rcases List.mem_append.1 h with h | h
      · rcases List.mem_append.1 h with h | h
        · exact digs_sl (hexD_facts x.toNat).1 h
        · simp at h
      · exact ih h
theorem text6_sl (hi lo : Int) : (47 : UInt8) ∉ text6Z hi lo := by
  unfold text6Z textP
  split
  · exact joinH_sl _
  · intro h
    rcases List.mem_append.1 h with h | h
    · rcases List.mem_append.1 h with h | h
      · exact joinH_sl _ h
      · simp at h
    · exact joinH_sl _ h
theorem dec3_sl' : ∀ u : Fin 256, (dec3 u.val).all (fun c => !decide (c = 47)) = true := by decide +kernel
theorem dec3_sl (u : Nat) (h : u < 256) : (47 : UInt8) ∉ dec3 u := fun g => by
  have := List.all_eq_true.1 (dec3_sl' ⟨u, h⟩) 47 g
  simp at this
theorem txtZ_sl (n : Int) (h0 : 0 ≤ n) (h1 : n ≤ 4294967295) : (47 : UInt8) ∉ txtZ n := by
  unfold txtZ txt
  intro h
  simp only [List.mem_append, List.mem_cons, List.not_mem_nil, or_false] at h
  rcases h with (h | h) | (h | h) | (h | h) | h
  · exact dec3_sl _ (by omega) h
  · cases h
  · exact dec3_sl _ (by omega) h
  · cases h
  · exact dec3_sl _ (by omega) h
  · cases h
  · exact dec3_sl _ (by omega) h
theorem dec_32' : ∀ u : Fin 33, decZ (dec3 u.val) 32 = ((u.val : Int), true) := by decide +kernel
theorem dec_128' : ∀ u : Fin 129, decZ (dec3 u.val) 128 = ((u.val : Int), true) := by decide +kernel
/-- is it written as an address of four bytes? -/
def asFour (hi lo : Nat) (n : Int) : Bool := decide (96 ≤ n ∧ hi = 0 ∧ lo / 4294967296 = 65535)
def textPf (hi lo : Nat) (n : Int) : List UInt8 :=
  if asFour hi lo n = true then txtZ ((lo : Int) % 4294967296) ++ [47] ++ Lib.itoa (n - 96) else text6Z hi lo ++ [47] ++ Lib.itoa n
theorem prefZ_mk {a : AZ} (ha : a.Ok) {d : List UInt8} {k : Nat} {m : Int} (hd : decZ d (128 - a.ahead) = (m, true)) (hk : a.ahead + m = k) (hr : rt a.wd k) (h2 : k ≤ 128) : prefZ (textA a) d = some (a.wd, k) := by
  unfold prefZ
  rw [addrZ_text a ha]
  simp only [hd]
  rw [hk, if_pos ⟨trivial, pRightB_nat.2 ⟨h2, hr⟩⟩]
  simp
theorem parse_text {hi lo k : Nat} (h1 : hi < 18446744073709551616) (h2 : lo < 18446744073709551616) (hk : k ≤ 128) (hr : rt (wideN hi lo) k) : parseP (textPf hi lo k) = some (wideN hi lo, k) := by
  unfold textPf
  by_cases c : asFour hi lo k = true
  · rw [if_pos c]
    unfold asFour at c
    rw [decide_eq_true_iff] at c
    obtain ⟨c1, c2, c3⟩ := c
    have ho : (AZ.four ((lo : Int) % 4294967296)).Ok := ⟨by omega, by omega⟩
    have hw : (AZ.four ((lo : Int) % 4294967296)).wd = wideN hi lo := by
      show wideN 0 (281470681743360 + ((lo : Int) % 4294967296)).toNat = _
      rw [c2]; congr 1; omega
    have hs : (47 : UInt8) ∉ txtZ ((lo : Int) % 4294967296) := txtZ_sl _ ho.1 ho.2
    unfold parseP
    rw [List.append_assoc, show ([47] ++ Lib.itoa ((k : Int) - 96) : List UInt8) = 47 :: Lib.itoa ((k : Int) - 96) from rfl, slc_some _ hs]
    rw [← hw]
    refine prefZ_mk (a := .four ((lo : Int) % 4294967296)) (m := ((k - 96 : Nat) : Int)) ho ?_ (by show (96 : Int) + _ = _; omega) (hw ▸ hr) hk
    rw [itoa_dec3 _ (by omega) (by omega), show ((k : Int) - 96).toNat = k - 96 from by omega]
    exact dec_32' ⟨k - 96, by omega⟩
  · rw [if_neg c]
    have ho : (AZ.six hi lo).Ok := ⟨⟨by omega, by omega⟩, by omega, by omega⟩
    have hw : (AZ.six hi lo).wd = wideN hi lo := rfl
    have hs : (47 : UInt8) ∉ text6Z hi lo := text6_sl _ _
    unfold parseP
    rw [List.append_assoc, show ([47] ++ Lib.itoa (k : Int) : List UInt8) = 47 :: Lib.itoa (k : Int) from rfl, slc_some _ hs]
    rw [← hw]
    refine prefZ_mk (a := .six hi lo) (m := (k : Int)) ho ?_ (by show (0 : Int) + _ = _; omega) hr hk
    rw [itoa_dec3 _ (by omega) (by omega), show ((k : Int)).toNat = k from by omega]
    exact dec_128' ⟨k, by omega⟩
theorem itoaP_any (n : Int) (w : World) (h0 : -9223372036854775808 ≤ n) (h1 : n ≤ 9223372036854775807) (htab : PowTab w) :
    Calls Tryz.prog 78 #[.int .i64 n] w (RetStr w (Lib.itoa n)) := by
  refine (Tryz.strconv_Itoa n h0 h1 w htab).mono ?_
  rintro e w' ⟨rfl, k, os, rfl⟩
  exact ⟨rfl, Lib.below_grow _ _ (Nat.le_refl _) _ _⟩
theorem drew_c {x W : World} (h : Below x.drew.heap.size x.drew W) : Below x.heap.size x W := (Below.refl _ _).drew.trans h
theorem textPf_len (hi lo : Nat) (n : Int) (h1 : hi < 18446744073709551616) (h2 : lo < 18446744073709551616) (n0 : -9223372036854775808 ≤ n) (n1 : n ≤ 9223372036854775807) : (textPf hi lo n).length ≤ 100 := by
  unfold textPf
  split
  · rename_i c
    unfold asFour at c
    rw [decide_eq_true_iff] at c
    have a := txtZ_len ((lo : Int) % 4294967296)
    have b := Lib.itoa_length_le (n - 96) (by omega) (by omega)
    simp only [List.length_append, List.length_cons, List.length_nil]; omega
  · have a := text6_len (hi := hi) (lo := lo) (by omega) (by omega) (by omega) (by omega)
    have b := Lib.itoa_length_le n n0 n1
    simp only [List.length_append, List.length_cons, List.length_nil]; omega
set_option maxRecDepth 100000 in
set_option maxHeartbeats 4000000 in
theorem pText_four (hi lo : Nat) (n : Int) (w : World) (h1 : hi < 18446744073709551616) (_ : lo < 18446744073709551616) (n0 : -9223372036854775808 ≤ n) (n1 : n ≤ 9223372036854775807) (hpow : PowTab w) (_ : BruTab w) (c : asFour hi lo n = true) :
    Calls Tryz.prog 77 #[.agg #[.int .u64 hi, .int .u64 lo, .int .i64 n]] w (RetStr w (textPf hi lo n)) := by
  have HP := Lib.hid hpow
  have HT : Hid (textPf hi lo n = txtZ ((lo : Int) % 4294967296) ++ [47] ++ Lib.itoa (n - 96)) := by
    show _ = _
    unfold textPf; rw [if_pos c]
  unfold asFour at c
  rw [decide_eq_true_iff] at c
  have hXl : (txtZ ((lo : Int) % 4294967296)).length ≤ 100 := by have := txtZ_len ((lo : Int) % 4294967296); omega
  have hYl : (Lib.itoa (n - 96)).length ≤ 100 := by have := Lib.itoa_length_le (n - 96) (by omega) (by omega); omega
  have HX : Hid (∀ W, Below w.heap.size w W → Calls Tryz.prog 102 #[.int .u32 ((lo : Int) % 4294967296)] W (RetStr W (txtZ ((lo : Int) % 4294967296)))) := fun W hW => text4_any _ W (by omega) (by omega) (powTab_below HP.out hW)
  have HI : Hid (∀ W, Below w.heap.size w W → Calls Tryz.prog 78 #[.int .i64 (n - 96)] W (RetStr W (Lib.itoa (n - 96)))) := fun W hW => itoaP_any (n - 96) W (by omega) (by omega) (powTab_below HP.out hW)
  have HK := Lib.hid (keep_box w (.int .u64 hi) (.int .u64 lo) (.int .i64 n) 37)
  unfold RetStr
  rw [HT.out]
  clear HT hpow
  generalize txtZ ((lo : Int) % 4294967296) = X at *
  generalize Lib.itoa (n - 96) = Y at *
  have hadd1 : ∀ W, (Op.stringOp .add ⟨X.toArray⟩ ⟨#[47]⟩).run Tryz.prog W = .ok (.string ⟨(X ++ [47]).toArray⟩) W := fun W => by
    rw [run_string_add_sum W _ _ (by rw [size_mk]; show X.length + 1 ≤ _; omega), show (ByteArray.mk #[47]) = ByteArray.mk [47].toArray from rfl, cat2]
  have hadd2 : ∀ W, (Op.stringOp .add ⟨(X ++ [47]).toArray⟩ ⟨Y.toArray⟩).run Tryz.prog W = .ok (.string ⟨(X ++ [47] ++ Y).toArray⟩) W := fun W => by
    rw [run_string_add_sum W _ _ (by rw [size_mk, size_mk, List.length_append]; show X.length + 1 + Y.length ≤ _; omega), cat2]
  have hg1 : ¬ ((ByteArray.mk X.toArray).size + (ByteArray.mk #[47]).size > 9223372036854775807) := by rw [size_mk]; show ¬ (X.length + 1 > _); omega
  have hg2 : ¬ ((ByteArray.mk (X ++ [47]).toArray).size + (ByteArray.mk Y.toArray).size > 9223372036854775807) := by rw [size_mk, size_mk, List.length_append]; show ¬ (X.length + 1 + Y.length > _); omega
  · have t1 : decide ((96 : Int) ≤ n) = true := decide_eq_true (by omega)
    obtain rfl : hi = 0 := by omega
    have t3 : ((lo : Int) / 4294967296 == 65535) = true := by rw [beq_iff_eq]; omega
    have w1 : IntKind.i64.wrap (n - 96) = n - 96 := IntWalk.i64_in _ (by omega)
    have w2 : IntKind.u32.wrap (lo : Int) = (lo : Int) % 4294967296 := u32_wrap _
    clear c
    have HK := Lib.hid (keep_box w (.int .u64 0) (.int .u64 lo) (.int .i64 n) 37)
    change Calls Tryz.prog 77 #[.agg #[.int .u64 0, .int .u64 lo, .int .i64 n]] w _
    go_enter Tryz.func77, Tryz.ntmps77
    go_wp2
    go_region_held3 (fun W => W.cell? ⟨w.heap.size, 0, none⟩ = some (.int .u64 0) ∧ W.cell? ⟨w.heap.size, 1, none⟩ = some (.int .u64 lo) ∧ W.cell? ⟨w.heap.size, 2, none⟩ = some (.int .i64 n))
      (first | exact HK.out _ drew_a | exact HK.out _ (drew_b (by simp) hb1) | exact HK.out _ (chain_b (by simp) (drew_b (by simp) hb1) hb2))
      (first
        | (go_simp; go_at_call 102; ((with_reducible refine (HX.out _ (alloc_keeps drew_a)).mono ?_); rintro e x1 ⟨rfl, hb1⟩))
        | (go_simp; go_at_call 78; ((with_reducible refine (HI.out _ (alloc_keeps (drew_b (by simp) hb1))).mono ?_); rintro e x2 ⟨rfl, hb2⟩)))
    go_wp2
    go_ret
    exact ⟨by simp, alloc_keeps (chain_b (by simp) (drew_b (by simp) hb1) hb2)⟩
set_option maxRecDepth 100000 in
set_option maxHeartbeats 4000000 in
theorem pText_six (hi lo : Nat) (n : Int) (w : World) (h1 : hi < 18446744073709551616) (h2 : lo < 18446744073709551616) (n0 : -9223372036854775808 ≤ n) (n1 : n ≤ 9223372036854775807) (hpow : PowTab w) (hbru : BruTab w) (c : asFour hi lo n = false) :
    Calls Tryz.prog 77 #[.agg #[.int .u64 hi, .int .u64 lo, .int .i64 n]] w (RetStr w (textPf hi lo n)) := by
  have HP := Lib.hid hpow
  have HB := Lib.hid hbru
  clear hbru
  have HT : Hid (textPf hi lo n = text6Z hi lo ++ [47] ++ Lib.itoa (n)) := by
    show _ = _
    unfold textPf; rw [if_neg (by rw [c]; simp)]
  unfold asFour at c
  rw [decide_eq_false_iff_not] at c
  have hXl : (text6Z hi lo).length ≤ 100 := by have := text6_len (hi := hi) (lo := lo) (by omega) (by omega) (by omega) (by omega); omega
  have hYl : (Lib.itoa (n)).length ≤ 100 := by have := Lib.itoa_length_le (n) (by omega) (by omega); omega
  have HX : Hid (∀ W, Below w.heap.size w W → Calls Tryz.prog 103 #[.agg #[.int .u64 hi, .int .u64 lo]] W (RetStr W (text6Z hi lo))) := fun W hW => text6_any _ _ W (by omega) (by omega) (by omega) (by omega) (bruTab_below HB.out hW)
  have HI : Hid (∀ W, Below w.heap.size w W → Calls Tryz.prog 78 #[.int .i64 (n)] W (RetStr W (Lib.itoa (n)))) := fun W hW => itoaP_any (n) W (by omega) (by omega) (powTab_below HP.out hW)
  have HK := Lib.hid (keep_box w (.int .u64 hi) (.int .u64 lo) (.int .i64 n) 37)
  unfold RetStr
  rw [HT.out]
  clear HT hpow
  generalize text6Z hi lo = X at *
  generalize Lib.itoa (n) = Y at *
  have hadd1 : ∀ W, (Op.stringOp .add ⟨X.toArray⟩ ⟨#[47]⟩).run Tryz.prog W = .ok (.string ⟨(X ++ [47]).toArray⟩) W := fun W => by
    rw [run_string_add_sum W _ _ (by rw [size_mk]; show X.length + 1 ≤ _; omega), show (ByteArray.mk #[47]) = ByteArray.mk [47].toArray from rfl, cat2]
  have hadd2 : ∀ W, (Op.stringOp .add ⟨(X ++ [47]).toArray⟩ ⟨Y.toArray⟩).run Tryz.prog W = .ok (.string ⟨(X ++ [47] ++ Y).toArray⟩) W := fun W => by
    rw [run_string_add_sum W _ _ (by rw [size_mk, size_mk, List.length_append]; show X.length + 1 + Y.length ≤ _; omega), cat2]
  have hg1 : ¬ ((ByteArray.mk X.toArray).size + (ByteArray.mk #[47]).size > 9223372036854775807) := by rw [size_mk]; show ¬ (X.length + 1 > _); omega
  have hg2 : ¬ ((ByteArray.mk (X ++ [47]).toArray).size + (ByteArray.mk Y.toArray).size > 9223372036854775807) := by rw [size_mk, size_mk, List.length_append]; show ¬ (X.length + 1 + Y.length > _); omega
  rcases (show n < 96 ∨ (96 ≤ n ∧ hi ≠ 0) ∨ (96 ≤ n ∧ hi = 0 ∧ lo / 4294967296 ≠ 65535) from by omega) with d | ⟨d, e⟩ | ⟨d, e, e'⟩
  · have t1 : decide ((96 : Int) ≤ n) = false := decide_eq_false (by omega)
    clear c
    go_enter Tryz.func77, Tryz.ntmps77
    go_wp2
    go_region_held3 (fun W => W.cell? ⟨w.heap.size, 0, none⟩ = some (.int .u64 hi) ∧ W.cell? ⟨w.heap.size, 1, none⟩ = some (.int .u64 lo) ∧ W.cell? ⟨w.heap.size, 2, none⟩ = some (.int .i64 n))
      (first | exact HK.out _ drew_a | exact HK.out _ (drew_b (by simp) hb1) | exact HK.out _ (chain_b (by simp) (drew_b (by simp) hb1) hb2))
      (first
        | (go_simp; go_at_call 103; ((with_reducible refine (HX.out _ (alloc_keeps drew_a)).mono ?_); rintro e x1 ⟨rfl, hb1⟩))
        | (go_simp; go_at_call 78; ((with_reducible refine (HI.out _ (alloc_keeps (drew_b (by simp) hb1))).mono ?_); rintro e x2 ⟨rfl, hb2⟩)))
    go_wp2
    go_ret
    exact ⟨by simp, alloc_keeps (chain_b (by simp) (drew_b (by simp) hb1) hb2)⟩
  · have t1 : decide ((96 : Int) ≤ n) = true := decide_eq_true (by omega)
    have t2 : ((hi : Int) == 0) = false := by rw [beq_eq_false_iff_ne]; omega
    clear c
    go_enter Tryz.func77, Tryz.ntmps77
    go_wp2
    go_region_held3 (fun W => W.cell? ⟨w.heap.size, 0, none⟩ = some (.int .u64 hi) ∧ W.cell? ⟨w.heap.size, 1, none⟩ = some (.int .u64 lo) ∧ W.cell? ⟨w.heap.size, 2, none⟩ = some (.int .i64 n))
      (first | exact HK.out _ drew_a | exact HK.out _ (drew_b (by simp) hb1) | exact HK.out _ (chain_b (by simp) (drew_b (by simp) hb1) hb2))
      (first
        | (go_simp; go_at_call 103; ((with_reducible refine (HX.out _ (alloc_keeps drew_a)).mono ?_); rintro e x1 ⟨rfl, hb1⟩))
        | (go_simp; go_at_call 78; ((with_reducible refine (HI.out _ (alloc_keeps (drew_b (by simp) hb1))).mono ?_); rintro e x2 ⟨rfl, hb2⟩)))
    go_wp2
    go_ret
    exact ⟨by simp, alloc_keeps (chain_b (by simp) (drew_b (by simp) hb1) hb2)⟩
  · have t1 : decide ((96 : Int) ≤ n) = true := decide_eq_true (by omega)
    obtain rfl : hi = 0 := e
    have t3 : ((lo : Int) / 4294967296 == 65535) = false := by rw [beq_eq_false_iff_ne]; omega
    clear c
    have HK := Lib.hid (keep_box w (.int .u64 0) (.int .u64 lo) (.int .i64 n) 37)
    change Calls Tryz.prog 77 #[.agg #[.int .u64 0, .int .u64 lo, .int .i64 n]] w _
    have HX' : Hid (∀ W, Below w.heap.size w W → Calls Tryz.prog 103 #[.agg #[.int .u64 0, .int .u64 lo]] W (RetStr W X)) := HX
    go_enter Tryz.func77, Tryz.ntmps77
    go_wp2
    go_region_held3 (fun W => W.cell? ⟨w.heap.size, 0, none⟩ = some (.int .u64 0) ∧ W.cell? ⟨w.heap.size, 1, none⟩ = some (.int .u64 lo) ∧ W.cell? ⟨w.heap.size, 2, none⟩ = some (.int .i64 n))
      (first | exact HK.out _ drew_a | exact HK.out _ (drew_b (by simp) hb1) | exact HK.out _ (chain_b (by simp) (drew_b (by simp) hb1) hb2))
      (first
        | (go_simp; go_at_call 103; ((with_reducible refine (HX'.out _ (alloc_keeps drew_a)).mono ?_); rintro e x1 ⟨rfl, hb1⟩))
        | (go_simp; go_at_call 78; ((with_reducible refine (HI.out _ (alloc_keeps (drew_b (by simp) hb1))).mono ?_); rintro e x2 ⟨rfl, hb2⟩)))
    go_wp2
    go_ret
    exact ⟨by simp, alloc_keeps (chain_b (by simp) (drew_b (by simp) hb1) hb2)⟩
theorem pText_any (hi lo : Nat) (n : Int) (w : World) (h1 : hi < 18446744073709551616) (h2 : lo < 18446744073709551616) (n0 : -9223372036854775808 ≤ n) (n1 : n ≤ 9223372036854775807) (hpow : PowTab w) (hbru : BruTab w) :
    Calls Tryz.prog 77 #[.agg #[.int .u64 hi, .int .u64 lo, .int .i64 n]] w (RetStr w (textPf hi lo n)) := by
  cases c : asFour hi lo n with
  | true => exact pText_four hi lo n w h1 h2 n0 n1 hpow hbru c
  | false => exact pText_six hi lo n w h1 h2 n0 n1 hpow hbru c
end

section
open Go.RowKit
/-- the listed blocks hold what is listed -/
def Blks (L : List (Nat × Array Value × TypeId)) (W : World) : Prop := ∀ e ∈ L, W.heap[e.1]? = some (.cells e.2.1 e.2.2)
theorem Blks.empty (W : World) : Blks [] W := fun e he => by cases he
theorem Blks.keep {L : List (Nat × Array Value × TypeId)} {x y : World} (h : Blks L x) (hb : Below x.heap.size x y) : Blks L y := fun e he => (hb.block e.1 (block_lt (h e he))).trans (h e he)
theorem Blks.new {L : List (Nat × Array Value × TypeId)} {x : World} (h : Blks L x) (c : Array Value) (t : TypeId) : Blks ((x.heap.size, c, t) :: L) (x.alloc (.cells c t)) := fun e he => by
  rcases List.mem_cons.1 he with g | g
  · rw [g]; exact Go.Deep.blk_alloc_new _ _
  · exact h.keep ((Below.refl _ _).alloc (Nat.le_refl _) _) e g
theorem Blks.lt {L : List (Nat × Array Value × TypeId)} {x : World} (h : Blks L x) {b : Nat} {c : Array Value} {t : TypeId} (hm : (b, c, t) ∈ L) : b < x.heap.size := block_lt (h _ hm)
theorem Blks.r3 {L : List (Nat × Array Value × TypeId)} {W : World} (h : Blks L W) {b : Nat} {x y z : Value} {t : TypeId} (hm : (b, #[x, y, z], t) ∈ L) :
    b < W.heap.size ∧ W.cell? ⟨b, 0, none⟩ = some x ∧ W.cell? ⟨b, 1, none⟩ = some y ∧ W.cell? ⟨b, 2, none⟩ = some z := ⟨h.lt hm, (row3 (h _ hm)).1⟩
theorem Blks.r2 {L : List (Nat × Array Value × TypeId)} {W : World} (h : Blks L W) {b : Nat} {x y : Value} {t : TypeId} (hm : (b, #[x, y], t) ∈ L) :
    b < W.heap.size ∧ W.cell? ⟨b, 0, none⟩ = some x ∧ W.cell? ⟨b, 1, none⟩ = some y := ⟨h.lt hm, cell_row (h _ hm) 0, cell_row (h _ hm) 1⟩
end

section
open Go.RowKit
def cells9 (x : R9) : List Value := [.int .u64 (hiN x.W : Nat), .int .u64 (loN x.W : Nat), .int .i64 (x.n : Nat), .string ⟨x.s.toArray⟩]
/-- the table's cells -/
def flat9 : Array Value := (T9L.flatMap cells9).toArray
theorem flat9_at : ∀ (l : List R9) (j : Nat) (x : R9), l[j]? = some x → ∀ i, i < 4 → (l.flatMap cells9)[j * 4 + i]? = (cells9 x)[i]?
  | [], j, x, h, i, hi => by simp at h
  | y :: l, 0, x, h, i, hi => by
    simp only [List.getElem?_cons_zero, Option.some.injEq] at h
    subst h
    rw [List.flatMap_cons, List.getElem?_append_left (by simp [cells9]; omega)]
    simp
  | y :: l, j + 1, x, h, i, hi => by
    rw [List.flatMap_cons, List.getElem?_append_right (by simp [cells9]; omega), show (j + 1) * 4 + i - (cells9 y).length = j * 4 + i from by simp [cells9]; omega]
    exact flat9_at l j x (by simpa using h) i hi
/-- the table in memory, at a block -/
theorem tab_at {W : World} {b : Nat} {t : TypeId} (h : W.heap[b]? = some (.cells flat9 t)) {j : Nat} {x : R9} (hx : T9[j]? = some x) :
    W.cell? ⟨b, j * 4, none⟩ = some (.int .u64 (hiN x.W : Nat)) ∧ W.cell? ⟨b, j * 4 + 1, none⟩ = some (.int .u64 (loN x.W : Nat)) ∧ W.cell? ⟨b, j * 4 + 2, none⟩ = some (.int .i64 (x.n : Nat)) ∧ W.cell? ⟨b, j * 4 + 3, none⟩ = some (.string ⟨x.s.toArray⟩) := by
  have g : ∀ i u, i < 4 → (cells9 x)[i]? = some u → W.cell? ⟨b, j * 4 + i, none⟩ = some u := fun i u hi hu => by
    have q : flat9[j * 4 + i]? = some u := by
      unfold flat9
      rw [← T9_is, List.getElem?_toArray, flat9_at T9 j x hx i hi, hu]
    simp [World.cell?, h, q]
  exact ⟨g 0 _ (by omega) rfl, g 1 _ (by omega) rfl, g 2 _ (by omega) rfl, g 3 _ (by omega) rfl⟩
theorem Blks.q4 {L : List (Nat × Array Value × TypeId)} {W : World} (h : Blks L W) {b : Nat} {c0 c1 c2 c3 : Value} {t : TypeId} (hm : (b, #[c0, c1, c2, c3], t) ∈ L) :
    b < W.heap.size ∧ W.cell? ⟨b, 0, none⟩ = some c0 ∧ W.cell? ⟨b, 1, none⟩ = some c1 ∧ W.cell? ⟨b, 2, none⟩ = some c2 ∧ W.cell? ⟨b, 3, none⟩ = some c3 :=
  ⟨h.lt hm, cell_row (h _ hm) 0, cell_row (h _ hm) 1, cell_row (h _ hm) 2, cell_row (h _ hm) 3⟩
theorem Blks.fq4 {L : List (Nat × Array Value × TypeId)} {W : World} (h : Blks L W) {b : Nat} {c0 c1 c2 c3 : Value} {t : TypeId} (hm : (b, #[c0, c1, c2, c3], t) ∈ L) :
    W.frozen? ⟨b, 0, none⟩ = false ∧ W.frozen? ⟨b, 1, none⟩ = false ∧ W.frozen? ⟨b, 2, none⟩ = false ∧ W.frozen? ⟨b, 3, none⟩ = false :=
  ⟨frozen_row (h _ hm) 0, frozen_row (h _ hm) 1, frozen_row (h _ hm) 2, frozen_row (h _ hm) 3⟩
theorem set4_belowS {a w : World} (h : Below a.heap.size a w) {b : Nat} (hb : a.heap.size ≤ b) (x0 x1 x2 x3 : Value) : Below a.heap.size a ((((w.setCell ⟨b, 0, none⟩ x0).setCell ⟨b, 1, none⟩ x1).setCell ⟨b, 2, none⟩ x2).setCell ⟨b, 3, none⟩ x3) :=
  (((h.setCell (p := ⟨b, 0, none⟩) hb x0).setCell (p := ⟨b, 1, none⟩) hb x1).setCell (p := ⟨b, 2, none⟩) hb x2).setCell (p := ⟨b, 3, none⟩) hb x3
theorem set4_rowS {w : World} {b : Nat} {c0 c1 c2 c3 : Value} {t : TypeId} (h : w.heap[b]? = some (.cells #[c0, c1, c2, c3] t)) (x0 x1 x2 x3 : Value) : ((((w.setCell ⟨b, 0, none⟩ x0).setCell ⟨b, 1, none⟩ x1).setCell ⟨b, 2, none⟩ x2).setCell ⟨b, 3, none⟩ x3).heap[b]? = some (.cells #[x0, x1, x2, x3] t) :=
  set_row (set_row (set_row (set_row h 0 x0) 1 x1) 2 x2) 3 x3
theorem T9_in {j : Nat} {x : R9} (h : T9[j]? = some x) : x.n ≤ 128 ∧ rt x.W x.n ∧ x.W < 2 ^ 128 := T9_right x (List.mem_of_getElem? h)
theorem T9_get {j : Nat} (h : j < 27) : ∃ x, T9[j]? = some x := ⟨_, List.getElem?_eq_getElem (by rw [T9_len]; exact h)⟩
/-- the first that has an address -/
noncomputable def name9 (p : Nat → Nat → Bool) : Option R9 := T9.find? fun r => p r.W r.n
theorem find_here {p : R9 → Bool} : ∀ {l : List R9} {j : Nat} {x : R9}, l[j]? = some x → (∀ i y, i < j → l[i]? = some y → p y = false) → p x = true → l.find? p = some x
  | [], j, x, h, _, _ => by simp at h
  | y :: l, 0, x, h, _, hp => by
    simp only [List.getElem?_cons_zero, Option.some.injEq] at h
    subst h
    simp [List.find?, hp]
  | y :: l, j + 1, x, h, ho, hp => by
    have := ho 0 y (by omega) rfl
    simp only [List.find?, this]
    exact find_here (j := j) (by simpa using h) (fun i z hi hz => ho (i + 1) z (by omega) (by simpa using hz)) hp
theorem find_not {p : R9 → Bool} {l : List R9} (h : ∀ i y, i < l.length → l[i]? = some y → p y = false) : l.find? p = none := by
  rw [List.find?_eq_none]
  intro x hx
  obtain ⟨i, hi, e⟩ := List.getElem_of_mem hx
  rw [h i x hi (by rw [List.getElem?_eq_getElem hi, e])]
  simp
def nameV : Option R9 → Value
  | none => .tuple #[.string ⟨#[]⟩, .bool false]
  | some r => .tuple #[.string ⟨r.s.toArray⟩, .bool true]
/-- the table, put with one verdict -/
noncomputable def lay9 (v : Int) (t : PT) : PT := T9.foldl (fun t r => t.put r.W r.n v) t
noncomputable def layTo (v : Int) (j : Nat) (t : PT) : PT := (T9.take j).foldl (fun t r => t.put r.W r.n v) t
theorem layTo_succ {v : Int} {j : Nat} {t : PT} {x : R9} (h : T9[j]? = some x) : layTo v (j + 1) t = (layTo v j t).put x.W x.n v := by
  unfold layTo
  rw [List.take_add_one, h, List.foldl_append]; rfl
theorem layTo_end (v : Int) (t : PT) : layTo v 27 t = lay9 v t := by
  unfold layTo lay9; rw [List.take_of_length_le (by rw [T9_len]; exact Nat.le_refl _)]
theorem layTo_inv {v : Int} {t : PT} (h : t.Inv 0 0) : ∀ j, (layTo v j t).Inv 0 0 := fun j => by
  induction j with
  | zero => exact h
  | succ j ih =>
    cases e : T9[j]? with
    | none => unfold layTo at ih ⊢; rw [List.take_add_one, e]; simpa using ih
    | some x =>
      rw [layTo_succ e]
      obtain ⟨h1, h2, h3⟩ := T9_in e
      exact PT.put_inv ih h1 h2 (qt_lt h3) (Nat.zero_le _)
theorem layTo_list {v : Int} {t : PT} (h : t.Inv 0 0) {j : Nat} {x : R9} (e : T9[j]? = some x) : (layTo v (j + 1) t).list = putL (layTo v j t).list x.W x.n v := by
  rw [layTo_succ e]
  obtain ⟨h1, h2, h3⟩ := T9_in e
  exact PT.put_list (layTo_inv h j) h1 h2 h3
theorem putL_le {l : List En} (hs : l.Pairwise En.lt) (P k : Nat) (v : Int) : (putL l P k v).length ≤ l.length + 1 := by
  rw [putL_len hs]; split <;> omega
theorem layTo_len {v : Int} {t : PT} (h : t.Inv 0 0) : ∀ j, (layTo v j t).list.length ≤ t.list.length + j := fun j => by
  induction j with
  | zero => exact Nat.le_refl _
  | succ j ih =>
    cases e : T9[j]? with
    | none => unfold layTo at ih ⊢; rw [List.take_add_one, e]; simp at ih ⊢; omega
    | some x =>
      rw [layTo_list h e]
      have := putL_le (PT.sorted (layTo_inv (v := v) h j)) x.W x.n v
      omega
theorem lay9_len (v : Int) : (lay9 v .nil).list.length = 27 := by unfold lay9; rw [T9_is]; kernel_rfl
theorem nil_inv : PT.nil.Inv 0 0 := trivial
theorem lay_inv {v : Int} {t : PT} (h : t.Inv 0 0) : (lay9 v t).Inv 0 0 := by
  have q := layTo_inv (v := v) h 27
  rwa [layTo_end v t] at q
end

section
open Go.RowKit
theorem ofW_succ (P i : Nat) (h : i < 128) : ofW P (i + 1) = ofW P i + bitW P i * 2 ^ (127 - i) := by
  show qt P (i + 1) * 2 ^ (128 - (i + 1)) = qt P i * 2 ^ (128 - i) + _
  rw [qt_succ P i h, show 128 - (i + 1) = 127 - i from by omega, show 128 - i = (127 - i) + 1 from by omega, Nat.pow_succ, Nat.add_mul, Nat.mul_comm 2 (qt P i), Nat.mul_assoc, Nat.mul_comm 2]
theorem rt_hi {hi lo n : Nat} (h2 : lo < 18446744073709551616) (hn : n < 64) (h : rt (wideN hi lo) n) : hi % 2 ^ (64 - n) = 0 := by
  have e := rt_eq h
  have e2 : (2 : Nat) ^ (128 - n) = 2 ^ (64 - n) * 18446744073709551616 := by rw [show 18446744073709551616 = 2 ^ 64 from by decide, ← Nat.pow_add]; congr 1; omega
  have e3 : hi = qt (wideN hi lo) n * 2 ^ (64 - n) := by
    have q := hiN_wide (hi := hi) h2
    rw [e, e2, ← Nat.mul_assoc] at q
    unfold hiN at q
    rw [Nat.mul_div_cancel _ (by decide)] at q
    exact q.symm
  rw [e3]; exact Nat.mul_mod_left _ _
theorem rt_lo {hi lo n : Nat} (hn : 64 ≤ n) (hn2 : n ≤ 128) (h : rt (wideN hi lo) n) : lo % 2 ^ (128 - n) = 0 := by
  have e : (18446744073709551616 : Nat) = 2 ^ (128 - n) * 2 ^ (n - 64) := by rw [← Nat.pow_add, show 128 - n + (n - 64) = 64 from by omega]
  have d : 2 ^ (128 - n) ∣ wideN hi lo := Nat.dvd_of_mod_eq_zero h
  have d2 : 2 ^ (128 - n) ∣ hi * 2 ^ 64 := by
    rw [show (2 : Nat) ^ 64 = 18446744073709551616 from by decide, e]
    exact ⟨hi * 2 ^ (n - 64), by ac_rfl⟩
  have d3 : 2 ^ (128 - n) ∣ wideN hi lo - hi * 2 ^ 64 := Nat.dvd_sub d d2
  rw [show wideN hi lo - hi * 2 ^ 64 = lo from by unfold wideN; omega] at d3
  exact Nat.mod_eq_zero_of_dvd d3
theorem room_pow {x d : Nat} (hx : x % (2 * d) = 0) (N : Nat) (hN : N % (2 * d) = 0) (h : x < N) : x + d < N := by
  obtain ⟨a, rfl⟩ := Nat.dvd_of_mod_eq_zero hx
  obtain ⟨b, rfl⟩ := Nat.dvd_of_mod_eq_zero hN
  have : a < b := Nat.lt_of_mul_lt_mul_left h
  have : 2 * d * (a + 1) ≤ 2 * d * b := Nat.mul_le_mul_left _ this
  rw [Nat.mul_add, Nat.mul_one] at this
  omega
theorem pow_two_sub {a n : Nat} (h : n < a) : 2 ^ (a - n) = 2 * 2 ^ (a - 1 - n) := by rw [show a - n = (a - 1 - n) + 1 from by omega, Nat.pow_succ, Nat.mul_comm]
theorem pow_mod (a b : Nat) (h : b ≤ a) : 2 ^ a % 2 ^ b = 0 := Nat.mod_eq_zero_of_dvd (Nat.pow_dvd_pow 2 h)
theorem room_hi {hi n : Nat} (h1 : hi < 18446744073709551616) (hn : n < 64) (h : hi % 2 ^ (64 - n) = 0) : hi + 2 ^ (63 - n) < 18446744073709551616 := by
  rw [pow_two_sub hn] at h
  exact room_pow h _ (by rw [← pow_two_sub hn, show 18446744073709551616 = 2 ^ 64 from by decide]; exact pow_mod _ _ (by omega)) h1
theorem room_lo {lo n : Nat} (h1 : lo < 18446744073709551616) (hn : 64 ≤ n) (hn2 : n < 128) (h : lo % 2 ^ (128 - n) = 0) : lo + 2 ^ (127 - n) < 18446744073709551616 := by
  rw [pow_two_sub hn2] at h
  exact room_pow h _ (by rw [← pow_two_sub hn2, show 18446744073709551616 = 2 ^ 64 from by decide]; exact pow_mod _ _ (by omega)) h1
theorem or_join {x : Nat} (s : Nat) (h1 : x + 2 ^ s < 18446744073709551616) (h : x % 2 ^ (s + 1) = 0) : bits .or .u64 (x : Int) ((2 : Int) ^ s) = (x : Int) + (2 : Int) ^ s := by
  have hp : ((2 : Int) ^ s) = ((2 ^ s : Nat) : Int) := by simp
  have hb : 2 ^ s < 2 ^ (s + 1) := Nat.pow_lt_pow_right (by decide) (by omega)
  have hm : ((x : Int) % 2 ^ (s + 1)) = 0 := by
    have := congrArg (Nat.cast (R := Int)) h
    simpa using this
  have hb2 : ((2 ^ s : Nat) : Int) < 2 ^ (s + 1) := by
    have : (((2 ^ s : Nat) : Int)) < ((2 ^ (s + 1) : Nat) : Int) := by omega
    simpa using this
  rw [hp]
  exact u64_join (s + 1) (x : Int) ((2 ^ s : Nat) : Int) (by omega) hm (by omega) (by omega) hb2 (by omega)
theorem wrap_nat (m : Nat) (h : m < 18446744073709551616) : IntKind.u64.wrap (m : Int) = (m : Int) := by rw [IntKind.wrap_u64]; omega
theorem or_zero (x : Nat) (h : x < 18446744073709551616) : bits .or .u64 (x : Int) 0 = (x : Int) := by
  rw [show (0 : Int) = ((0 : Nat) : Int) from rfl, u64_or_nat x 0 h (by decide), Nat.or_zero]
theorem wide_add (x y a : Nat) : wideN (x + a) y = wideN x y + a * 2 ^ 64 := by unfold wideN; rw [Nat.add_mul, Nat.add_right_comm]
theorem wide_low (x y a : Nat) : wideN x (y + a) = wideN x y + a := by unfold wideN; rw [Nat.add_assoc]
end

section
open Go.RowKit
set_option maxRecDepth 100000 in
set_option maxHeartbeats 1000000 in
theorem row9_any (s n : ByteArray) (W k : Nat) (w : World) (hs : s.size ≤ 1073741824) (hmax : MaxVar w) (hp : parseP s.data.toList = some (W, k)) :
    Calls Tryz.prog 56 #[.string s, .string n] w fun e w' => e = .returned (.agg #[.int .u64 (hiN W : Nat), .int .u64 (loN W : Nat), .int .i64 (k : Nat), .string n]) ∧ Below w.heap.size w w' := by
  have HP := Lib.hid hp
  have HX := Lib.hid hmax
  clear hp hmax
  go_enter Tryz.func56, Tryz.ntmps56
  go_wp2_with fail
  refine (pParse_any _ _ hs (maxVar_below HX.out ((Below.refl _ _).alloc (Nat.le_refl _) _))).mono ?_
  rw [HP.out]
  rintro e x1 ⟨rfl, hb1⟩
  simp only [optP, pfW, pfV, Option.isSome]
  have HB1 := Lib.hid ((((Blks.empty w).new #[.int .u64 0, .int .u64 0, .int .i64 0, .string ⟨#[]⟩] 55).keep hb1).new #[.int .u64 (hiN W : Nat), .int .u64 (loN W : Nat), .int .i64 (k : Nat)] 37)
  have HW1 := Lib.hid ((alloc_then hb1).alloc (alloc_then hb1).size (.cells #[.int .u64 (hiN W : Nat), .int .u64 (loN W : Nat), .int .i64 (k : Nat)] 37))
  clear hb1
  obtain ⟨l1, d0, d1, d2, d3⟩ := HB1.out.q4 (.tail _ (.head _))
  obtain ⟨f0, f1, f2, f3⟩ := HB1.out.fq4 (.tail _ (.head _))
  have hrow := set4_rowS (HB1.out (w.heap.size, _, _) (.tail _ (.head _))) (.int .u64 (hiN W : Nat)) (.int .u64 (loN W : Nat)) (.int .i64 (k : Nat)) (.string n)
  have r0 := cell_row hrow 0
  have r1 := cell_row hrow 1
  have r2 := cell_row hrow 2
  have r3 := cell_row hrow 3
  have HB2 := Lib.hid (set4_belowS HW1.out (Nat.le_refl _) (.int .u64 (hiN W : Nat)) (.int .u64 (loN W : Nat)) (.int .i64 (k : Nat)) (.string n))
  simp at r0 r1 r2 r3
  have HR := Lib.hid (And.intro r0 (And.intro r1 (And.intro r2 r3)))
  clear r0 r1 r2 r3 hrow
  go_wp2
  obtain ⟨r0, r1, r2, r3⟩ := HR.out
  refine bodyPost_ret (v := .agg #[.int .u64 (hiN W : Nat), .int .u64 (loN W : Nat), .int .i64 (k : Nat), .string n]) (by simp [results, Tryz.results56, go_sem, r0, r1, r2, r3]) rfl ⟨rfl, ?_⟩
  exact HB2.out
set_option maxRecDepth 100000 in
set_option maxHeartbeats 8000000 in
theorem rows9_any (w : World) (hmax : MaxVar w) :
    Calls Tryz.prog 24 #[] w fun e w' => ∃ b, e = .returned (.slice (some ⟨b, 0, none⟩) 27 27) ∧ w.heap.size ≤ b ∧ w'.heap[b]? = some (.cells flat9 55) ∧ Below w.heap.size w w' := by
  have HX := Lib.hid hmax
  clear hmax
  have hb0 : Below w.heap.size w w := Below.refl _ _
  go_enter Tryz.func24, Tryz.ntmps24
  go_wp2_with fail
  refine (row9_any _ _ 281470681743360 104 _ (by decide) (maxVar_below HX.out hb0) p9_0).mono ?_
  rintro e x1 ⟨rfl, hc⟩
  have hb1 := below_chain7 hb0 hc
  clear hc hb0
  go_wp2_with fail
  refine (row9_any _ _ 281470849515520 104 _ (by decide) (maxVar_below HX.out hb1) p9_1).mono ?_
  rintro e x2 ⟨rfl, hc⟩
  have hb2 := below_chain7 hb1 hc
  clear hc hb1
  go_wp2_with fail
  refine (row9_any _ _ 281472363659264 106 _ (by decide) (maxVar_below HX.out hb2) p9_2).mono ?_
  rintro e x3 ⟨rfl, hc⟩
  have hb3 := below_chain7 hb2 hc
  clear hc hb2
  go_wp2_with fail
  refine (row9_any _ _ 281472812449792 104 _ (by decide) (maxVar_below HX.out hb3) p9_3).mono ?_
  rintro e x4 ⟨rfl, hc⟩
  have hb4 := below_chain7 hb3 hc
  clear hc hb3
  go_wp2_with fail
  refine (row9_any _ _ 281473533739008 112 _ (by decide) (maxVar_below HX.out hb4) p9_4).mono ?_
  rintro e x5 ⟨rfl, hc⟩
  have hb5 := below_chain7 hb4 hc
  clear hc hb4
  go_wp2_with fail
  refine (row9_any _ _ 281473568473088 108 _ (by decide) (maxVar_below HX.out hb5) p9_5).mono ?_
  rintro e x6 ⟨rfl, hc⟩
  have hb6 := below_chain7 hb5 hc
  clear hc hb5
  go_wp2_with fail
  refine (row9_any _ _ 281473902968832 120 _ (by decide) (maxVar_below HX.out hb6) p9_6).mono ?_
  rintro e x7 ⟨rfl, hc⟩
  have hb7 := below_chain7 hb6 hc
  clear hc hb6
  go_wp2_with fail
  refine (row9_any _ _ 281473902969344 120 _ (by decide) (maxVar_below HX.out hb7) p9_7).mono ?_
  rintro e x8 ⟨rfl, hc⟩
  have hb8 := below_chain7 hb7 hc
  clear hc hb7
  go_wp2_with fail
  refine (row9_any _ _ 281473908761344 120 _ (by decide) (maxVar_below HX.out hb8) p9_8).mono ?_
  rintro e x9 ⟨rfl, hc⟩
  have hb9 := below_chain7 hb8 hc
  clear hc hb8
  go_wp2_with fail
  refine (row9_any _ _ 281473913978880 112 _ (by decide) (maxVar_below HX.out hb9) p9_9).mono ?_
  rintro e x10 ⟨rfl, hc⟩
  have hb10 := below_chain7 hb9 hc
  clear hc hb9
  go_wp2_with fail
  refine (row9_any _ _ 281474004811776 111 _ (by decide) (maxVar_below HX.out hb10) p9_10).mono ?_
  rintro e x11 ⟨rfl, hc⟩
  have hb11 := below_chain7 hb10 hc
  clear hc hb10
  go_wp2_with fail
  refine (row9_any _ _ 281474007000064 120 _ (by decide) (maxVar_below HX.out hb11) p9_11).mono ?_
  rintro e x12 ⟨rfl, hc⟩
  have hb12 := below_chain7 hb11 hc
  clear hc hb11
  go_wp2_with fail
  refine (row9_any _ _ 281474087547136 120 _ (by decide) (maxVar_below HX.out hb12) p9_12).mono ?_
  rintro e x13 ⟨rfl, hc⟩
  have hb13 := below_chain7 hb12 hc
  clear hc hb12
  go_wp2_with fail
  refine (row9_any _ _ 281474439839744 100 _ (by decide) (maxVar_below HX.out hb13) p9_13).mono ?_
  rintro e x14 ⟨rfl, hc⟩
  have hb14 := below_chain7 hb13 hc
  clear hc hb13
  go_wp2_with fail
  refine (row9_any _ _ 281474708275200 100 _ (by decide) (maxVar_below HX.out hb14) p9_14).mono ?_
  rintro e x15 ⟨rfl, hc⟩
  have hb15 := below_chain7 hb14 hc
  clear hc hb14
  go_wp2_with fail
  refine (row9_any _ _ 0 128 _ (by decide) (maxVar_below HX.out hb15) p9_15).mono ?_
  rintro e x16 ⟨rfl, hc⟩
  have hb16 := below_chain7 hb15 hc
  clear hc hb15
  go_wp2_with fail
  refine (row9_any _ _ 1 128 _ (by decide) (maxVar_below HX.out hb16) p9_16).mono ?_
  rintro e x17 ⟨rfl, hc⟩
  have hb17 := below_chain7 hb16 hc
  clear hc hb16
  go_wp2_with fail
  refine (row9_any _ _ 524413980668812575603097810486951936 48 _ (by decide) (maxVar_below HX.out hb17) p9_17).mono ?_
  rintro e x18 ⟨rfl, hc⟩
  have hb18 := below_chain7 hb17 hc
  clear hc hb17
  go_wp2_with fail
  refine (row9_any _ _ 1329227995784915872903807060280344576 64 _ (by decide) (maxVar_below HX.out hb18) p9_18).mono ?_
  rintro e x19 ⟨rfl, hc⟩
  have hb19 := below_chain7 hb18 hc
  clear hc hb18
  go_wp2_with fail
  refine (row9_any _ _ 42540488161975842760550356425300246528 23 _ (by decide) (maxVar_below HX.out hb19) p9_19).mono ?_
  rintro e x20 ⟨rfl, hc⟩
  have hb20 := below_chain7 hb19 hc
  clear hc hb19
  go_wp2_with fail
  refine (row9_any _ _ 42540766411282592856903984951653826560 32 _ (by decide) (maxVar_below HX.out hb20) p9_20).mono ?_
  rintro e x21 ⟨rfl, hc⟩
  have hb21 := below_chain7 hb20 hc
  clear hc hb20
  go_wp2_with fail
  refine (row9_any _ _ 85065399433376081038215121361612832768 20 _ (by decide) (maxVar_below HX.out hb21) p9_21).mono ?_
  rintro e x22 ⟨rfl, hc⟩
  have hb22 := below_chain7 hb21 hc
  clear hc hb21
  go_wp2_with fail
  refine (row9_any _ _ 126276659599567007925861670726632734720 16 _ (by decide) (maxVar_below HX.out hb22) p9_22).mono ?_
  rintro e x23 ⟨rfl, hc⟩
  have hb23 := below_chain7 hb22 hc
  clear hc hb22
  go_wp2_with fail
  refine (row9_any _ _ 334965454937798799971759379190646833152 7 _ (by decide) (maxVar_below HX.out hb23) p9_23).mono ?_
  rintro e x24 ⟨rfl, hc⟩
  have hb24 := below_chain7 hb23 hc
  clear hc hb23
  go_wp2_with fail
  refine (row9_any _ _ 338288524927261089654018896841347694592 10 _ (by decide) (maxVar_below HX.out hb24) p9_24).mono ?_
  rintro e x25 ⟨rfl, hc⟩
  have hb25 := below_chain7 hb24 hc
  clear hc hb24
  go_wp2_with fail
  refine (row9_any _ _ 338620831926207318622244848606417780736 10 _ (by decide) (maxVar_below HX.out hb25) p9_25).mono ?_
  rintro e x26 ⟨rfl, hc⟩
  have hb26 := below_chain7 hb25 hc
  clear hc hb25
  go_wp2_with fail
  refine (row9_any _ _ 338953138925153547590470800371487866880 8 _ (by decide) (maxVar_below HX.out hb26) p9_26).mono ?_
  rintro e x27 ⟨rfl, hc⟩
  have hb27 := below_chain7 hb26 hc
  clear hc hb26
  have hn : ∀ t, (x27.alloc (.cells flat9 t)).heap[x27.heap.size]? = some (.cells flat9 t) := fun t => Go.Deep.blk_alloc_new _ _
  go_wp2
  go_ret
  exact ⟨x27.heap.size, rfl, hb27.size, hn _, hb27.alloc hb27.size _⟩
end

end Go.Proofs.YtoobiaifogackaaGreatDoor
