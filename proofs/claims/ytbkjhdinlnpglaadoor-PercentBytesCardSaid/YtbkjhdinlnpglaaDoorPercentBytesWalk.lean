/-
  The law PercentBytes: its Go text returns true at every string and every number, and nothing that lay in memory before is changed.
-/
import Derived.Test.YtbkjhdinlnpglaaDoorPctG
import Derived.Lib.Case
namespace Go.Proofs.YtbkjhdinlnpglaaDoor
open Go.RowKit


/-! ### small letters behind % -/
def pctS (c : UInt8) : List UInt8 := (pctB c).map Lib.lowerB
def pctSL (l : List UInt8) : List UInt8 := l.flatMap pctS

theorem low_hex (n : Nat) (h : n < 16) : valZ ((Lib.lowerB (hexN n)).toNat : Int) = n := by
  have key : ∀ n : Fin 16, valZ ((Lib.lowerB (hexN n.val)).toNat : Int) = n.val := by decide +kernel
  exact key ⟨n, h⟩
theorem low_37 : Lib.lowerB 37 = 37 := by decide
theorem three_pctS (c : UInt8) (rest : List UInt8) : threeV (pctS c ++ rest) = some c := by
  have hc := c.toNat_lt
  have h1 := low_hex (c.toNat / 16) (by omega)
  have h2 := low_hex (c.toNat % 16) (by omega)
  show threeV (Lib.lowerB 37 :: Lib.lowerB (hexN (c.toNat / 16)) :: Lib.lowerB (hexN (c.toNat % 16)) :: rest) = some c
  simp only [threeV, low_37]
  rw [if_pos ⟨rfl, by rw [h1]; omega, by rw [h2]; omega⟩, h1, h2]
  congr 1
  apply UInt8.toNat_inj.1
  have e : ((c.toNat / 16 : Nat) : Int) * 16 + ((c.toNat % 16 : Nat) : Int) = (c.toNat : Int) := by omega
  rw [e]
  simp
theorem dec_pctS1 (c : UInt8) (rest : List UInt8) (f : Nat) : decL (f + 1) (pctS c ++ rest) = c :: decL f rest := by
  have h := three_pctS c rest
  have e : pctS c ++ rest = Lib.lowerB 37 :: (Lib.lowerB (hexN (c.toNat / 16)) :: Lib.lowerB (hexN (c.toNat % 16)) :: rest) := rfl
  rw [e] at h ⊢
  simp only [decL, h]
  rfl
theorem dec_pctS (E : List UInt8) : ∀ f, E.length ≤ f → decL f (pctSL E) = E := by
  induction E with
  | nil => intro f _; cases f <;> rfl
  | cons c E ih =>
    intro f hf
    obtain ⟨g, rfl⟩ : ∃ g, f = g + 1 := ⟨f - 1, by simp at hf; omega⟩
    have e : pctSL (c :: E) = pctS c ++ pctSL E := by simp [pctSL]
    rw [e, dec_pctS1, ih g (by simp at hf; omega)]
theorem lower_pct (l : List UInt8) : Lib.toLowerA (pctL l) = pctSL l := by
  unfold Lib.toLowerA pctL pctSL pctS
  rw [List.map_flatMap]
theorem pctSL_len (l : List UInt8) : (pctSL l).length = 3 * l.length := by
  rw [← lower_pct, Lib.toLowerA, List.length_map, pctL_len]
theorem decB_pct (l : List UInt8) : decB (pctL l) = l := by
  unfold decB
  have h := dec_pct l [] (pctL l).length (by rw [pctL_len]; omega)
  rw [List.append_nil] at h
  rw [h]
  cases ((pctL l).length - l.length) <;> simp [decL]
theorem decB_pctS (l : List UInt8) : decB (pctSL l) = l := dec_pctS l _ (by rw [pctSL_len]; omega)
theorem right_pctL (l : List UInt8) : rightB (pctL l) = true := by
  have h := right_pct l []
  rw [List.append_nil] at h
  rw [h]; rfl
theorem pct_ascii (l : List UInt8) : ∀ (j : Nat) (b : UInt8), (pctL l)[j]? = some b → b.toNat < 128 := by
  intro j b hb
  have hm : b ∈ pctL l := List.mem_of_getElem? hb
  obtain ⟨c, _, hb⟩ := List.mem_flatMap.1 hm
  have hc := c.toNat_lt
  have v1 := val_hex (c.toNat / 16) (by omega)
  have v2 := val_hex (c.toNat % 16) (by omega)
  simp only [pctB, List.mem_cons, List.not_mem_nil, or_false] at hb
  rcases hb with rfl | rfl | rfl
  · decide
  · exact v1.2.2
  · exact v2.2.2

theorem mk_data2 (s : ByteArray) : ByteArray.mk s.data.toList.toArray = s := by simp

/-! ### the sets -/
theorem in_sub (s t r : Int) (hs0 : 0 ≤ s) (hs1 : s ≤ 5) (ht0 : 0 ≤ t) (ht1 : t ≤ 5) (h : ∀ x ∈ setL s.toNat, x ∈ setL t.toNat) (hi : inB s r = true) : inB t r = true := by
  by_cases hc : r ≤ 31 ∨ 126 < r
  · exact inB_ctl ht0 ht1 hc
  · rw [inB_mid hs0 hs1 (by omega) (by omega)] at hi
    rw [inB_mid ht0 ht1 (by omega) (by omega)]
    rw [List.contains_iff_mem] at hi ⊢
    exact h r hi

set_option maxRecDepth 100000 in
set_option maxHeartbeats 8000000 in
theorem bytes_go (a0 : ByteArray) (r : Int) (w : World) (hlen : a0.size ≤ 500) (b0 b2 b3 b4 b5 : Bool) (h0 : inB 0 r = b0) (h2 : inB 2 r = b2) (h3 : inB 3 r = b3) (h4 : inB 4 r = b4) (h5 : inB 5 r = b5)
    (hall : b0 = true → inB 1 r = true ∧ b2 = true ∧ b3 = true ∧ b4 = true ∧ b5 = true) (h45 : (!b4 || b5) = true) (h24 : (!b2 || (b4 && b3)) = true) :
    Calls Tryd.prog 3 #[.string a0, .int .i32 r] w fun e w' => e = .returned (.bool true) ∧ Below w.heap.size w w' := by
  have h6 : inB 6 r = false := inB_out (.inr (by decide))
  have HALL := Lib.hid hall
  have H0 := Lib.hid h0
  have H2 := Lib.hid h2
  have H3 := Lib.hid h3
  have H4 := Lib.hid h4
  have H5 := Lib.hid h5
  have H6 := Lib.hid h6
  have H45 := Lib.hid h45
  have H24 := Lib.hid h24
  clear hall h0 h2 h3 h4 h5 h6 h45 h24
  go_enter Tryd.func3, Tryd.ntmps3
  go_wp2_with fail
  refine (awake02_any _).mono ?_
  rintro e x1 ⟨rfl, hb1⟩
  have hx1 := hb1.size
  go_wp2
  go_loopw [5, 17] (fun o i wr => ∃ (k : Nat) (T : List UInt8), k ≤ a0.size ∧ i = .int .i64 k ∧ o = .string ⟨T.toArray⟩ ∧ T.length ≤ 3 * k ∧ Hid (T = pctL (a0.data.toList.take k)) ∧ Below w.heap.size w wr) (fun _ i _ => a0.size - (intOf i).toNat)
  case atStart => exact ⟨0, [], Nat.zero_le _, rfl, rfl, by simp, rfl, hb1⟩
  case round =>
    obtain ⟨k, T, hk, rfl, rfl, hTl, HT, hbw⟩ := hrel
    have hsz := hbw.size
    by_cases hlt : k < a0.size
    · have hsn := pctL_snoc a0.data.toList k (by simpa using hlt)
      have hsn2 : pctL (a0.data.toList.take (k + 1)) = T ++ pctB a0[k] := by rw [hsn, HT.out]; rfl
      have HSN := Lib.hid hsn2
      clear hsn hsn2
      go_wp2_with fail
      refine (byte_any a0[k] _).mono ?_
      rintro e w2 ⟨rfl, hb2⟩
      have hbw2 : Below w.heap.size w w2 := hbw.trans (hb2.mono hsz)
      have hp3 : (pctB a0[k]).length = 3 := rfl
      generalize pctB a0[k] = pb at *
      have hp3' : pb.length ≤ 3 := by rw [hp3]; exact Nat.le_refl _
      clear hp3 hb2
      go_wp2
      go_roundw
      case rel =>
        refine ⟨k + 1, T ++ pb, by omega, by go_num, ?_, by simp; omega, HSN.out.symm, hbw2⟩
        first | rfl | (rw [mk_append])
      case measure => simp [intOf]; omega
    · have hT : T = pctL a0.data.toList := by rw [HT.out, take_all a0 k hlt]
      subst hT
      clear HT
      have hpl : (pctL a0.data.toList).length ≤ 1500 := by rw [pctL_len, size_list]; omega
      have hpa := pct_ascii a0.data.toList
      have HDEC := Lib.hid (decB_pct a0.data.toList)
      have HDECS := Lib.hid (decB_pctS a0.data.toList)
      have HLOW := Lib.hid (lower_pct a0.data.toList)
      have HSL := Lib.hid (pctSL_len a0.data.toList)
      have HRT := Lib.hid (right_pctL a0.data.toList)
      generalize hE : pctL a0.data.toList = E at *
      have HPA := Lib.hid hpa
      clear hE hTl hpa
      go_wp2
      go_loop [29] (fun i => ∃ k : Nat, k ≤ 5 ∧ i = .int .i64 k) (fun i => 5 - (intOf i).toNat)
      case atStart => exact ⟨0, Nat.zero_le _, rfl⟩
      case round =>
        obtain ⟨q, hq, rfl⟩ := hrel
        by_cases hq5 : q < 5
        · have hin : b0 = true → inB ((q : Int) + 1) r = true := by
            intro hb
            obtain ⟨a1, a2, a3, a4, a5⟩ := HALL.out hb
            rcases (show q = 0 ∨ q = 1 ∨ q = 2 ∨ q = 3 ∨ q = 4 from by omega) with rfl | rfl | rfl | rfl | rfl
            · exact a1
            · exact H2.out.trans a2
            · exact H3.out.trans a3
            · exact H4.out.trans a4
            · exact H5.out.trans a5
          have HIN := Lib.hid hin
          clear hin
          have hcell : (wr.alloc (.cells #[.int .u8 1, .int .u8 2, .int .u8 3, .int .u8 4, .int .u8 5] 24)).cell? ⟨wr.heap.size, q, none⟩ = some (.int .u8 ((q : Int) + 1)) := by
            rw [cell_of_row _ wr.heap.size q _ _ (0, 0) (heap_alloc_new wr _)]
            rcases (show q = 0 ∨ q = 1 ∨ q = 2 ∨ q = 3 ∨ q = 4 from by omega) with rfl | rfl | rfl | rfl | rfl <;> rfl
          go_wp2_with fail
          refine (in_any 0 r _ (by decide)).mono ?_
          rintro e w' ⟨rfl, rfl⟩
          rw [H0.out]
          cases b0 with
          | true =>
            have h1 := HIN.out rfl
            go_wp2_with fail
            refine (in_any _ r _ (by omega)).mono ?_
            rintro e w' ⟨rfl, rfl⟩
            rw [h1]
            go_wp2
            go_round
            case rel => exact ⟨q + 1, by omega, by go_num⟩
            case measure => simp [intOf]; omega
          | false =>
            go_wp2
            go_round
            case rel => exact ⟨q + 1, by omega, by go_num⟩
            case measure => simp [intOf]; omega
        · have hbA : Below w.heap.size w (wr.alloc (.cells #[.int .u8 1, .int .u8 2, .int .u8 3, .int .u8 4, .int .u8 5] 24)) := hbw.alloc hsz _
          generalize wr.alloc (.cells #[.int .u8 1, .int .u8 2, .int .u8 3, .int .u8 4, .int .u8 5] 24) = wa at *
          clear hbw HALL H0
          have hcomb : (b4 = true ∧ b5 = true ∧ b2 = true ∧ b3 = true) ∨ (b4 = true ∧ b5 = true ∧ b2 = false) ∨ (b4 = false ∧ b2 = false) := by
            have k1 := H45.out
            have k2 := H24.out
            cases b2 <;> cases b3 <;> cases b4 <;> cases b5 <;> simp_all
          have h6 := H6.out
          rcases hcomb with ⟨rfl, rfl, rfl, rfl⟩ | ⟨rfl, rfl, rfl⟩ | ⟨rfl, rfl⟩
          all_goals
            have h2 := H2.out
            have h3 := H3.out
            have h4 := H4.out
            have h5 := H5.out
            go_wp2_with (first | (go_at_call 6; refine (in_any _ _ _ (by decide)).mono ?_; rintro e w' ⟨rfl, rfl⟩))
            refine (decode_any _ _ (by rw [size_mk]; omega)).mono ?_
            rintro e x3 ⟨rfl, hb3⟩
            have hc3 : Below w.heap.size w x3 := hbA.trans (hb3.mono hbA.size)
            rw [show (ByteArray.mk E.toArray).data.toList = E from by simp, HDEC.out, mk_data2]
            go_wp2_with fail
            refine (Tryd.strings_ToLower_ascii _ _ (by rw [size_mk]; omega) (fun j b hj => HPA.out j b (by simpa using hj))).mono ?_
            rintro e x4 ⟨rfl, hb4⟩
            have hc4 : Below w.heap.size w x4 := hc3.trans (hb4.mono hc3.size)
            rw [show (ByteArray.mk E.toArray).data.toList = E from by simp, HLOW.out]
            go_wp2_with fail
            refine (decode_any _ _ (by rw [size_mk, HSL.out, size_list]; omega)).mono ?_
            rintro e x5 ⟨rfl, hb5⟩
            have hc5 : Below w.heap.size w x5 := hc4.trans (hb5.mono hc4.size)
            rw [show (ByteArray.mk (pctSL a0.data.toList).toArray).data.toList = pctSL a0.data.toList from by simp, HDECS.out, mk_data2]
            go_wp2_with fail
            refine (right_any _ _ (by rw [size_mk]; omega)).mono ?_
            rintro e x6 ⟨rfl, nq, rfl⟩
            rw [show (ByteArray.mk E.toArray).data.toList = E from by simp, HRT.out]
            have hc6 := below_drewN hc5 nq
            generalize x5.drewN nq = x6 at *
            clear hc3 hc4 hc5 hb3 hb4 hb5 hbA
            go_wp2
            go_ret
            exact ⟨by first | rfl | exact ret_bool (by simp), hc6⟩

set_option maxRecDepth 100000 in
set_option maxHeartbeats 2000000 in
theorem percentBytes_walk (a0 : ByteArray) (a1 : Int) (w0 : a0.size ≤ maxLen) (_w1 : (Lit.int .i32 a1).wf = true) (w : World) :
    Calls Tryd.prog 3 #[.string a0, .int .i32 a1] w fun e w' => e = .returned (.bool true) ∧ Below w.heap.size w w' := by
  unfold maxLen at w0
  by_cases hlen : a0.size ≤ 500
  · refine bytes_go a0 a1 w hlen (inB 0 a1) (inB 2 a1) (inB 3 a1) (inB 4 a1) (inB 5 a1) rfl rfl rfl rfl rfl ?_ ?_ ?_
    · intro h
      exact ⟨in_sub 0 1 a1 (by decide) (by decide) (by decide) (by decide) (by decide) h, in_sub 0 2 a1 (by decide) (by decide) (by decide) (by decide) (by decide) h, in_sub 0 3 a1 (by decide) (by decide) (by decide) (by decide) (by decide) h,
        in_sub 0 4 a1 (by decide) (by decide) (by decide) (by decide) (by decide) h, in_sub 0 5 a1 (by decide) (by decide) (by decide) (by decide) (by decide) h⟩
    · cases h : inB 4 a1 with
      | false => rfl
      | true => rw [in_sub 4 5 a1 (by decide) (by decide) (by decide) (by decide) (by decide) h]; rfl
    · cases h : inB 2 a1 with
      | false => rfl
      | true => rw [in_sub 2 4 a1 (by decide) (by decide) (by decide) (by decide) (by decide) h, in_sub 2 3 a1 (by decide) (by decide) (by decide) (by decide) (by decide) h]; rfl
  · go_enter Tryd.func3, Tryd.ntmps3
    go_wp2_with fail
    refine (awake02_any _).mono ?_
    rintro e x1 ⟨rfl, hb1⟩
    go_wp2
    go_ret
    exact ⟨rfl, hb1⟩
end Go.Proofs.YtbkjhdinlnpglaaDoor
