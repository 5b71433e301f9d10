/-
  Layer 2: the reference's Encode; the chapter's examples.
-/
import Derived.Test.YtbkjhdinlnpglaaPctE
namespace Go.Proofs.Ytbkjhdinlnpglaa
open Go.RowKit

/-- the first j bytes of a code point, each by % or as it is -/
def partP (b : Bool) (l : List UInt8) : List UInt8 := if b then pctL l else l
theorem partP_snoc_true (l : List UInt8) (j : Nat) (h : j < l.length) : partP true (l.take (j + 1)) = partP true (l.take j) ++ pctB l[j] := pctL_snoc l j h
theorem partP_snoc_false (l : List UInt8) (j : Nat) (h : j < l.length) : partP false (l.take (j + 1)) = partP false (l.take j) ++ [l[j]] := by
  unfold partP
  rw [List.take_succ_eq_append_getElem h]
  rfl
theorem partP_le (b : Bool) (l : List UInt8) : (partP b l).length ≤ 3 * l.length := by
  unfold partP
  split
  · rw [pctL_len]; omega
  · omega
theorem partP_all (s r : Int) : partP (inB s r) (Lib.encodeRune r) = encP s r := by
  unfold partP encP
  rfl

set_option maxRecDepth 100000 in
set_option maxHeartbeats 4000000 in
theorem refEncode_any (st : Int) (s : ByteArray) (w : World) (hst : 0 ≤ st) (hs : s.size ≤ 67108864) :
    Calls Try.prog 42 #[.int .i64 st, .string s] w fun e w' => e = .returned (.string ⟨(encB st (scal s)).toArray⟩) ∧ Below w.heap.size w w' := by
  have hsl := scal_len s
  go_enter Try.func42, Try.ntmps42
  go_wp2_with fail
  refine (refScalars_any _ _ (by omega)).mono ?_
  rintro e w1 ⟨v1, rfl, hown1, hb1⟩
  have hrow := RowR.of_own hown1
  obtain ⟨ao, cc, rfl, hcc⟩ := hrow
  simp only [List.length_map] at *
  generalize hL : scal s = L at *
  have HL := Lib.hid hL
  clear hL hown1
  have HC := Lib.hid hcc
  clear hcc
  go_wp2
  go_loopw [5, 13] (fun o i wr => ∃ (k : Nat) (T : List UInt8), k ≤ L.length ∧ i = .int .i64 k ∧ o = .string ⟨T.toArray⟩ ∧ T.length ≤ 12 * k ∧ Hid (T = encB st (L.take k)) ∧ Below w1.heap.size w1 wr) (fun _ i _ => L.length - (intOf i).toNat)
  case atStart => exact ⟨0, [], Nat.zero_le _, rfl, rfl, by simp, rfl, Below.refl _ _⟩
  case round =>
    obtain ⟨k, T, hk, rfl, rfl, hTl, HT, hbw⟩ := hrel
    have hsz := hbw.size
    by_cases hlt : k < L.length
    · obtain ⟨r, hr⟩ : ∃ r, r = L[k] := ⟨_, rfl⟩
      obtain ⟨d1, rfl, hd1⟩ := HC.out k (.int .i32 r) (by simp [hr, hlt])
      have hd2 : wr.cell? (d1.add k) = some (.int .i32 r) := (hbw.cell (World.block_lt_of_cell? _ _ hd1)).trans hd1
      have hsn := encB_snoc st L k hlt
      rw [← hr, ← HT.out, ← partP_all] at hsn
      have HSN := Lib.hid hsn
      have hel := encodeRune_le r
      clear hsn hr hd1
      go_wp2_with fail
      refine (one_any _ _).mono ?_
      rintro e w2 ⟨rfl, hb2⟩
      have hbw2 : Below w1.heap.size w1 w2 := hbw.trans (hb2.mono hsz)
      clear hb2 hd2 hbw
      generalize hE : Lib.encodeRune r = E at *
      clear hE
      generalize hB : inB st r = b at *
      have HB := Lib.hid hB
      clear hB
      go_wp2
      go_loop [5, 9] (fun o i => ∃ (j : Nat) (U : List UInt8), j ≤ E.length ∧ i = .int .i64 j ∧ o = .string ⟨U.toArray⟩ ∧ U.length ≤ 12 * k + 3 * j ∧ Hid (U = T ++ partP b (E.take j))) (fun _ i => E.length - (intOf i).toNat)
      case atStart =>
        refine ⟨0, T, Nat.zero_le _, rfl, rfl, by omega, ?_⟩
        show T = T ++ partP b (E.take 0)
        cases b <;> simp [partP, pctL]
      case round =>
        obtain ⟨j, U, hj, rfl, rfl, hUl, HU⟩ := hrel
        by_cases hjlt : j < E.length
        · have hjs : j < (ByteArray.mk E.toArray).size := by rw [size_mk]; exact hjlt
          have hba := byte_at_mk E j hjs
          have HBA := Lib.hid hba
          clear hba
          cases b with
          | true =>
            have HSN2 := Lib.hid (partP_snoc_true E j hjlt)
            go_wp2_with fail
            refine (refIn_any st r _ hst).mono ?_
            rintro e w' ⟨rfl, rfl⟩
            rw [HB.out]
            go_wp2_with fail
            refine (refByte_any (ByteArray.mk E.toArray)[j] _).mono ?_
            rintro e w' ⟨rfl, rfl⟩
            have hp3 : (pctB (ByteArray.mk E.toArray)[j]).length = 3 := rfl
            generalize hpb : pctB (ByteArray.mk E.toArray)[j] = pb at *
            have HPB := Lib.hid hpb
            have HP3 := Lib.hid hp3
            have hp3' : pb.length ≤ 3 := by rw [hp3]; exact Nat.le_refl _
            clear hpb hp3
            go_wp2
            go_round
            case rel =>
              refine ⟨j + 1, U ++ pb, by omega, by go_num, ?_, by simp; omega, ?_⟩
              · first | rfl | (rw [mk_append])
              · show U ++ pb = T ++ partP true (E.take (j + 1))
                rw [HSN2.out, ← List.append_assoc, ← HU.out, ← HPB.out, HBA.out]
            case measure => simp [intOf]; omega
          | false =>
            have HSN2 := Lib.hid (partP_snoc_false E j hjlt)
            have hsl2 := fun W : World => slice_str (P := Try.prog) W 9 (ByteArray.mk E.toArray) (j : Int) ((j : Int) + 1) j (j + 1) rfl (by omega) (by omega) (by rw [size_mk]; omega) Try.underlying9
            have hap := append_one U (ByteArray.mk E.toArray) j hjs
            have HAP := Lib.hid hap
            have hxs : ((ByteArray.mk E.toArray).extract j (j + 1)).size ≤ 1 := by rw [ByteArray.size_extract]; omega
            clear hap
            go_wp2_with fail
            refine (refIn_any st r _ hst).mono ?_
            rintro e w' ⟨rfl, rfl⟩
            rw [HB.out]
            go_wp2
            go_round
            case rel =>
              refine ⟨j + 1, U ++ [(ByteArray.mk E.toArray)[j]], by omega, by go_num, ?_, by simp; omega, ?_⟩
              · rw [← HAP.out]
              · show U ++ [_] = T ++ partP false (E.take (j + 1))
                rw [HSN2.out, ← List.append_assoc, ← HU.out, HBA.out]
            case measure => simp [intOf]; omega
        · have hfin : encB st (L.take (k + 1)) = U := by
            rw [HSN.out, HU.out, List.take_of_length_le (by omega)]
          have HF := Lib.hid hfin
          clear hfin
          go_wp2
          go_roundw
          case rel => exact ⟨k + 1, U, by omega, by go_num, rfl, by omega, HF.out.symm, hbw2⟩
          case measure => simp [intOf]; omega
    · have hfin : encB st L = T := by rw [HT.out, List.take_of_length_le (by omega)]
      have HF := Lib.hid hfin
      clear hfin
      go_wp2
      go_ret
      exact ⟨by rw [HL.out, HF.out]; rfl, hb1.trans (hbw.mono hb1.size)⟩

theorem enc_awake : encB 4 (scal ⟨#[97, 32, 98]⟩) = [97, 37, 50, 48, 98] := by decide +kernel
theorem dec_awake : decB [37, 50, 53, 52, 49] = [37, 52, 49] := by decide +kernel

set_option maxRecDepth 100000 in
set_option maxHeartbeats 1000000 in
theorem awake1_any (w : World) :
    Calls Try.prog 59 #[] w fun e w' => e = .returned (.bool true) ∧ Below w.heap.size w w' := by
  go_enter Try.func59, Try.ntmps59
  go_wp2_with fail
  refine (awake_any _).mono ?_
  rintro e w1 ⟨rfl, hb⟩
  go_wp2
  go_ret
  exact ⟨rfl, hb⟩

set_option maxRecDepth 100000 in
set_option maxHeartbeats 1000000 in
theorem awake02_any (w : World) :
    Calls Try.prog 38 #[] w fun e w' => e = .returned (.bool true) ∧ Below w.heap.size w w' := by
  go_enter Try.func38, Try.ntmps38
  go_wp2_with fail
  refine (awake1_any _).mono ?_
  rintro e w1 ⟨rfl, hb1⟩
  go_wp2_with fail
  refine (encode_any 4 _ _ (by decide) (by decide)).mono ?_
  rintro e w2 ⟨rfl, hb2⟩
  rw [enc_awake]
  have hc2 : Below w.heap.size w w2 := hb1.trans (hb2.mono hb1.size)
  clear hb1 hb2
  go_wp2_with fail
  refine (decode_any _ _ (by decide)).mono ?_
  rintro e w3 ⟨rfl, hb3⟩
  have hd : decB (ByteArray.mk #[37, 50, 53, 52, 49]).data.toList = [37, 52, 49] := dec_awake
  rw [hd]
  have hc3 : Below w.heap.size w w3 := hc2.trans (hb3.mono hc2.size)
  clear hc2 hb3 hd
  go_wp2
  go_ret
  exact ⟨by first | rfl | exact ret_bool (by decide), hc3⟩
end Go.Proofs.Ytbkjhdinlnpglaa
