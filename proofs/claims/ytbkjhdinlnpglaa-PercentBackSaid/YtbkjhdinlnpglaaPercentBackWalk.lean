/-
  The law PercentBack: its Go text returns true at every uint8 and every text, and nothing that lay in memory before is changed.
-/
import Derived.Test.YtbkjhdinlnpglaaPctG
namespace Go.Proofs.Ytbkjhdinlnpglaa
open Go.RowKit

theorem no37_of (s : ByteArray) (h : hasB s.data.toList 37 = false) : ∀ k (h : k < s.size), s[k].toNat ≠ 37 := by
  intro k hk e
  rw [hasB_yes s 37 k hk (by rw [e]; rfl)] at h
  cases h

theorem contains_one (s : ByteArray) (w : World) :
    Calls Try.prog 49 #[.string s, .string ⟨#[37]⟩] w fun e w' => e = .returned (.bool (hasB s.data.toList 37)) ∧ w = w' := by
  refine (Try.strings_Contains_one s 37 w).mono ?_
  rintro e w' ⟨rfl, rfl⟩
  refine ⟨ret_bool ?_, rfl⟩
  have h := hasB_index s.data.toList 37
  cases hb : hasB s.data.toList 37 with
  | true => exact decide_eq_true (h.1 hb)
  | false => rw [h.2 hb]; rfl

set_option maxRecDepth 100000 in
set_option maxHeartbeats 4000000 in
theorem back02_in (a0 : Int) (a1 : ByteArray) (h0 : 0 ≤ a0) (h1 : a0 ≤ 255) (hlen : a1.size ≤ 2000) (hno : hasB a1.data.toList 37 = false) (w : World) :
    Calls Try.prog 10 #[.int .u8 a0, .string a1] w fun e w' => e = .returned (.bool true) ∧ Below w.heap.size w w' := by
  have s0 : 0 ≤ a0 % 6 := by omega
  have s1 : a0 % 6 ≤ 5 := by omega
  have hl37 := scal_no37 a1 (no37_of a1 hno)
  have HNONE := Lib.hid (enc_none (a0 % 6) s0 s1 (scal a1))
  have HSAME := Lib.hid (enc_scal (a0 % 6) s0 s1 (scal a1))
  have HDEC := Lib.hid (dec_enc (a0 % 6) s0 s1 (scal a1) hl37 (encB (a0 % 6) (scal a1)).length (Nat.le_refl _))
  have HRIGHT := Lib.hid (right_enc (a0 % 6) s0 s1 (scal a1) hl37)
  have hel : (encB (a0 % 6) (scal a1)).length ≤ 24000 := by
    have h2 := encB_take_le (a0 % 6) (scal a1) (scal a1).length
    rw [List.take_of_length_le (Nat.le_refl _)] at h2
    have h3 := scal_len a1
    omega
  have hsl := scal_len a1
  clear hl37
  go_enter Try.func10, Try.ntmps10
  go_wp2_with fail
  refine (awake02_any _).mono ?_
  rintro e x1 ⟨rfl, hb1⟩
  go_wp2_with fail
  refine (contains_one _ _).mono ?_
  rintro e x' ⟨rfl, rfl⟩
  rw [hno]
  clear hno
  go_wp2_with fail
  refine (encode_any _ _ _ s0 (by omega)).mono ?_
  rintro e x2 ⟨rfl, hb2⟩
  have hc2 : Below w.heap.size w x2 := hb1.trans (hb2.mono hb1.size)
  clear hb1 hb2
  generalize hE : encB (a0 % 6) (scal a1) = E at *
  clear hE
  have hEs : (ByteArray.mk E.toArray).size ≤ 24000 := by rw [size_mk]; exact hel
  generalize hes : ByteArray.mk E.toArray = es at *
  have HES := Lib.hid hes
  clear hes
  have hcs := hc2.size
  go_wp2
  go_loopw [] (fun wr => ∃ pos fuel : Nat, wr.heap[x2.heap.size]? = some (.stringIter es pos) ∧ Below x2.heap.size x2 wr ∧ Hid (∀ x ∈ scalF es fuel pos, inB (a0 % 6) x = false) ∧ es.size ≤ pos + fuel) (fun wr => es.size - wr.iterPos x2.heap.size)
  case atStart => exact ⟨0, es.size, World.iter_heap x2 es 0, (Below.refl _ _).alloc (Nat.le_refl _) _, HNONE.out, by omega⟩
  case round =>
    obtain ⟨pos, fuel, hit, hbw, HN, hfu⟩ := hrel
    have HWP : Hid (wr.iterPos x2.heap.size = pos) := by
      show wr.iterPos x2.heap.size = pos
      simp only [World.iterPos, hit]
    by_cases hp : pos < es.size
    · have hnx : ∀ ty, (Instr.next (.pointer (some ⟨x2.heap.size, 0, none⟩)) true ty).run Try.prog wr = _ := fun ty => Lib.run_next_any_at wr x2.heap.size es pos ty hit hp
      have hwd := width_pos es pos hp
      have hit2 := Lib.iterAt_heap wr x2.heap.size es pos (pos + (Utf8.decode es pos).2) hit
      have hbw2 := Lib.below_iterAt hbw (k := x2.heap.size) (Nat.le_refl _) es (pos + (Utf8.decode es pos).2)
      obtain ⟨f, rfl⟩ : ∃ f, fuel = f + 1 := ⟨fuel - 1, by omega⟩
      have hN2 := HN.out
      rw [scalF_step es f pos hp] at hN2
      have hin := hN2 _ (List.mem_cons_self ..)
      have HN2 := Lib.hid (fun x hx => hN2 x (List.mem_cons_of_mem _ hx))
      clear hN2
      generalize wr.iterAt x2.heap.size es (pos + (Utf8.decode es pos).2) = wi at *
      generalize hr : ((Utf8.decode es pos).1 : Int) = r at *
      clear hr
      go_wp2_with fail
      refine (refIn_any _ _ _ s0).mono ?_
      rintro e x' ⟨rfl, rfl⟩
      rw [hin]
      go_wp2
      go_roundw
      case rel => exact ⟨pos + (Utf8.decode es pos).2, f, hit2, hbw2, HN2.out, by omega⟩
      case measure =>
        rw [HWP.out]
        simp only [World.iterPos, hit2]
        omega
    · have hnx : ∀ ty, (Instr.next (.pointer (some ⟨x2.heap.size, 0, none⟩)) true ty).run Try.prog wr = _ := fun ty => Lib.run_next_end_at wr x2.heap.size es pos ty hit hp
      have hc3 : Below w.heap.size w wr := hc2.trans (hbw.mono hcs)
      clear hc2 hbw
      go_wp2_with fail
      refine (decode_any _ _ (by omega)).mono ?_
      rintro e x4 ⟨rfl, hb4⟩
      have hc4 : Below w.heap.size w x4 := hc3.trans (hb4.mono hc3.size)
      clear hc3 hb4
      go_wp2_with fail
      refine (refScalars_any _ _ (by omega)).mono ?_
      rintro e x5 ⟨v5, rfl, hown5, hb5⟩
      have hc5 : Below w.heap.size w x5 := hc4.trans (hb5.mono hc4.size)
      have HR5 := Lib.hid (RowR.of_own hown5)
      clear hc4 hb5 hown5
      go_wp2_with fail
      refine (refText_any _ (scal a1) _ HR5.out (by omega)).mono ?_
      rintro e x6 ⟨rfl, hb6⟩
      have hc6 : Below w.heap.size w x6 := hc5.trans (hb6.mono hc5.size)
      clear hc5 hb6
      have hd : decB es.data.toList = textB (scal a1) := by
        rw [← HES.out]
        exact HDEC.out
      rw [hd]
      clear hd
      go_wp2_with fail
      refine (encode_any _ _ _ s0 (by omega)).mono ?_
      rintro e x7 ⟨rfl, hb7⟩
      have hc7 : Below w.heap.size w x7 := hc6.trans (hb7.mono hc6.size)
      clear hc6 hb7
      have hd : ByteArray.mk (encB (a0 % 6) (scal es)).toArray = es := by
        rw [HSAME.out, HES.out]
      rw [hd]
      clear hd
      go_wp2_with fail
      refine (right_any _ _ (by omega)).mono ?_
      rintro e x8 ⟨rfl, q, rfl⟩
      have hd : rightB es.data.toList = true := by
        rw [← HES.out]
        exact HRIGHT.out
      rw [hd]
      clear hd
      have hc8 := below_drewN hc7 q
      generalize x7.drewN q = x8 at *
      go_wp2
      go_ret
      exact ⟨by first | rfl | exact ret_bool (by simp), hc8⟩

set_option maxRecDepth 100000 in
set_option maxHeartbeats 2000000 in
theorem percentBack_walk (a0 : Int) (a1 : ByteArray) (w0 : (Lit.int .u8 a0).wf = true) (w1 : a1.size ≤ maxLen) (w : World) :
    Calls Try.prog 10 #[.int .u8 a0, .string a1] w fun e w' => e = .returned (.bool true) ∧ Below w.heap.size w w' := by
  unfold maxLen at w1
  obtain ⟨h0, h1⟩ := bounds_u8 w0
  clear w0
  by_cases hlen : a1.size ≤ 2000
  · cases hno : hasB a1.data.toList 37 with
    | false => exact back02_in a0 a1 h0 h1 hlen hno w
    | true =>
      go_enter Try.func10, Try.ntmps10
      go_wp2_with fail
      refine (awake02_any _).mono ?_
      rintro e x1 ⟨rfl, hb1⟩
      go_wp2_with fail
      refine (contains_one _ _).mono ?_
      rintro e x' ⟨rfl, rfl⟩
      rw [hno]
      go_wp2
      go_ret
      exact ⟨rfl, hb1⟩
  · go_enter Try.func10, Try.ntmps10
    go_wp2_with fail
    refine (awake02_any _).mono ?_
    rintro e x1 ⟨rfl, hb1⟩
    go_wp2
    go_ret
    exact ⟨rfl, hb1⟩
end Go.Proofs.Ytbkjhdinlnpglaa
