/-
  Layer 2: the reference's Encode; the chapter's examples.
-/
import Derived.Test.YtaojjkknmaldiaaDoorPctE
namespace Go.Proofs.YtaojjkknmaldiaaDoor
open Go.RowKit


/-- the first j bytes of a code point, each by % or as it is -/
def partP (b : Bool) (l : List UInt8) : List UInt8 := if b then pctL l else l
theorem partP_snoc_true (l : List UInt8) (j : Nat) (h : j < l.length) : partP true (l.take (j + 1)) = partP true (l.take j) ++ pctB l[j] := pctL_snoc l j h
theorem partP_snoc_false (l : List UInt8) (j : Nat) (h : j < l.length) : partP false (l.take (j + 1)) = partP false (l.take j) ++ [l[j]] := by
  unfold partP
  rw [List.take_succ_eq_append_getElem h]
  rfl
theorem partP_le (b : Bool) (l : List UInt8) : (partP b l).length ≤ 3 * l.length := by
  unfold partP
  split
  · rw [pctL_len]; omega
  · omega
theorem partP_all (s r : Int) : partP (inB s r) (Lib.encodeRune r) = encP s r := by
  unfold partP encP
  rfl

theorem enc_awake : encB 4 (scal ⟨#[97, 32, 98]⟩) = [97, 37, 50, 48, 98] := by decide +kernel
theorem dec_awake : decB [37, 50, 53, 52, 49] = [37, 52, 49] := by decide +kernel

set_option maxRecDepth 100000 in
set_option maxHeartbeats 1000000 in
theorem awake1_any (w : World) :
    Calls Tryd.prog 36 #[] w fun e w' => e = .returned (.bool true) ∧ Below w.heap.size w w' := by
  go_enter Tryd.func36, Tryd.ntmps36
  go_wp2_with fail
  refine (awake_any _).mono ?_
  rintro e w1 ⟨rfl, hb⟩
  go_wp2
  go_ret
  exact ⟨rfl, hb⟩

set_option maxRecDepth 100000 in
set_option maxHeartbeats 1000000 in
theorem awake02_any (w : World) :
    Calls Tryd.prog 29 #[] w fun e w' => e = .returned (.bool true) ∧ Below w.heap.size w w' := by
  go_enter Tryd.func29, Tryd.ntmps29
  go_wp2_with fail
  refine (awake1_any _).mono ?_
  rintro e w1 ⟨rfl, hb1⟩
  go_wp2_with fail
  refine (encode_any 4 _ _ (by decide) (by decide)).mono ?_
  rintro e w2 ⟨rfl, hb2⟩
  rw [enc_awake]
  have hc2 : Below w.heap.size w w2 := hb1.trans (hb2.mono hb1.size)
  clear hb1 hb2
  go_wp2_with fail
  refine (decode_any _ _ (by decide)).mono ?_
  rintro e w3 ⟨rfl, hb3⟩
  have hd : decB (ByteArray.mk #[37, 50, 53, 52, 49]).data.toList = [37, 52, 49] := dec_awake
  rw [hd]
  have hc3 : Below w.heap.size w w3 := hc2.trans (hb3.mono hc2.size)
  clear hc2 hb3 hd
  go_wp2
  go_ret
  exact ⟨by first | rfl | exact ret_bool (by decide), hc3⟩
end Go.Proofs.YtaojjkknmaldiaaDoor
