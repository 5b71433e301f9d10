/-
  Layer 4: Text of an address, the program's and the reference's.
-/
import Derived.Test.YtaojjkknmaldiaaDoorFourJ
namespace Go.Proofs.YtaojjkknmaldiaaDoor
open Go.RowKit


theorem cat2 (x y : List UInt8) : ByteArray.mk x.toArray ++ ByteArray.mk y.toArray = ByteArray.mk (x ++ y).toArray := mk_append x y
theorem cat3 (x y : List UInt8) : ByteArray.mk x.toArray ++ ByteArray.mk #[46] ++ ByteArray.mk y.toArray = ByteArray.mk (x ++ [46] ++ y).toArray := by
  rw [show (ByteArray.mk #[46]) = ByteArray.mk [46].toArray from rfl, mk_append, mk_append]

theorem index4_0 (W : World) (a b c d : Int) : (Instr.index 33 (.agg #[.int .u8 a, .int .u8 b, .int .u8 c, .int .u8 d]) (.int .i64 0)).run Tryd.prog W = .ok (.int .u8 a) W := by
  simp [Instr.index, run_underlying Tryd.underlying33, asIntOf, go_sem, Tryd.sizeOf5, Tryd.isAgg5]
theorem index4_1 (W : World) (a b c d : Int) : (Instr.index 33 (.agg #[.int .u8 a, .int .u8 b, .int .u8 c, .int .u8 d]) (.int .i64 1)).run Tryd.prog W = .ok (.int .u8 b) W := by
  simp [Instr.index, run_underlying Tryd.underlying33, asIntOf, go_sem, Tryd.sizeOf5, Tryd.isAgg5]
theorem index4_2 (W : World) (a b c d : Int) : (Instr.index 33 (.agg #[.int .u8 a, .int .u8 b, .int .u8 c, .int .u8 d]) (.int .i64 2)).run Tryd.prog W = .ok (.int .u8 c) W := by
  simp [Instr.index, run_underlying Tryd.underlying33, asIntOf, go_sem, Tryd.sizeOf5, Tryd.isAgg5]
theorem index4_3 (W : World) (a b c d : Int) : (Instr.index 33 (.agg #[.int .u8 a, .int .u8 b, .int .u8 c, .int .u8 d]) (.int .i64 3)).run Tryd.prog W = .ok (.int .u8 d) W := by
  simp [Instr.index, run_underlying Tryd.underlying33, asIntOf, go_sem, Tryd.sizeOf5, Tryd.isAgg5]

def prefT (b0 b1 b2 b3 : Int) : Nat → List UInt8
  | 0 => []
  | 1 => dec3 b0.toNat
  | 2 => dec3 b0.toNat ++ [46] ++ dec3 b1.toNat
  | 3 => dec3 b0.toNat ++ [46] ++ dec3 b1.toNat ++ [46] ++ dec3 b2.toNat
  | _ => dec3 b0.toNat ++ [46] ++ dec3 b1.toNat ++ [46] ++ dec3 b2.toNat ++ [46] ++ dec3 b3.toNat
theorem prefT_len (b0 b1 b2 b3 : Int) (k : Nat) : (prefT b0 b1 b2 b3 k).length ≤ 15 := by
  have h1 := dec3_len b0.toNat
  have h2 := dec3_len b1.toNat
  have h3 := dec3_len b2.toNat
  have h4 := dec3_len b3.toNat
  unfold prefT
  split
  all_goals first | (simp; done) | (simp; omega) | omega
theorem prefT_txt (n : Int) : prefT (n / 16777216) (n / 65536 % 256) (n / 256 % 256) (n % 256) 4 = txtZ n := by
  simp [prefT, txtZ, txt]

def RetStr (w : World) (l : List UInt8) (e : Ending) (w' : World) : Prop := e = .returned (.string ⟨l.toArray⟩) ∧ Below w.heap.size w w'

set_option maxRecDepth 100000 in
set_option maxHeartbeats 2000000 in
theorem text4_any (n : Int) (w : World) (h0 : 0 ≤ n) (h1 : n ≤ 4294967295) (htab : PowTab w) :
    Calls Tryd.prog 16 #[.int .u32 n] w (RetStr w (txtZ n)) := by
  have HT0 := Lib.hid htab
  have HE := Lib.hid (prefT_txt n)
  clear htab
  go_enter Tryd.func16, Tryd.ntmps16
  go_wp2_with fail
  refine (bytes4_any n _ h0 h1).mono ?_
  rintro e w1 ⟨rfl, hb1⟩
  obtain ⟨b0, hb0⟩ : ∃ b, n / 16777216 = b := ⟨_, rfl⟩
  obtain ⟨b1, hb1'⟩ : ∃ b, n / 65536 % 256 = b := ⟨_, rfl⟩
  obtain ⟨b2, hb2'⟩ : ∃ b, n / 256 % 256 = b := ⟨_, rfl⟩
  obtain ⟨b3, hb3'⟩ : ∃ b, n % 256 = b := ⟨_, rfl⟩
  have l0 : 0 ≤ b0 := by omega
  have l1 : 0 ≤ b1 := by omega
  have l2 : 0 ≤ b2 := by omega
  have l3 : 0 ≤ b3 := by omega
  have m0 : b0 ≤ 255 := by omega
  have m1 : b1 ≤ 255 := by omega
  have m2 : b2 ≤ 255 := by omega
  have m3 : b3 ≤ 255 := by omega
  rw [hb0, hb1', hb2', hb3']
  have he := HE.out
  rw [hb0, hb1', hb2', hb3'] at he
  have HE2 := Lib.hid he
  clear he hb0 hb1' hb2' hb3'
  have HT1 := Lib.hid (powTab_below HT0.out hb1)
  go_wp2
  go_loopw [3, 8] (fun v i wr => ∃ (k : Nat), k ≤ 4 ∧ i = .int .i64 k ∧ v = .string ⟨(prefT b0 b1 b2 b3 k).toArray⟩ ∧ Hid (PowTab wr) ∧ Below w.heap.size w wr) (fun _ i _ => 4 - (intOf i).toNat)
  case atStart => exact ⟨0, by omega, rfl, rfl, HT1, hb1⟩
  case round =>
    obtain ⟨k, hk, rfl, rfl, HT, hbw⟩ := hrel
    rcases (show k = 0 ∨ k = 1 ∨ k = 2 ∨ k = 3 ∨ k = 4 from by omega) with rfl | rfl | rfl | rfl | rfl
    · try rw [show ((0 : Nat) : Int) = 0 from rfl]
      have hix := fun W => index4_0 W b0 b1 b2 b3
      have q1 := dec3_len b0.toNat
      have q2 := prefT_len b0 b1 b2 b3 0
      go_wp2_with fail
      refine (itoa_any b0 _ (by omega) (by omega) HT.out).mono ?_
      rintro e w2 ⟨rfl, hb2⟩
      have hc2 : Below w.heap.size w w2 := hbw.trans (hb2.mono hbw.size)
      have HT2 := Lib.hid (powTab_below HT.out hb2)
      clear hb2
      go_wp2
      go_roundw
      case rel => exact ⟨1, by omega, (by first | rfl | go_num), (by first | rfl | exact congrArg Value.string (cat3 _ _) | exact congrArg Value.string (cat2 _ _)), HT2, hc2⟩
      case measure => first | (simp [intOf]; done) | (simp [intOf]; omega)
    · try rw [show ((1 : Nat) : Int) = 1 from rfl]
      have hix := fun W => index4_1 W b0 b1 b2 b3
      have q1 := dec3_len b1.toNat
      have q2 := prefT_len b0 b1 b2 b3 1
      go_wp2_with fail
      refine (itoa_any b1 _ (by omega) (by omega) HT.out).mono ?_
      rintro e w2 ⟨rfl, hb2⟩
      have hc2 : Below w.heap.size w w2 := hbw.trans (hb2.mono hbw.size)
      have HT2 := Lib.hid (powTab_below HT.out hb2)
      clear hb2
      go_wp2
      go_roundw
      case rel => exact ⟨2, by omega, (by first | rfl | go_num), (by first | rfl | exact congrArg Value.string (cat3 _ _) | exact congrArg Value.string (cat2 _ _)), HT2, hc2⟩
      case measure => first | (simp [intOf]; done) | (simp [intOf]; omega)
    · try rw [show ((2 : Nat) : Int) = 2 from rfl]
      have hix := fun W => index4_2 W b0 b1 b2 b3
      have q1 := dec3_len b2.toNat
      have q2 := prefT_len b0 b1 b2 b3 2
      go_wp2_with fail
      refine (itoa_any b2 _ (by omega) (by omega) HT.out).mono ?_
      rintro e w2 ⟨rfl, hb2⟩
      have hc2 : Below w.heap.size w w2 := hbw.trans (hb2.mono hbw.size)
      have HT2 := Lib.hid (powTab_below HT.out hb2)
      clear hb2
      go_wp2
      go_roundw
      case rel => exact ⟨3, by omega, (by first | rfl | go_num), (by first | rfl | exact congrArg Value.string (cat3 _ _) | exact congrArg Value.string (cat2 _ _)), HT2, hc2⟩
      case measure => first | (simp [intOf]; done) | (simp [intOf]; omega)
    · try rw [show ((3 : Nat) : Int) = 3 from rfl]
      have hix := fun W => index4_3 W b0 b1 b2 b3
      have q1 := dec3_len b3.toNat
      have q2 := prefT_len b0 b1 b2 b3 3
      go_wp2_with fail
      refine (itoa_any b3 _ (by omega) (by omega) HT.out).mono ?_
      rintro e w2 ⟨rfl, hb2⟩
      have hc2 : Below w.heap.size w w2 := hbw.trans (hb2.mono hbw.size)
      have HT2 := Lib.hid (powTab_below HT.out hb2)
      clear hb2
      go_wp2
      go_roundw
      case rel => exact ⟨4, by omega, (by first | rfl | go_num), (by first | rfl | exact congrArg Value.string (cat3 _ _) | exact congrArg Value.string (cat2 _ _)), HT2, hc2⟩
      case measure => first | (simp [intOf]; done) | (simp [intOf]; omega)
    · try rw [show ((4 : Nat) : Int) = 4 from rfl]
      go_wp2
      go_ret
      exact ⟨congrArg (fun l : List UInt8 => Ending.returned (.string ⟨l.toArray⟩)) HE2.out, hbw⟩

set_option maxRecDepth 100000 in
set_option maxHeartbeats 2000000 in
theorem refText4_any (n : Int) (w : World) (h0 : 0 ≤ n) (h1 : n ≤ 4294967295) (htab : PowTab w) :
    Calls Tryd.prog 19 #[.int .u32 n] w (RetStr w (txtZ n)) := by
  have HT0 := Lib.hid htab
  have HE := Lib.hid (prefT_txt n)
  clear htab
  have q1 := dec3_len (n / 16777216).toNat
  have q2 := dec3_len (n / 65536 % 256).toNat
  have q3 := dec3_len (n / 256 % 256).toNat
  have q4 := dec3_len (n % 256).toNat
  go_enter Tryd.func19, Tryd.ntmps19
  go_wp2_with fail
  refine (itoa_any _ _ (by omega) (by omega) HT0.out).mono ?_
  rintro e w1 ⟨rfl, hb1⟩
  have HT1 := Lib.hid (powTab_below HT0.out hb1)
  go_wp2_with fail
  refine (itoa_any _ _ (by omega) (by omega) HT1.out).mono ?_
  rintro e w2 ⟨rfl, hb2⟩
  have HT2 := Lib.hid (powTab_below HT1.out hb2)
  have hc2 : Below w.heap.size w w2 := hb1.trans (hb2.mono hb1.size)
  clear hb1 hb2
  go_wp2_with fail
  refine (itoa_any _ _ (by omega) (by omega) HT2.out).mono ?_
  rintro e w3 ⟨rfl, hb3⟩
  have HT3 := Lib.hid (powTab_below HT2.out hb3)
  have hc3 : Below w.heap.size w w3 := hc2.trans (hb3.mono hc2.size)
  clear hc2 hb3
  go_wp2_with fail
  refine (itoa_any _ _ (by omega) (by omega) HT3.out).mono ?_
  rintro e w4 ⟨rfl, hb4⟩
  have hc4 : Below w.heap.size w w4 := hc3.trans (hb4.mono hc3.size)
  clear hc3 hb4
  go_wp2
  go_ret
  have hcat : ByteArray.mk (dec3 (n / 16777216).toNat).toArray ++ ByteArray.mk #[46] ++ ByteArray.mk (dec3 (n / 65536 % 256).toNat).toArray ++ ByteArray.mk #[46] ++ ByteArray.mk (dec3 (n / 256 % 256).toNat).toArray ++ ByteArray.mk #[46] ++ ByteArray.mk (dec3 (n % 256).toNat).toArray = ⟨(txtZ n).toArray⟩ := by
    rw [cat3, cat3, cat3, ← HE.out]
    rfl
  exact ⟨congrArg (fun b : ByteArray => Ending.returned (.string b)) hcat, hc4⟩
end Go.Proofs.YtaojjkknmaldiaaDoor
