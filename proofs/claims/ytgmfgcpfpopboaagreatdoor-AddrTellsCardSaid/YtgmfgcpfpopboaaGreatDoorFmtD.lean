/-
  FormatUint to the base 16: the digits themselves.
-/
import Derived.Test.YtgmfgcpfpopboaaGreatDoorMgC
namespace Go.Proofs.YtgmfgcpfpopboaaGreatDoor
open Go.RowKit Go.Sort Go.Lib


/-- the digits to the base 16, without a nought ahead -/
def hexD (u : Nat) : List UInt8 := if _h : u < 16 then [dgt u] else hexD (u / 16) ++ [dgt (u % 16)]
termination_by u
decreasing_by omega
theorem hexD_lo (u : Nat) (h : u < 16) : hexD u = [dgt u] := by rw [hexD, dif_pos h]
theorem hexD_hi (u : Nat) (h : 16 ≤ u) : hexD u = hexD (u / 16) ++ [dgt (u % 16)] := by rw [hexD, dif_neg (by omega)]

def RetHexL (u : Nat) (w : World) (e : Ending) (w' : World) : Prop := e = .returned (.tuple #[.slice none 0 0, .string ⟨(hexD u).toArray⟩]) ∧ Below w.heap.size w w'
def RetHexS (u : Nat) (w : World) (e : Ending) (w' : World) : Prop := e = .returned (.string ⟨(hexD u).toArray⟩) ∧ Below w.heap.size w w'

set_option maxRecDepth 100000 in
set_option maxHeartbeats 8000000 in
theorem bitsD_16 (u : Nat) (hu64 : u < 18446744073709551616) (w : World) (htab : BruTab w) :
    Calls Tryz.prog 74 #[.slice none 0 0, .int .u64 u, .int .i64 16, .bool false, .bool false] w (RetHexL u w) := by
  have HT := Lib.hid htab
  clear htab
  have hal : Tryz.prog.arrayLen 123 = 65 := by simp [Program.arrayLen, Tryz.underlying123]
  have HAL := Lib.hid hal
  clear hal
  go_enter Tryz.func74, Tryz.ntmps74
  go_wp2_with (first
    | (go_at_call 85; refine (pow2_16 _).mono ?_; rintro e w' ⟨rfl, rfl⟩)
    | (go_at_call 86; refine (tz_16 _ (tabIs_alloc HT.out _)).mono ?_; rintro e w' ⟨rfl, rfl⟩))
  go_loopw [1, 13] (fun x i wr => ∃ (v n : Nat) (T : List UInt8), x = .int .u64 v ∧ i = .int .i64 n ∧ v ≤ u ∧ Hid (n + T.length = 65) ∧ TailRow w.heap.size n T wr ∧ Hid (v < 2 ^ (64 - T.length)) ∧ Hid ((v : Int) * (16 : Nat) ^ T.length + valP (16 : Nat) T = u) ∧ Hid (T.length ≤ 64) ∧ Hid (hexD v ++ T = hexD u) ∧ Below w.heap.size w wr) (fun x _ _ => (RowKit.intOf x).toNat)
  case atStart => exact ⟨u, 65, [], rfl, rfl, Nat.le_refl _, rfl, tailRow_start w, hu64, (by show (u : Int) * _ ^ 0 + 0 = u; simp), (by show (0 : Nat) ≤ 64; omega), (by show hexD u ++ [] = hexD u; simp), (Below.refl _ w).alloc (Nat.le_refl _) _⟩
  case round =>
    obtain ⟨v, n, T, rfl, rfl, hvu, HN, hr, HP, HV, HK, HD, hbw⟩ := hrel
    have hTR := Lib.hid hr
    clear hr
    by_cases hv : 16 ≤ v
    · have hl := small_pow v T.length HP.out (by omega)
      obtain ⟨i, rfl⟩ : ∃ i, n = i + 1 := ⟨n - 1, by have := HN.out; omega⟩
      have hi : i < 65 := by have := HN.out; omega
      obtain ⟨d, hd⟩ : ∃ d, v % 16 = d := ⟨_, rfl⟩
      have hdb : d < 16 := by omega
      have hand : bits .and .u64 (v : Int) 15 = (d : Int) := by
        have := bits_mask .u64 64 (by decide) (fun n h0 h1 => by rw [IntKind.wrap_u64]; omega) 4 (by decide) (v : Int) (by omega) (by omega)
        rw [show (2 : Int) ^ 4 - 1 = 15 from by decide] at this
        rw [this]
        omega
      obtain ⟨c0, hcell⟩ := hTR.out.cell i hi
      have hfr := hTR.out.frozen i
      have hix := fun W => dig36 W d (by omega)
      have HTR2 := Lib.hid (hTR.out.put (dgt d))
      have HP2 := Lib.hid (pow_next v T.length 16 HP.out hl (by decide))
      have HV2 := Lib.hid (valP_step 16 v T u (by omega) HV.out)
      rw [hd] at HV2
      have HD2 : Hid (hexD (v / 16) ++ (dgt d :: T) = hexD u) := by
        show hexD (v / 16) ++ (dgt d :: T) = hexD u
        rw [← HD.out, hexD_hi v hv, hd, List.append_assoc]; rfl
      have hbw2 := hbw.setCell (p := ⟨w.heap.size, i, none⟩) (Nat.le_refl _) (.int .u8 ((dgt d).toNat : Int))
      have HDD := Lib.hid hd
      clear hd
      go_wp2
      go_roundw
      case rel => exact ⟨v / 16, i, dgt d :: T, (by first | rfl | go_num | exact congrArg (Value.int .u64) (by omega)), (by first | rfl | go_num), by omega, (by have := HN.out; show i + (T.length + 1) = 65; omega), HTR2.out, HP2, HV2, (by show T.length + 1 ≤ 64; omega), HD2, hbw2⟩
      case measure => simp [RowKit.intOf]; omega
    · have hlen : T.length ≤ 64 := HK.out
      obtain ⟨i, rfl⟩ : ∃ i, n = i + 1 := ⟨n - 1, by have := HN.out; omega⟩
      have hi : i < 65 := by have := HN.out; omega
      obtain ⟨c0, hcell⟩ := hTR.out.cell i hi
      have hfr := hTR.out.frozen i
      have hix := fun W => dig36 W v (by omega)
      have htr2 := hTR.out.put (dgt v)
      have HNUM : Hid (dgt v :: T = hexD u) := by
        show dgt v :: T = hexD u
        rw [← HD.out, hexD_lo v (by omega)]; rfl
      have hbw2 := hbw.setCell (p := ⟨w.heap.size, i, none⟩) (Nat.le_refl _) (.int .u8 ((dgt v).toNat : Int))
      have hcv := htr2.conv
      have hsl : ∀ W, (Instr.sliceAt 123 (.pointer (some ⟨w.heap.size, 0, none⟩)) (some (.int .i64 (i : Int))) none none).run Tryz.prog W = .ok (.slice (some ⟨w.heap.size, i, none⟩) (65 - i) (65 - i)) W := fun W => by
        rw [run_sliceAt_array_l W 123 ⟨w.heap.size, 0, none⟩ (by simp [Program.arrayLen, Program.elem, Tryz.underlying123]) .i64 (i : Int) (by omega) (by rw [HAL.out]; omega), HAL.out]
        go_simp
        omega
      clear htr2
      go_wp2
      go_ret2
      exact ⟨congrArg (fun l : List UInt8 => Ending.returned (.tuple #[.slice none 0 0, .string ⟨l.toArray⟩])) HNUM.out, hbw2⟩

set_option maxRecDepth 100000 in
set_option maxHeartbeats 1000000 in
theorem fmtUD16_in (u : Nat) (hu64 : u < 18446744073709551616) (w : World) (htab : BruTab w) :
    Calls Tryz.prog 77 #[.int .u64 u, .int .i64 16] w (RetHexS u w) := by
  have HT := Lib.hid htab
  clear htab
  go_enter Tryz.func77, Tryz.ntmps77
  go_wp2_with fail
  refine (bitsD_16 u hu64 _ HT.out).mono ?_
  rintro e w1 ⟨rfl, hb⟩
  go_wp2
  go_ret
  exact ⟨rfl, hb⟩

set_option maxRecDepth 100000 in
set_option maxHeartbeats 1000000 in
theorem fmtD16_any (u : Nat) (hu64 : u < 18446744073709551616) (w : World) (htab : BruTab w) :
    Calls Tryz.prog 65 #[.int .u64 u, .int .i64 16] w (RetHexS u w) := by
  have HT := Lib.hid htab
  clear htab
  go_enter Tryz.func65, Tryz.ntmps65
  go_wp2_with fail
  refine (fmtUD16_in u hu64 _ HT.out).mono ?_
  rintro e w1 ⟨rfl, hb⟩
  go_wp2
  go_ret
  exact ⟨rfl, hb⟩

end Go.Proofs.YtgmfgcpfpopboaaGreatDoor
