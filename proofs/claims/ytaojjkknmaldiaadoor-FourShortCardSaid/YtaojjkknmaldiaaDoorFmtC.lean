/-
  Numbers printed to the bases 8 and 16: internal/strconv.formatBits; strconv.FormatUint.
-/
import Derived.Test.YtaojjkknmaldiaaDoorFmtB
namespace Go.Proofs.YtaojjkknmaldiaaDoor
open Go.RowKit Go.Sort Go.Lib


def bruTab : List Int := [0, 1, 56, 2, 57, 49, 28, 3, 61, 58, 42, 50, 38, 29, 17, 4, 62, 47, 59, 36, 45, 43, 51, 22, 53, 39, 33, 30, 24, 18, 12, 5, 63, 55, 48, 27, 60, 41, 37, 16, 46, 35, 44, 21, 52, 32, 23, 11, 54, 26, 40, 15, 34, 20, 31, 10, 25, 14, 19, 9, 13, 8, 7, 6]
abbrev BruTab (w : World) : Prop := Lib.TabIs Tryd.prog w "math/bits.deBruijn64tab" .u8 bruTab
theorem bruTab_below {w w' : World} (h : BruTab w) (hb : Below w.heap.size w w') : BruTab w' :=
  Lib.tabBelow_of_tabIs h w' hb
theorem bru_at (w : World) (h : BruTab w) (i : Nat) (hi : i < 64) : w.cell? ⟨2, i, none⟩ = some (.int .u8 (bruTab.getD i 0)) :=
  Lib.TabIs.cell h (by kernel_rfl) i (by simpa [bruTab] using hi)

set_option maxRecDepth 100000 in
set_option maxHeartbeats 1000000 in
theorem tz64_8 (w : World) (h : BruTab w) : Calls Tryd.prog 56 #[.int .u64 8] w fun e w' => e = .returned (.int .i64 3) ∧ w = w' := by
  have hc : w.cell? ⟨2, 7, none⟩ = some (.int .u8 3) := bru_at w h 7 (by decide)
  have e1 : IntKind.u64.wrap (-8) = 18446744073709551608 := by decide
  have e2 : bits .and .u64 8 18446744073709551608 = 8 := by decide
  clear h
  go_enter Tryd.func56, Tryd.ntmps56
  go_wp2
  go_ret
  exact ⟨rfl, rfl⟩
set_option maxRecDepth 100000 in
set_option maxHeartbeats 1000000 in
theorem tz_8 (w : World) (h : BruTab w) : Calls Tryd.prog 43 #[.int .u64 8] w fun e w' => e = .returned (.int .i64 3) ∧ w = w' := by
  have HT := Lib.hid h
  clear h
  go_enter Tryd.func43, Tryd.ntmps43
  go_wp2_with (go_at_call 56; refine (tz64_8 _ HT.out).mono ?_; rintro e w' ⟨rfl, rfl⟩)
  go_ret
  exact ⟨rfl, rfl⟩
set_option maxHeartbeats 1000000 in
theorem pow2_8 (w : World) : Calls Tryd.prog 42 #[.int .i64 8] w fun e w' => e = .returned (.bool true) ∧ w = w' := by
  have e1 : bits .and .i64 8 7 = 0 := by decide
  go_enter Tryd.func42, Tryd.ntmps42
  go_wp2
  go_ret
  exact ⟨rfl, rfl⟩

set_option maxRecDepth 100000 in
set_option maxHeartbeats 1000000 in
theorem tz64_16 (w : World) (h : BruTab w) : Calls Tryd.prog 56 #[.int .u64 16] w fun e w' => e = .returned (.int .i64 4) ∧ w = w' := by
  have hc : w.cell? ⟨2, 15, none⟩ = some (.int .u8 4) := bru_at w h 15 (by decide)
  have e1 : IntKind.u64.wrap (-16) = 18446744073709551600 := by decide
  have e2 : bits .and .u64 16 18446744073709551600 = 16 := by decide
  clear h
  go_enter Tryd.func56, Tryd.ntmps56
  go_wp2
  go_ret
  exact ⟨rfl, rfl⟩
set_option maxRecDepth 100000 in
set_option maxHeartbeats 1000000 in
theorem tz_16 (w : World) (h : BruTab w) : Calls Tryd.prog 43 #[.int .u64 16] w fun e w' => e = .returned (.int .i64 4) ∧ w = w' := by
  have HT := Lib.hid h
  clear h
  go_enter Tryd.func43, Tryd.ntmps43
  go_wp2_with (go_at_call 56; refine (tz64_16 _ HT.out).mono ?_; rintro e w' ⟨rfl, rfl⟩)
  go_ret
  exact ⟨rfl, rfl⟩
set_option maxHeartbeats 1000000 in
theorem pow2_16 (w : World) : Calls Tryd.prog 42 #[.int .i64 16] w fun e w' => e = .returned (.bool true) ∧ w = w' := by
  have e1 : bits .and .i64 16 15 = 0 := by decide
  go_enter Tryd.func42, Tryd.ntmps42
  go_wp2
  go_ret
  exact ⟨rfl, rfl⟩

def zeros65 : Array Value := #[.int .u8 0, .int .u8 0, .int .u8 0, .int .u8 0, .int .u8 0, .int .u8 0, .int .u8 0, .int .u8 0, .int .u8 0, .int .u8 0, .int .u8 0, .int .u8 0, .int .u8 0, .int .u8 0, .int .u8 0, .int .u8 0, .int .u8 0, .int .u8 0, .int .u8 0, .int .u8 0, .int .u8 0, .int .u8 0, .int .u8 0, .int .u8 0, .int .u8 0, .int .u8 0, .int .u8 0, .int .u8 0, .int .u8 0, .int .u8 0, .int .u8 0, .int .u8 0, .int .u8 0, .int .u8 0, .int .u8 0, .int .u8 0, .int .u8 0, .int .u8 0, .int .u8 0, .int .u8 0, .int .u8 0, .int .u8 0, .int .u8 0, .int .u8 0, .int .u8 0, .int .u8 0, .int .u8 0, .int .u8 0, .int .u8 0, .int .u8 0, .int .u8 0, .int .u8 0, .int .u8 0, .int .u8 0, .int .u8 0, .int .u8 0, .int .u8 0, .int .u8 0, .int .u8 0, .int .u8 0, .int .u8 0, .int .u8 0, .int .u8 0, .int .u8 0, .int .u8 0]
/-- the array's bytes from i on are T -/
def TailRow (B i : Nat) (T : List UInt8) (w : World) : Prop :=
  ∃ cur : Array Value, w.heap[B]? = some (.cells cur 66 (0, 0)) ∧ cur.size = 65 ∧ i + T.length = 65 ∧ ∀ j x, T[j]? = some x → cur[i + j]? = some (.int .u8 (x.toNat : Int))
theorem tailRow_start (w : World) : TailRow w.heap.size 65 [] (w.alloc (.cells zeros65 66)) :=
  ⟨zeros65, heap_alloc_new w _, rfl, rfl, fun j x h => by simp at h⟩
theorem TailRow.cell {B i : Nat} {T : List UInt8} {w : World} (h : TailRow B i T w) (k : Nat) (hk : k < 65) : ∃ u, w.cell? ⟨B, k, none⟩ = some u := by
  obtain ⟨cur, h1, h2, _, _⟩ := h
  rw [cell_of_row w B k cur _ _ h1]
  exact ⟨_, Array.getElem?_eq_getElem (by omega)⟩
theorem TailRow.frozen {B i : Nat} {T : List UInt8} {w : World} (h : TailRow B i T w) (k : Nat) : w.frozen? ⟨B, k, none⟩ = false := by
  obtain ⟨cur, h1, _, _, _⟩ := h
  simp [World.frozen?, h1]
theorem TailRow.put {B i : Nat} {T : List UInt8} {w : World} (h : TailRow B (i + 1) T w) (c : UInt8) : TailRow B i (c :: T) (w.setCell ⟨B, i, none⟩ (.int .u8 (c.toNat : Int))) := by
  obtain ⟨cur, h1, h2, h3, h4⟩ := h
  refine ⟨cur.setIfInBounds i (.int .u8 (c.toNat : Int)), ?_, by simpa using h2, by simp; omega, fun j x hj => ?_⟩
  · simp [World.setCell, Array.getElem?_modify, h1]
  · rw [Array.getElem?_setIfInBounds]
    cases j with
    | zero =>
      simp at hj
      subst hj
      rw [if_pos (by omega), if_pos (by omega)]
    | succ j =>
      rw [if_neg (by omega), show i + (j + 1) = i + 1 + j from by omega]
      exact h4 j x (by simpa using hj)
theorem TailRow.conv {B i : Nat} {T : List UInt8} {w : World} (h : TailRow B i T w) :
    (convert 56 9 (.slice (some ⟨B, i, none⟩) (65 - i) (65 - i))).run Tryd.prog w = .ok (.string ⟨T.toArray⟩) w := by
  refine conv_bytes w _ _ 5 _ _ ?_ Tryd.underlying56 Tryd.underlying5 Tryd.underlying9
  obtain ⟨cur, h1, h2, h3, h4⟩ := h
  refine ⟨_, 65 - i, by rw [Lib.byteCells_length, show 65 - i = T.length from by omega], fun j u hj => ⟨_, rfl, ?_⟩⟩
  rw [Lib.add_plain, cell_of_row w B (i + j) cur _ _ h1]
  have hx : ∃ x, T[j]? = some x ∧ u = .int .u8 (x.toNat : Int) := by
    simp only [Lib.byteCells, List.getElem?_map, Option.map_eq_some_iff] at hj
    obtain ⟨x, hx, rfl⟩ := hj
    exact ⟨x, hx, rfl⟩
  obtain ⟨x, hx, rfl⟩ := hx
  exact h4 j x hx

theorem dig36' : ∀ d : Fin 16, (ByteArray.mk #[48, 49, 50, 51, 52, 53, 54, 55, 56, 57, 97, 98, 99, 100, 101, 102, 103, 104, 105, 106, 107, 108, 109, 110, 111, 112, 113, 114, 115, 116, 117, 118, 119, 120, 121, 122])[d.val]? = some (dgt d.val) := by decide +kernel
theorem dig36 (W : World) (d : Nat) (h : d < 16) : (Instr.index 9 (.string ⟨#[48, 49, 50, 51, 52, 53, 54, 55, 56, 57, 97, 98, 99, 100, 101, 102, 103, 104, 105, 106, 107, 108, 109, 110, 111, 112, 113, 114, 115, 116, 117, 118, 119, 120, 121, 122]⟩) (.int .u64 (d : Int))).run Tryd.prog W = .ok (.int .u8 ((dgt d).toNat : Int)) W := by
  rw [run_index_string W 9 _ .u64 (d : Int) Tryd.underlying9, dif_pos ⟨by omega, by show (d : Int) < 36; omega⟩]
  have e := dig36' ⟨d, h⟩
  have e2 : (ByteArray.mk #[48, 49, 50, 51, 52, 53, 54, 55, 56, 57, 97, 98, 99, 100, 101, 102, 103, 104, 105, 106, 107, 108, 109, 110, 111, 112, 113, 114, 115, 116, 117, 118, 119, 120, 121, 122])[((d : Int)).toNat]'(by show _ < 36; omega) = dgt d := by
    rw [ByteArray.getElem?_lt' _ _ (by show d < 36; omega)] at e
    exact Option.some.inj e
  rw [e2]

def RetNumL (b u : Int) (w : World) (e : Ending) (w' : World) : Prop := ∃ L, e = .returned (.tuple #[.slice none 0 0, .string ⟨L.toArray⟩]) ∧ IsNum b u L ∧ Below w.heap.size w w'
def RetNumS (b u : Int) (w : World) (e : Ending) (w' : World) : Prop := ∃ L, e = .returned (.string ⟨L.toArray⟩) ∧ IsNum b u L ∧ Below w.heap.size w w'

theorem small_pow (v l : Nat) (h : v < 2 ^ (64 - l)) (h8 : 8 ≤ v) : l ≤ 60 := by
  by_cases hl : l ≤ 60
  · exact hl
  · exfalso
    have : 2 ^ (64 - l) ≤ 2 ^ 3 := Nat.pow_le_pow_right (by decide) (by omega)
    omega
theorem pow_next (v l b : Nat) (h : v < 2 ^ (64 - l)) (hl : l ≤ 60) (hb : 2 ≤ b) : v / b < 2 ^ (64 - (l + 1)) := by
  have e : 64 - l = (64 - (l + 1)) + 1 := by omega
  rw [e, Nat.pow_succ] at h
  rw [Nat.div_lt_iff_lt_mul (by omega)]
  exact Nat.lt_of_lt_of_le h (Nat.mul_le_mul_left _ hb)

set_option maxRecDepth 100000 in
set_option maxHeartbeats 8000000 in
theorem bits_8 (u : Nat) (hu64 : u < 18446744073709551616) (w : World) (htab : BruTab w) :
    Calls Tryd.prog 33 #[.slice none 0 0, .int .u64 u, .int .i64 8, .bool false, .bool false] w (RetNumL 8 u w) := by
  have HT := Lib.hid htab
  clear htab
  have hal : Tryd.prog.arrayLen 66 = 65 := by simp [Program.arrayLen, Tryd.underlying66]
  have HAL := Lib.hid hal
  clear hal
  go_enter Tryd.func33, Tryd.ntmps33
  go_wp2_with (first
    | (go_at_call 42; refine (pow2_8 _).mono ?_; rintro e w' ⟨rfl, rfl⟩)
    | (go_at_call 43; refine (tz_8 _ (tabIs_alloc HT.out _)).mono ?_; rintro e w' ⟨rfl, rfl⟩))
  go_loopw [1, 13] (fun x i wr => ∃ (v n : Nat) (T : List UInt8), x = .int .u64 v ∧ i = .int .i64 n ∧ v ≤ u ∧ Hid (n + T.length = 65) ∧ TailRow w.heap.size n T wr ∧ Hid (v < 2 ^ (64 - T.length)) ∧ Hid ((v : Int) * (8 : Nat) ^ T.length + valP (8 : Nat) T = u) ∧ Hid (T.length ≤ 64) ∧ Hid (digsB 8 T = true) ∧ Below w.heap.size w wr) (fun x _ _ => (RowKit.intOf x).toNat)
  case atStart => exact ⟨u, 65, [], rfl, rfl, Nat.le_refl _, rfl, tailRow_start w, hu64, (by show (u : Int) * _ ^ 0 + 0 = u; simp), (by show (0 : Nat) ≤ 64; omega), rfl, (Below.refl _ w).alloc (Nat.le_refl _) _⟩
  case round =>
    obtain ⟨v, n, T, rfl, rfl, hvu, HN, hr, HP, HV, HK, HD, hbw⟩ := hrel
    have hTR := Lib.hid hr
    clear hr
    by_cases hv : 8 ≤ v
    · have hl := small_pow v T.length HP.out (by omega)
      obtain ⟨i, rfl⟩ : ∃ i, n = i + 1 := ⟨n - 1, by have := HN.out; omega⟩
      have hi : i < 65 := by have := HN.out; omega
      obtain ⟨d, hd⟩ : ∃ d, v % 8 = d := ⟨_, rfl⟩
      have hdb : d < 8 := by omega
      have hand : bits .and .u64 (v : Int) 7 = (d : Int) := by
        have := bits_mask .u64 64 (by decide) (fun n h0 h1 => by rw [IntKind.wrap_u64]; omega) 3 (by decide) (v : Int) (by omega) (by omega)
        rw [show (2 : Int) ^ 3 - 1 = 7 from by decide] at this
        rw [this]
        omega
      obtain ⟨c0, hcell⟩ := hTR.out.cell i hi
      have hfr := hTR.out.frozen i
      have hix := fun W => dig36 W d (by omega)
      have HTR2 := Lib.hid (hTR.out.put (dgt d))
      have HP2 := Lib.hid (pow_next v T.length 8 HP.out hl (by decide))
      have HV2 := Lib.hid (valP_step 8 v T u (by omega) HV.out)
      rw [hd] at HV2
      have HD2 : Hid (digsB 8 (dgt d :: T) = true) := by
        show digsB 8 (dgt d :: T) = true
        unfold digsB
        rw [List.all_cons, dgt_dig 8 d (by omega) (by omega)]
        exact HD.out
      have hbw2 := hbw.setCell (p := ⟨w.heap.size, i, none⟩) (Nat.le_refl _) (.int .u8 ((dgt d).toNat : Int))
      have HDD := Lib.hid hd
      clear hd
      go_wp2
      go_roundw
      case rel => exact ⟨v / 8, i, dgt d :: T, (by first | rfl | go_num | exact congrArg (Value.int .u64) (by omega)), (by first | rfl | go_num), by omega, (by have := HN.out; show i + (T.length + 1) = 65; omega), HTR2.out, HP2, HV2, (by show T.length + 1 ≤ 64; omega), HD2, hbw2⟩
      case measure => simp [RowKit.intOf]; omega
    · have hlen : T.length ≤ 64 := HK.out
      obtain ⟨i, rfl⟩ : ∃ i, n = i + 1 := ⟨n - 1, by have := HN.out; omega⟩
      have hi : i < 65 := by have := HN.out; omega
      obtain ⟨c0, hcell⟩ := hTR.out.cell i hi
      have hfr := hTR.out.frozen i
      have hix := fun W => dig36 W v (by omega)
      have htr2 := hTR.out.put (dgt v)
      have HNUM : Hid (IsNum 8 u (dgt v :: T)) := ⟨by simp, by
        unfold digsB
        rw [List.all_cons, dgt_dig 8 v (by omega) (by omega)]
        exact HD.out, valP_end 8 v T u (by omega) HV.out, by simp; omega⟩
      have hbw2 := hbw.setCell (p := ⟨w.heap.size, i, none⟩) (Nat.le_refl _) (.int .u8 ((dgt v).toNat : Int))
      have hcv := htr2.conv
      have hsl : ∀ W, (Instr.sliceAt 66 (.pointer (some ⟨w.heap.size, 0, none⟩)) (some (.int .i64 (i : Int))) none none).run Tryd.prog W = .ok (.slice (some ⟨w.heap.size, i, none⟩) (65 - i) (65 - i)) W := fun W => by
        rw [run_sliceAt_array_l W 66 ⟨w.heap.size, 0, none⟩ (by simp [Program.arrayLen, Program.elem, Tryd.underlying66]) .i64 (i : Int) (by omega) (by rw [HAL.out]; omega), HAL.out]
        go_simp
        omega
      clear htr2
      go_wp2
      go_ret2
      exact ⟨_, rfl, HNUM.out, hbw2⟩

set_option maxRecDepth 100000 in
set_option maxHeartbeats 1000000 in
theorem fmtU8_in (u : Nat) (hu64 : u < 18446744073709551616) (w : World) (htab : BruTab w) :
    Calls Tryd.prog 21 #[.int .u64 u, .int .i64 8] w (RetNumS 8 u w) := by
  have HT := Lib.hid htab
  clear htab
  go_enter Tryd.func21, Tryd.ntmps21
  go_wp2_with fail
  refine (bits_8 u hu64 _ HT.out).mono ?_
  rintro e w1 ⟨L, rfl, hn, hb⟩
  have HN := Lib.hid hn
  clear hn
  go_wp2
  go_ret
  exact ⟨L, rfl, HN.out, hb⟩

set_option maxRecDepth 100000 in
set_option maxHeartbeats 1000000 in
theorem fmt8_any (u : Nat) (hu64 : u < 18446744073709551616) (w : World) (htab : BruTab w) :
    Calls Tryd.prog 8 #[.int .u64 u, .int .i64 8] w (RetNumS 8 u w) := by
  have HT := Lib.hid htab
  clear htab
  go_enter Tryd.func8, Tryd.ntmps8
  go_wp2_with fail
  refine (fmtU8_in u hu64 _ HT.out).mono ?_
  rintro e w1 ⟨L, rfl, hn, hb⟩
  have HN := Lib.hid hn
  clear hn
  go_wp2
  go_ret
  exact ⟨L, rfl, HN.out, hb⟩

set_option maxRecDepth 100000 in
set_option maxHeartbeats 8000000 in
theorem bits_16 (u : Nat) (hu64 : u < 18446744073709551616) (w : World) (htab : BruTab w) :
    Calls Tryd.prog 33 #[.slice none 0 0, .int .u64 u, .int .i64 16, .bool false, .bool false] w (RetNumL 16 u w) := by
  have HT := Lib.hid htab
  clear htab
  have hal : Tryd.prog.arrayLen 66 = 65 := by simp [Program.arrayLen, Tryd.underlying66]
  have HAL := Lib.hid hal
  clear hal
  go_enter Tryd.func33, Tryd.ntmps33
  go_wp2_with (first
    | (go_at_call 42; refine (pow2_16 _).mono ?_; rintro e w' ⟨rfl, rfl⟩)
    | (go_at_call 43; refine (tz_16 _ (tabIs_alloc HT.out _)).mono ?_; rintro e w' ⟨rfl, rfl⟩))
  go_loopw [1, 13] (fun x i wr => ∃ (v n : Nat) (T : List UInt8), x = .int .u64 v ∧ i = .int .i64 n ∧ v ≤ u ∧ Hid (n + T.length = 65) ∧ TailRow w.heap.size n T wr ∧ Hid (v < 2 ^ (64 - T.length)) ∧ Hid ((v : Int) * (16 : Nat) ^ T.length + valP (16 : Nat) T = u) ∧ Hid (T.length ≤ 64) ∧ Hid (digsB 16 T = true) ∧ Below w.heap.size w wr) (fun x _ _ => (RowKit.intOf x).toNat)
  case atStart => exact ⟨u, 65, [], rfl, rfl, Nat.le_refl _, rfl, tailRow_start w, hu64, (by show (u : Int) * _ ^ 0 + 0 = u; simp), (by show (0 : Nat) ≤ 64; omega), rfl, (Below.refl _ w).alloc (Nat.le_refl _) _⟩
  case round =>
    obtain ⟨v, n, T, rfl, rfl, hvu, HN, hr, HP, HV, HK, HD, hbw⟩ := hrel
    have hTR := Lib.hid hr
    clear hr
    by_cases hv : 16 ≤ v
    · have hl := small_pow v T.length HP.out (by omega)
      obtain ⟨i, rfl⟩ : ∃ i, n = i + 1 := ⟨n - 1, by have := HN.out; omega⟩
      have hi : i < 65 := by have := HN.out; omega
      obtain ⟨d, hd⟩ : ∃ d, v % 16 = d := ⟨_, rfl⟩
      have hdb : d < 16 := by omega
      have hand : bits .and .u64 (v : Int) 15 = (d : Int) := by
        have := bits_mask .u64 64 (by decide) (fun n h0 h1 => by rw [IntKind.wrap_u64]; omega) 4 (by decide) (v : Int) (by omega) (by omega)
        rw [show (2 : Int) ^ 4 - 1 = 15 from by decide] at this
        rw [this]
        omega
      obtain ⟨c0, hcell⟩ := hTR.out.cell i hi
      have hfr := hTR.out.frozen i
      have hix := fun W => dig36 W d (by omega)
      have HTR2 := Lib.hid (hTR.out.put (dgt d))
      have HP2 := Lib.hid (pow_next v T.length 16 HP.out hl (by decide))
      have HV2 := Lib.hid (valP_step 16 v T u (by omega) HV.out)
      rw [hd] at HV2
      have HD2 : Hid (digsB 16 (dgt d :: T) = true) := by
        show digsB 16 (dgt d :: T) = true
        unfold digsB
        rw [List.all_cons, dgt_dig 16 d (by omega) (by omega)]
        exact HD.out
      have hbw2 := hbw.setCell (p := ⟨w.heap.size, i, none⟩) (Nat.le_refl _) (.int .u8 ((dgt d).toNat : Int))
      have HDD := Lib.hid hd
      clear hd
      go_wp2
      go_roundw
      case rel => exact ⟨v / 16, i, dgt d :: T, (by first | rfl | go_num | exact congrArg (Value.int .u64) (by omega)), (by first | rfl | go_num), by omega, (by have := HN.out; show i + (T.length + 1) = 65; omega), HTR2.out, HP2, HV2, (by show T.length + 1 ≤ 64; omega), HD2, hbw2⟩
      case measure => simp [RowKit.intOf]; omega
    · have hlen : T.length ≤ 64 := HK.out
      obtain ⟨i, rfl⟩ : ∃ i, n = i + 1 := ⟨n - 1, by have := HN.out; omega⟩
      have hi : i < 65 := by have := HN.out; omega
      obtain ⟨c0, hcell⟩ := hTR.out.cell i hi
      have hfr := hTR.out.frozen i
      have hix := fun W => dig36 W v (by omega)
      have htr2 := hTR.out.put (dgt v)
      have HNUM : Hid (IsNum 16 u (dgt v :: T)) := ⟨by simp, by
        unfold digsB
        rw [List.all_cons, dgt_dig 16 v (by omega) (by omega)]
        exact HD.out, valP_end 16 v T u (by omega) HV.out, by simp; omega⟩
      have hbw2 := hbw.setCell (p := ⟨w.heap.size, i, none⟩) (Nat.le_refl _) (.int .u8 ((dgt v).toNat : Int))
      have hcv := htr2.conv
      have hsl : ∀ W, (Instr.sliceAt 66 (.pointer (some ⟨w.heap.size, 0, none⟩)) (some (.int .i64 (i : Int))) none none).run Tryd.prog W = .ok (.slice (some ⟨w.heap.size, i, none⟩) (65 - i) (65 - i)) W := fun W => by
        rw [run_sliceAt_array_l W 66 ⟨w.heap.size, 0, none⟩ (by simp [Program.arrayLen, Program.elem, Tryd.underlying66]) .i64 (i : Int) (by omega) (by rw [HAL.out]; omega), HAL.out]
        go_simp
        omega
      clear htr2
      go_wp2
      go_ret2
      exact ⟨_, rfl, HNUM.out, hbw2⟩

set_option maxRecDepth 100000 in
set_option maxHeartbeats 1000000 in
theorem fmtU16_in (u : Nat) (hu64 : u < 18446744073709551616) (w : World) (htab : BruTab w) :
    Calls Tryd.prog 21 #[.int .u64 u, .int .i64 16] w (RetNumS 16 u w) := by
  have HT := Lib.hid htab
  clear htab
  go_enter Tryd.func21, Tryd.ntmps21
  go_wp2_with fail
  refine (bits_16 u hu64 _ HT.out).mono ?_
  rintro e w1 ⟨L, rfl, hn, hb⟩
  have HN := Lib.hid hn
  clear hn
  go_wp2
  go_ret
  exact ⟨L, rfl, HN.out, hb⟩

set_option maxRecDepth 100000 in
set_option maxHeartbeats 1000000 in
theorem fmt16_any (u : Nat) (hu64 : u < 18446744073709551616) (w : World) (htab : BruTab w) :
    Calls Tryd.prog 8 #[.int .u64 u, .int .i64 16] w (RetNumS 16 u w) := by
  have HT := Lib.hid htab
  clear htab
  go_enter Tryd.func8, Tryd.ntmps8
  go_wp2_with fail
  refine (fmtU16_in u hu64 _ HT.out).mono ?_
  rintro e w1 ⟨L, rfl, hn, hb⟩
  have HN := Lib.hid hn
  clear hn
  go_wp2
  go_ret
  exact ⟨L, rfl, HN.out, hb⟩

set_option maxRecDepth 100000 in
set_option maxHeartbeats 1000000 in
theorem fmt10_any (u : Nat) (hu64 : u < 18446744073709551616) (w : World) (htab : PowTab w) :
    Calls Tryd.prog 8 #[.int .u64 u, .int .i64 10] w fun e w' => e = .returned (.string ⟨(decDigits u).toArray⟩) ∧ Below w.heap.size w w' := by
  have HT := Lib.hid htab
  clear htab
  go_enter Tryd.func8, Tryd.ntmps8
  go_wp2_with fail
  refine (fmtU10_in u hu64 _ HT.out).mono ?_
  rintro e w1 ⟨rfl, hb⟩
  go_wp2
  go_ret
  exact ⟨rfl, hb⟩
end Go.Proofs.YtaojjkknmaldiaaDoor
