/-
  Layer 5: the reference's Pieces, hex, join, zeros.
-/
import Derived.Test.YtgmfgcpfpopboaaGreatDoorSixN
import Derived.Test.YtgmfgcpfpopboaaGreatDoorSixH
namespace Go.Proofs.YtgmfgcpfpopboaaGreatDoor
open Go.RowKit


def sh16 : Nat → Int → Int
  | 0, x => x
  | k + 1, x => sh16 k x / 65536
theorem sh16_bounds (k : Nat) (x : Int) (h0 : 0 ≤ x) (h1 : x ≤ 18446744073709551615) : 0 ≤ sh16 k x ∧ sh16 k x ≤ 18446744073709551615 := by
  induction k with
  | zero => exact ⟨h0, h1⟩
  | succ k ih => unfold sh16; omega
def arrR (a0 a1 a2 a3 a4 a5 a6 a7 : Int) : Nat → Array Value
  | 0 => #[.int .i64 0, .int .i64 0, .int .i64 0, .int .i64 0, .int .i64 0, .int .i64 0, .int .i64 0, .int .i64 0]
  | 1 => #[.int .i64 0, .int .i64 0, .int .i64 0, .int .i64 a3, .int .i64 0, .int .i64 0, .int .i64 0, .int .i64 a7]
  | 2 => #[.int .i64 0, .int .i64 0, .int .i64 a2, .int .i64 a3, .int .i64 0, .int .i64 0, .int .i64 a6, .int .i64 a7]
  | 3 => #[.int .i64 0, .int .i64 a1, .int .i64 a2, .int .i64 a3, .int .i64 0, .int .i64 a5, .int .i64 a6, .int .i64 a7]
  | _ => #[.int .i64 a0, .int .i64 a1, .int .i64 a2, .int .i64 a3, .int .i64 a4, .int .i64 a5, .int .i64 a6, .int .i64 a7]
def RetRow8 (w : World) (p : List Int) (e : Ending) (w' : World) : Prop := ∃ B, e = .returned (.slice (some ⟨B, 0, none⟩) 8 8) ∧ B < w'.heap.size ∧ (∀ j, j < 8 → w'.cell? ⟨B, j, none⟩ = some (.int .i64 (p.getD j 0))) ∧ Below w.heap.size w w'

set_option maxRecDepth 100000 in
set_option maxHeartbeats 4000000 in
theorem refPieces_any (hi lo : Int) (w : World) (h0 : 0 ≤ hi) (h1 : hi ≤ 18446744073709551615) (l0 : 0 ≤ lo) (l1 : lo ≤ 18446744073709551615) :
    Calls Tryz.prog 28 #[.int .u64 hi, .int .u64 lo] w (RetRow8 w (pcs hi lo)) := by
  obtain ⟨p, hp⟩ : ∃ p, pcs hi lo = p := ⟨_, rfl⟩
  rw [hp]
  unfold pcs at hp
  obtain ⟨a0, ha0⟩ : ∃ a, hi / 281474976710656 = a := ⟨_, rfl⟩
  have b0 : 0 ≤ a0 ∧ a0 ≤ 65535 := by omega
  have e0 : sh16 3 hi % 65536 = a0 := by simp only [sh16]; omega
  obtain ⟨a1, ha1⟩ : ∃ a, hi / 4294967296 % 65536 = a := ⟨_, rfl⟩
  have b1 : 0 ≤ a1 ∧ a1 ≤ 65535 := by omega
  have e1 : sh16 2 hi % 65536 = a1 := by simp only [sh16]; omega
  obtain ⟨a2, ha2⟩ : ∃ a, hi / 65536 % 65536 = a := ⟨_, rfl⟩
  have b2 : 0 ≤ a2 ∧ a2 ≤ 65535 := by omega
  have e2 : sh16 1 hi % 65536 = a2 := by simp only [sh16]; omega
  obtain ⟨a3, ha3⟩ : ∃ a, hi % 65536 = a := ⟨_, rfl⟩
  have b3 : 0 ≤ a3 ∧ a3 ≤ 65535 := by omega
  have e3 : sh16 0 hi % 65536 = a3 := by simp only [sh16]; omega
  obtain ⟨a4, ha4⟩ : ∃ a, lo / 281474976710656 = a := ⟨_, rfl⟩
  have b4 : 0 ≤ a4 ∧ a4 ≤ 65535 := by omega
  have e4 : sh16 3 lo % 65536 = a4 := by simp only [sh16]; omega
  obtain ⟨a5, ha5⟩ : ∃ a, lo / 4294967296 % 65536 = a := ⟨_, rfl⟩
  have b5 : 0 ≤ a5 ∧ a5 ≤ 65535 := by omega
  have e5 : sh16 2 lo % 65536 = a5 := by simp only [sh16]; omega
  obtain ⟨a6, ha6⟩ : ∃ a, lo / 65536 % 65536 = a := ⟨_, rfl⟩
  have b6 : 0 ≤ a6 ∧ a6 ≤ 65535 := by omega
  have e6 : sh16 1 lo % 65536 = a6 := by simp only [sh16]; omega
  obtain ⟨a7, ha7⟩ : ∃ a, lo % 65536 = a := ⟨_, rfl⟩
  have b7 : 0 ≤ a7 ∧ a7 ≤ 65535 := by omega
  have e7 : sh16 0 lo % 65536 = a7 := by simp only [sh16]; omega
  rw [ha0, ha1, ha2, ha3, ha4, ha5, ha6, ha7] at hp
  have HP := Lib.hid hp
  have E := Lib.hid (And.intro e0 (And.intro e1 (And.intro e2 (And.intro e3 (And.intro e4 (And.intro e5 (And.intro e6 e7)))))))
  clear hp ha0 ha1 ha2 ha3 ha4 ha5 ha6 ha7 e0 e1 e2 e3 e4 e5 e6 e7
  have HB := Lib.hid (And.intro b0 (And.intro b1 (And.intro b2 (And.intro b3 (And.intro b4 (And.intro b5 (And.intro b6 b7)))))))
  clear b0 b1 b2 b3 b4 b5 b6 b7
  have hmk := make8
  have HA0 : Hid ((w.alloc (.cells #[.int .i64 0, .int .i64 0, .int .i64 0, .int .i64 0, .int .i64 0, .int .i64 0, .int .i64 0, .int .i64 0] 3)).heap[w.heap.size]? = some (.cells (arrR a0 a1 a2 a3 a4 a5 a6 a7 0) 3 (0, 0))) := heap_alloc_new w _
  have hbA : Below w.heap.size w (w.alloc (.cells #[.int .i64 0, .int .i64 0, .int .i64 0, .int .i64 0, .int .i64 0, .int .i64 0, .int .i64 0, .int .i64 0] 3)) := (Below.refl _ w).alloc (Nat.le_refl _) _
  go_enter Tryz.func28, Tryz.ntmps28
  go_wp2
  clear hmk
  go_loopw [0, 1, 6] (fun h l i wr => ∃ k : Nat, k ≤ 4 ∧ i = .int .i64 (3 - (k : Int)) ∧ h = .int .u64 (sh16 k hi) ∧ l = .int .u64 (sh16 k lo) ∧ Hid (wr.heap[w.heap.size]? = some (.cells (arrR a0 a1 a2 a3 a4 a5 a6 a7 k) 3 (0, 0))) ∧ Below w.heap.size w wr) (fun _ _ i _ => (intOf i + 1).toNat)
  case atStart => exact ⟨0, by omega, rfl, rfl, rfl, HA0, hbA⟩
  case round =>
    obtain ⟨k, hk, rfl, rfl, rfl, HA, hbw⟩ := hrel
    have hx := sh16_bounds k hi h0 h1
    have hy := sh16_bounds k lo l0 l1
    by_cases hk4 : k < 4
    · rcases (show k = 0 ∨ k = 1 ∨ k = 2 ∨ k = 3 from by omega) with rfl | rfl | rfl | rfl
      · rw [show (3 : Int) - ((0 : Nat) : Int) = 3 from rfl]
        have hc1 : wr.cell? ⟨w.heap.size, 3, none⟩ = some (.int .i64 0) := by rw [cell_of_row wr _ 3 _ _ _ HA.out]; rfl
        have hc2 : wr.cell? ⟨w.heap.size, 7, none⟩ = some (.int .i64 0) := by rw [cell_of_row wr _ 7 _ _ _ HA.out]; rfl
        have hf1 : wr.frozen? ⟨w.heap.size, 3, none⟩ = false := row_frozen0 HA.out 3
        have hf2 : wr.frozen? ⟨w.heap.size, 7, none⟩ = false := row_frozen0 HA.out 7
        have HA2 : Hid (((wr.setCell ⟨w.heap.size, 3, none⟩ (.int .i64 a3)).setCell ⟨w.heap.size, 7, none⟩ (.int .i64 a7)).heap[w.heap.size]? = some (.cells (arrR a0 a1 a2 a3 a4 a5 a6 a7 1) 3 (0, 0))) := by
          show _ = _
          simp [World.setCell, Array.getElem?_modify, HA.out, arrR]
        have hbw2 : Below w.heap.size w ((wr.setCell ⟨w.heap.size, 3, none⟩ (.int .i64 a3)).setCell ⟨w.heap.size, 7, none⟩ (.int .i64 a7)) := (hbw.setCell (Nat.le_refl _) _).setCell (Nat.le_refl _) _
        have e0 := E.out.2.2.2.1
        have e4 := E.out.2.2.2.2.2.2.2
        have b0 := HB.out.2.2.2.1
        have b4 := HB.out.2.2.2.2.2.2.2
        have HS1 : Hid (sh16 1 hi = sh16 0 hi / 65536) := rfl
        have HS2 : Hid (sh16 1 lo = sh16 0 lo / 65536) := rfl
        generalize sh16 0 hi = x at *
        generalize sh16 0 lo = y at *
        obtain ⟨hx0, hx1⟩ := hx
        obtain ⟨hy0, hy1⟩ := hy
        obtain ⟨b00, b01⟩ := b0
        obtain ⟨b40, b41⟩ := b4
        go_wp2
        go_roundw
        case rel => exact ⟨1, by omega, (by first | rfl | go_num), (by rw [HS1.out]), (by rw [HS2.out]), HA2, hbw2⟩
        case measure => first | (simp [intOf]; done) | (simp [intOf]; omega)
      · rw [show (3 : Int) - ((1 : Nat) : Int) = 2 from rfl]
        have hc1 : wr.cell? ⟨w.heap.size, 2, none⟩ = some (.int .i64 0) := by rw [cell_of_row wr _ 2 _ _ _ HA.out]; rfl
        have hc2 : wr.cell? ⟨w.heap.size, 6, none⟩ = some (.int .i64 0) := by rw [cell_of_row wr _ 6 _ _ _ HA.out]; rfl
        have hf1 : wr.frozen? ⟨w.heap.size, 2, none⟩ = false := row_frozen0 HA.out 2
        have hf2 : wr.frozen? ⟨w.heap.size, 6, none⟩ = false := row_frozen0 HA.out 6
        have HA2 : Hid (((wr.setCell ⟨w.heap.size, 2, none⟩ (.int .i64 a2)).setCell ⟨w.heap.size, 6, none⟩ (.int .i64 a6)).heap[w.heap.size]? = some (.cells (arrR a0 a1 a2 a3 a4 a5 a6 a7 2) 3 (0, 0))) := by
          show _ = _
          simp [World.setCell, Array.getElem?_modify, HA.out, arrR]
        have hbw2 : Below w.heap.size w ((wr.setCell ⟨w.heap.size, 2, none⟩ (.int .i64 a2)).setCell ⟨w.heap.size, 6, none⟩ (.int .i64 a6)) := (hbw.setCell (Nat.le_refl _) _).setCell (Nat.le_refl _) _
        have e0 := E.out.2.2.1
        have e4 := E.out.2.2.2.2.2.2.1
        have b0 := HB.out.2.2.1
        have b4 := HB.out.2.2.2.2.2.2.1
        have HS1 : Hid (sh16 2 hi = sh16 1 hi / 65536) := rfl
        have HS2 : Hid (sh16 2 lo = sh16 1 lo / 65536) := rfl
        generalize sh16 1 hi = x at *
        generalize sh16 1 lo = y at *
        obtain ⟨hx0, hx1⟩ := hx
        obtain ⟨hy0, hy1⟩ := hy
        obtain ⟨b00, b01⟩ := b0
        obtain ⟨b40, b41⟩ := b4
        go_wp2
        go_roundw
        case rel => exact ⟨2, by omega, (by first | rfl | go_num), (by rw [HS1.out]), (by rw [HS2.out]), HA2, hbw2⟩
        case measure => first | (simp [intOf]; done) | (simp [intOf]; omega)
      · rw [show (3 : Int) - ((2 : Nat) : Int) = 1 from rfl]
        have hc1 : wr.cell? ⟨w.heap.size, 1, none⟩ = some (.int .i64 0) := by rw [cell_of_row wr _ 1 _ _ _ HA.out]; rfl
        have hc2 : wr.cell? ⟨w.heap.size, 5, none⟩ = some (.int .i64 0) := by rw [cell_of_row wr _ 5 _ _ _ HA.out]; rfl
        have hf1 : wr.frozen? ⟨w.heap.size, 1, none⟩ = false := row_frozen0 HA.out 1
        have hf2 : wr.frozen? ⟨w.heap.size, 5, none⟩ = false := row_frozen0 HA.out 5
        have HA2 : Hid (((wr.setCell ⟨w.heap.size, 1, none⟩ (.int .i64 a1)).setCell ⟨w.heap.size, 5, none⟩ (.int .i64 a5)).heap[w.heap.size]? = some (.cells (arrR a0 a1 a2 a3 a4 a5 a6 a7 3) 3 (0, 0))) := by
          show _ = _
          simp [World.setCell, Array.getElem?_modify, HA.out, arrR]
        have hbw2 : Below w.heap.size w ((wr.setCell ⟨w.heap.size, 1, none⟩ (.int .i64 a1)).setCell ⟨w.heap.size, 5, none⟩ (.int .i64 a5)) := (hbw.setCell (Nat.le_refl _) _).setCell (Nat.le_refl _) _
        have e0 := E.out.2.1
        have e4 := E.out.2.2.2.2.2.1
        have b0 := HB.out.2.1
        have b4 := HB.out.2.2.2.2.2.1
        have HS1 : Hid (sh16 3 hi = sh16 2 hi / 65536) := rfl
        have HS2 : Hid (sh16 3 lo = sh16 2 lo / 65536) := rfl
        generalize sh16 2 hi = x at *
        generalize sh16 2 lo = y at *
        obtain ⟨hx0, hx1⟩ := hx
        obtain ⟨hy0, hy1⟩ := hy
        obtain ⟨b00, b01⟩ := b0
        obtain ⟨b40, b41⟩ := b4
        go_wp2
        go_roundw
        case rel => exact ⟨3, by omega, (by first | rfl | go_num), (by rw [HS1.out]), (by rw [HS2.out]), HA2, hbw2⟩
        case measure => first | (simp [intOf]; done) | (simp [intOf]; omega)
      · rw [show (3 : Int) - ((3 : Nat) : Int) = 0 from rfl]
        have hc1 : wr.cell? ⟨w.heap.size, 0, none⟩ = some (.int .i64 0) := by rw [cell_of_row wr _ 0 _ _ _ HA.out]; rfl
        have hc2 : wr.cell? ⟨w.heap.size, 4, none⟩ = some (.int .i64 0) := by rw [cell_of_row wr _ 4 _ _ _ HA.out]; rfl
        have hf1 : wr.frozen? ⟨w.heap.size, 0, none⟩ = false := row_frozen0 HA.out 0
        have hf2 : wr.frozen? ⟨w.heap.size, 4, none⟩ = false := row_frozen0 HA.out 4
        have HA2 : Hid (((wr.setCell ⟨w.heap.size, 0, none⟩ (.int .i64 a0)).setCell ⟨w.heap.size, 4, none⟩ (.int .i64 a4)).heap[w.heap.size]? = some (.cells (arrR a0 a1 a2 a3 a4 a5 a6 a7 4) 3 (0, 0))) := by
          show _ = _
          simp [World.setCell, Array.getElem?_modify, HA.out, arrR]
        have hbw2 : Below w.heap.size w ((wr.setCell ⟨w.heap.size, 0, none⟩ (.int .i64 a0)).setCell ⟨w.heap.size, 4, none⟩ (.int .i64 a4)) := (hbw.setCell (Nat.le_refl _) _).setCell (Nat.le_refl _) _
        have e0 := E.out.1
        have e4 := E.out.2.2.2.2.1
        have b0 := HB.out.1
        have b4 := HB.out.2.2.2.2.1
        have HS1 : Hid (sh16 4 hi = sh16 3 hi / 65536) := rfl
        have HS2 : Hid (sh16 4 lo = sh16 3 lo / 65536) := rfl
        generalize sh16 3 hi = x at *
        generalize sh16 3 lo = y at *
        obtain ⟨hx0, hx1⟩ := hx
        obtain ⟨hy0, hy1⟩ := hy
        obtain ⟨b00, b01⟩ := b0
        obtain ⟨b40, b41⟩ := b4
        go_wp2
        go_roundw
        case rel => exact ⟨4, by omega, (by first | rfl | go_num), (by rw [HS1.out]), (by rw [HS2.out]), HA2, hbw2⟩
        case measure => first | (simp [intOf]; done) | (simp [intOf]; omega)
    · obtain rfl : k = 4 := by omega
      rw [show (3 : Int) - ((4 : Nat) : Int) = -1 from rfl]
      have HCF : Hid (∀ j, j < 8 → wr.cell? ⟨w.heap.size, j, none⟩ = some (.int .i64 (p.getD j 0))) := fun j hj => by
        rw [cell_of_row wr _ j _ _ _ HA.out, ← HP.out]
        rcases (show j = 0 ∨ j = 1 ∨ j = 2 ∨ j = 3 ∨ j = 4 ∨ j = 5 ∨ j = 6 ∨ j = 7 from by omega) with rfl | rfl | rfl | rfl | rfl | rfl | rfl | rfl <;> rfl
      have hlt : w.heap.size < wr.heap.size := (Array.getElem?_eq_some_iff.1 HA.out).1
      go_wp2
      go_ret
      exact ⟨w.heap.size, rfl, hlt, HCF.out, hbw⟩

theorem digs16' : ∀ d : Fin 16, (ByteArray.mk #[48, 49, 50, 51, 52, 53, 54, 55, 56, 57, 97, 98, 99, 100, 101, 102]).extract d.val (d.val + 1) = ⟨#[dgt d.val]⟩ := by decide +kernel
theorem slice16 (n : Nat) (h : n < 16) (W : World) : (Instr.slice 9 (.string ⟨#[48, 49, 50, 51, 52, 53, 54, 55, 56, 57, 97, 98, 99, 100, 101, 102]⟩) (some (.int .i64 (n : Int))) (some (.int .i64 ((n : Int) + 1))) none).run Tryz.prog W = .ok (.string ⟨#[dgt n]⟩) W := by
  rw [slice_str W 9 _ (n : Int) ((n : Int) + 1) n (n + 1) rfl (by omega) (by omega) (by show n + 1 ≤ 16; omega) Tryz.underlying9, digs16' ⟨n, h⟩]

set_option maxRecDepth 100000 in
set_option maxHeartbeats 1000000 in
theorem refHex_any (n : Nat) : ∀ (w : World), n < 1048576 → Calls Tryz.prog 53 #[.int .i64 (n : Int)] w fun e w' => e = .returned (.string ⟨(hexD n).toArray⟩) ∧ w = w' := by
  induction n using Nat.strongRecOn with
  | ind n ih =>
    intro w hn
    by_cases h16 : n < 16
    · have HD := Lib.hid (hexD_lo n h16)
      have hsl := slice16 n h16
      clear ih
      go_enter Tryz.func53, Tryz.ntmps53
      go_wp2
      go_ret
      exact ⟨congrArg (fun l : List UInt8 => Ending.returned (.string ⟨l.toArray⟩)) HD.out.symm, rfl⟩
    · have HD := Lib.hid (hexD_hi n (by omega))
      have h1 := ih (n / 16) (by omega) w (by omega)
      have h2 := ih (n % 16) (by omega) w (by omega)
      rw [show ((n / 16 : Nat) : Int) = (n : Int) / 16 from by omega] at h1
      rw [show ((n % 16 : Nat) : Int) = (n : Int) % 16 from by omega] at h2
      have H1 := Lib.hid h1
      have H2 := Lib.hid h2
      have HD2 := Lib.hid (hexD_lo (n % 16) (by omega))
      have hl1 : (hexD (n / 16)).length ≤ 4 := hexD_len _ (by omega)
      clear ih h1 h2
      go_enter Tryz.func53, Tryz.ntmps53
      go_wp2_with fail
      refine H1.out.mono ?_
      rintro e w' ⟨rfl, rfl⟩
      go_wp2_with fail
      refine H2.out.mono ?_
      rw [HD2.out]
      rintro e w' ⟨rfl, rfl⟩
      go_wp2
      go_ret
      refine ⟨congrArg (fun b : ByteArray => Ending.returned (.string b)) ?_, rfl⟩
      rw [HD.out]
      exact cat2 _ _

theorem joinL_snoc (ps : List (List UInt8)) (p sep : List UInt8) : Lib.join (ps ++ [p]) sep = if ps = [] then p else Lib.join ps sep ++ sep ++ p := by
  induction ps with
  | nil => simp [Lib.join]
  | cons q r ih =>
    rw [if_neg (by simp)]
    cases r with
    | nil => simp [Lib.join, List.intercalate]
    | cons s r =>
      have e : ∀ x y : List UInt8, ∀ z : List (List UInt8), Lib.join (x :: y :: z) sep = x ++ sep ++ Lib.join (y :: z) sep := fun x y z => by simp [Lib.join, List.intercalate]
      rw [if_neg (by simp)] at ih
      show Lib.join (q :: s :: (r ++ [p])) sep = _
      rw [e, e, show s :: (r ++ [p]) = (s :: r) ++ [p] from rfl, ih]
      simp
theorem joinH_one (l : List Int) (h : 0 < l.length) : joinH (l.take 1) = hexI (l.getD 0 0) := by
  cases l with
  | nil => simp at h
  | cons x r => simp [joinH, Lib.join]
theorem joinH_next (l : List Int) (k : Nat) (h : k < l.length) (hk : 0 < k) : joinH (l.take (k + 1)) = joinH (l.take k) ++ [58] ++ hexI (l.getD k 0) := by
  unfold joinH
  rw [List.take_succ_eq_append_getElem h, List.map_append, List.map_singleton, joinL_snoc, if_neg (by
    intro e
    have := congrArg List.length e
    simp at this
    rcases this with h2 | h2
    · omega
    · subst h2; simp at h), List.getD, List.getElem?_eq_getElem h]
  rfl

set_option maxRecDepth 100000 in
set_option maxHeartbeats 2000000 in
theorem refJoin_any (ao : Option Addr) (c : Nat) (l : List Int) (w : World) (hsl : SliceIs w ao .i64 l) (hin : In16 l) (hlen : l.length ≤ 1000) :
    Calls Tryz.prog 44 #[.slice ao l.length c] w fun e w' => e = .returned (.string ⟨(joinH l).toArray⟩) ∧ w = w' := by
  have HSL := Lib.hid hsl
  have HIN := Lib.hid hin
  clear hsl hin
  go_enter Tryz.func44, Tryz.ntmps44
  go_wp2
  go_loop [3, 4] (fun s i => ∃ (k : Nat) (T : List UInt8), k ≤ l.length ∧ i = .int .i64 k ∧ s = .string ⟨T.toArray⟩ ∧ T.length ≤ 5 * k ∧ Hid (T = joinH (l.take k))) (fun _ i => l.length - (intOf i).toNat)
  case atStart => exact ⟨0, [], by omega, rfl, rfl, by simp, rfl⟩
  case round =>
    obtain ⟨k, T, hk, rfl, rfl, hTl, HT⟩ := hrel
    by_cases hkl : k < l.length
    · obtain ⟨g, o, rfl, hc⟩ := HSL.out k hkl
      have hxb := HIN.out.getD k
      have hxl := hexI_len hxb
      obtain ⟨x, hx⟩ : ∃ x, l.getD k 0 = x := ⟨_, rfl⟩
      have HXX := Lib.hid hx
      rw [hx] at hc hxb hxl
      obtain ⟨u, rfl⟩ : ∃ u : Nat, x = (u : Int) := ⟨x.toNat, by omega⟩
      have hxl2 : (hexD u).length ≤ 4 := hxl
      clear hx hxl
      by_cases hk0 : k = 0
      · subst hk0
        have HN : Hid (T ++ hexD u = joinH (l.take (0 + 1))) := by
          show T ++ hexD u = joinH (l.take (0 + 1))
          rw [joinH_one l hkl, HXX.out, HT.out]; rfl
        rw [show ((0 : Nat) : Int) = 0 from rfl]
        rw [Nat.add_zero] at hc
        go_wp2_with (go_at_call 53; refine (refHex_any u _ (by omega)).mono ?_; rintro e w' ⟨rfl, rfl⟩)
        go_round
        case rel => exact ⟨1, T ++ hexD u, by omega, (by first | rfl | go_num), congrArg Value.string (cat2 _ _), (by rw [List.length_append]; omega), HN⟩
        case measure => first | (simp [intOf]; done) | (simp [intOf]; omega)
      · have HN : Hid (T ++ [58] ++ hexD u = joinH (l.take (k + 1))) := by
          show T ++ [58] ++ hexD u = joinH (l.take (k + 1))
          rw [joinH_next l k hkl (by omega), HXX.out, HT.out]; rfl
        have hkp : decide ((0 : Int) < (k : Int)) = true := decide_eq_true (by omega)
        have hkp2 : 0 < k := by omega
        clear hk0
        go_wp2_with (go_at_call 53; refine (refHex_any u _ (by omega)).mono ?_; rintro e w' ⟨rfl, rfl⟩)
        go_round
        case rel => exact ⟨k + 1, T ++ [58] ++ hexD u, by omega, by go_num, congrArg Value.string (by rw [show (ByteArray.mk #[58]) = ByteArray.mk [58].toArray from rfl, cat2, cat2]), (by rw [List.length_append, List.length_append]; simp; omega), HN⟩
        case measure => simp [intOf]; omega
    · have HF : Hid (T = joinH l) := by
        show T = joinH l
        rw [HT.out, List.take_of_length_le (by omega)]
      go_wp2
      go_ret
      exact ⟨congrArg (fun l : List UInt8 => Ending.returned (.string ⟨l.toArray⟩)) HF.out, rfl⟩

/-- are all from a place on, so many, 0? -/
def zrB (p : List Int) (f n : Nat) : Bool := ((p.drop f).take n).all fun x => decide (x = 0)
theorem zr_no (p : List Int) (f n k : Nat) (hk : k < n) (hl : f + n ≤ p.length) (h : p.getD (f + k) 0 ≠ 0) : zrB p f n = false := by
  unfold zrB
  rw [List.all_eq_false]
  refine ⟨p.getD (f + k) 0, ?_, by simpa using h⟩
  rw [List.getD, List.getElem?_eq_getElem (by omega)]
  show p[f + k] ∈ _
  refine List.mem_iff_getElem.2 ⟨k, by simp; omega, by simp⟩
theorem zr_yes (p : List Int) (f n : Nat) (hl : f + n ≤ p.length) (h : ∀ k, k < n → p.getD (f + k) 0 = 0) : zrB p f n = true := by
  unfold zrB
  rw [List.all_eq_true]
  intro x hx
  obtain ⟨k, hk, rfl⟩ := List.mem_iff_getElem.1 hx
  have hk2 : k < n := by simp at hk; omega
  have := h k hk2
  rw [List.getD, List.getElem?_eq_getElem (by omega)] at this
  simpa using this

set_option maxRecDepth 100000 in
set_option maxHeartbeats 2000000 in
theorem refZeros_any (B c f n : Nat) (p : List Int) (w : World) (hc : ∀ j, j < 8 → w.cell? ⟨B, j, none⟩ = some (.int .i64 (p.getD j 0))) (hp : p.length = 8) (hfn : f + n ≤ 8) :
    Calls Tryz.prog 43 #[.slice (some ⟨B, 0, none⟩) 8 c, .int .i64 (f : Int), .int .i64 (n : Int)] w fun e w' => e = .returned (.bool (zrB p f n)) ∧ w = w' := by
  have HC := Lib.hid hc
  have HL := Lib.hid hp
  clear hc hp
  go_enter Tryz.func43, Tryz.ntmps43
  go_wp2
  go_loop [7] (fun i => ∃ k : Nat, k ≤ n ∧ i = .int .i64 k ∧ Hid (∀ j, j < k → p.getD (f + j) 0 = 0)) (fun i => n - (intOf i).toNat)
  case atStart => exact ⟨0, by omega, rfl, fun j hj => by omega⟩
  case round =>
    obtain ⟨k, hk, rfl, H⟩ := hrel
    by_cases hkn : k < n
    · obtain ⟨j, hj⟩ : ∃ j, f + k = j := ⟨_, rfl⟩
      have hj8 : j < 8 := by omega
      have hcj := HC.out j hj8
      have hidx : (f : Int) + (k : Int) = (j : Int) := by omega
      obtain ⟨x, hx⟩ : ∃ x, p.getD j 0 = x := ⟨_, rfl⟩
      rw [hx] at hcj
      by_cases hx0 : x = 0
      · subst hx0
        have HN : Hid (∀ i, i < k + 1 → p.getD (f + i) 0 = 0) := fun i hi => by
          by_cases hik : i = k
          · subst hik; rw [hj]; exact hx
          · exact H.out i (by omega)
        have hne : ((0 : Int) != 0) = false := by decide
        clear hx hj
        go_wp2
        go_round
        case rel => exact ⟨k + 1, by omega, by go_num, HN⟩
        case measure => simp [intOf]; omega
      · have HF := Lib.hid (zr_no p f n k hkn (by rw [HL.out]; exact hfn) (by rw [hj, hx]; exact hx0))
        have hne : (x != 0) = true := by rw [bne_iff_ne]; exact hx0
        clear hx hj hx0
        go_wp2
        go_ret
        exact ⟨ret_bool HF.out.symm, rfl⟩
    · have HF := Lib.hid (zr_yes p f n (by rw [HL.out]; exact hfn) (fun j hj => H.out j (by omega)))
      go_wp2
      go_ret
      exact ⟨ret_bool HF.out.symm, rfl⟩
end Go.Proofs.YtgmfgcpfpopboaaGreatDoor
