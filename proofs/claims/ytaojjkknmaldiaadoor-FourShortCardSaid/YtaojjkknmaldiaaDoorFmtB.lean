/-
  Numbers printed to the base 10: internal/strconv.FormatUint.
-/
import Derived.Test.YtaojjkknmaldiaaDoorFmtA
import Derived.Test.YtaojjkknmaldiaaDoorFourJ
namespace Go.Proofs.YtaojjkknmaldiaaDoor
open Go.RowKit Go.Sort Go.Lib


theorem holds_zero0 (w : World) (T : TypeId) (nd : Nat) (hs : nd ≤ 24) : Holds (fun (b : UInt8) => Value.int .u8 (b.toNat : Int)) (w.alloc (.cells zeros24 T)) w.heap.size 0 (Array.replicate nd (0 : UInt8)) := fun j hj => by
  have hj' : j < nd := by simpa using hj
  refine ⟨?_, World.frozen?_alloc_new _ _ _ _⟩
  rw [World.cell?_alloc_new, zeros24_at _ (by omega), getElem!_pos _ j hj]
  simp
theorem fin_pos0 (w : World) (o : Obj) (dk : Array UInt8) (k : Nat) : ∃ os, (putRow (fun (b : UInt8) => Value.int .u8 (b.toNat : Int)) (w.alloc o) w.heap.size 0 dk).drewN k = grow (w.drewN k) os := by
  rw [alloc_eq_grow]
  obtain ⟨os', _, e⟩ := putRow_grow_new (fun (b : UInt8) => Value.int .u8 (b.toNat : Int)) w #[o] w.heap.size 0 dk (Nat.le_refl _)
  exact ⟨os', by rw [e]; rfl⟩

set_option maxHeartbeats 6400000 in
set_option maxRecDepth 100000 in
theorem fmtU10_in (u : Nat) (hu64 : u < 18446744073709551616) (w : World) (htab : PowTab w) :
    Calls Tryd.prog 21 #[.int .u64 u, .int .i64 10] w fun e w' => e = .returned (.string ⟨(decDigits u).toArray⟩) ∧ Below w.heap.size w w' := by
  by_cases hs : u < 100
  · go_enter Tryd.func21, Tryd.ntmps21
    go_wp2_with (go_at_call 30; refine (Tryd.internal_strconv_small u hs _).mono ?_; rintro e w' ⟨rfl, rfl⟩)
    go_ret
    exact ⟨rfl, Below.refl _ _⟩
  · have hu1 : 1 ≤ u := by omega
    have hnd20 : nDigits u ≤ 20 := by have := numDigits_eq u hu1 hu64; split at this <;> omega
    have hal : Tryd.prog.arrayLen 53 = 24 := by simp [Program.arrayLen, Tryd.underlying53]
    have hsl1 : ∀ W, (Instr.sliceAt 53 (.pointer (some ⟨w.heap.size, 0, none⟩)) none (some (.int .i64 (nDigits u : Int))) none).run Tryd.prog W = .ok (.slice (some ⟨w.heap.size, 0, none⟩) (nDigits u) 24) W := fun W => by
      rw [run_sliceAt_array_h W 53 ⟨w.heap.size, 0, none⟩ (by simp [Program.arrayLen, Program.elem, Tryd.underlying53]) .i64 (nDigits u : Int) (by omega) (by rw [hal]; omega)]
      go_simp
    have hH0 := holds_zero0 w 53 (nDigits u) (by omega)
    have hfmt := Tryd.internal_strconv_formatBase10 w.heap.size 0 24 u (Array.replicate (nDigits u) 0) (w.alloc (.cells zeros24 53)) hH0 (by rw [Array.size_replicate]; exact lt_pow_nDigits u) hu64 (by rw [Array.size_replicate]; omega)
    rw [Array.size_replicate] at hfmt
    have HH0 := Lib.hid hH0
    have HT := Lib.hid htab
    have HF := Lib.hid hfmt
    clear hH0 hal htab hfmt
    have hge : ¬ (u : Int) < 100 := by omega
    go_enter Tryd.func21, Tryd.ntmps21
    go_wp2_with (first
      | (go_at_call 31; refine (Tryd.internal_strconv_numDigits u hu1 hu64 _ (tabIs_alloc HT.out _)).mono ?_; rintro e w' ⟨rfl, rfl⟩))
    go_at_call 32
    refine HF.out.mono ?_
    rintro e w' ⟨rfl, k, v', dk, rfl, hF⟩
    have hcv : (convert 56 9 (.slice (some ⟨w.heap.size, 0, none⟩) (nDigits u) 24)).run Tryd.prog ((putRow (fun (b : UInt8) => Value.int .u8 (b.toNat : Int)) (w.alloc (.cells zeros24 53)) w.heap.size 0 dk).drewN k) = .ok (.string ⟨(decDigits u).toArray⟩) ((putRow (fun (b : UInt8) => Value.int .u8 (b.toNat : Int)) (w.alloc (.cells zeros24 53)) w.heap.size 0 dk).drewN k) := by
      have h := run_convert_bytes_back (P := Tryd.prog) ((putRow (fun (b : UInt8) => Value.int .u8 (b.toNat : Int)) (w.alloc (.cells zeros24 53)) w.heap.size 0 dk).drewN k) 56 9 5 ⟨w.heap.size, 0, none⟩ 24 (decDigits u) Tryd.underlying56 Tryd.underlying5 Tryd.underlying9 (fun j hj => by
        rw [row_is_numeral hF j hj, add_plain, World.cell?_drewN]
        exact cell?_putRow (fun (b : UInt8) => Value.int .u8 (b.toNat : Int)) _ w.heap.size 0 _ dk HH0.out (by rw [hF.size, Array.size_replicate]) j (by rw [hF.size]; rw [decDigits_length] at hj; exact hj))
      rw [decDigits_length] at h
      exact h
    have HFF := Lib.hid hF
    clear hF
    go_wp2
    go_ret
    obtain ⟨os, eo⟩ := fin_pos0 w (.cells zeros24 53) dk k
    refine ⟨rfl, ?_⟩
    rw [eo]
    exact below_grow _ _ (Nat.le_refl _) _ _

theorem isNum_dec (u : Nat) (hu64 : u < 18446744073709551616) : IsNum 10 (u : Int) (decDigits u) ∧ NoNought (decDigits u) := by
  have key : ∀ n u : Nat, u < n → (decDigits u ≠ [] ∧ digsB 10 (decDigits u) = true ∧ valP 10 (decDigits u) = (u : Int) ∧ NoNought (decDigits u) ∧ (0 < u → ((decDigits u).getD 0 0).toNat ≠ 48)) := by
    intro n
    induction n with
    | zero => intro u h; omega
    | succ n ih =>
      intro u hu
      by_cases h10 : u < 10
      · rw [decDigits, dif_pos h10]
        have hd : ∀ i : Fin 10, digC 10 (UInt8.ofNat (48 + i.val)) = true ∧ valP 10 [UInt8.ofNat (48 + i.val)] = (i.val : Int) ∧ (0 < i.val → (UInt8.ofNat (48 + i.val)).toNat ≠ 48) := by decide +kernel
        have hd' := hd ⟨u, h10⟩
        refine ⟨by simp, by simpa [digsB] using hd'.1, hd'.2.1, fun h => by simp at h, fun h => by simpa using hd'.2.2 h⟩
      · rw [decDigits, dif_neg h10]
        obtain ⟨h1, h2, h3, h4, h5⟩ := ih (u / 10) (by omega)
        have hd : ∀ i : Fin 10, digC 10 (UInt8.ofNat (48 + i.val)) = true ∧ valZ ((UInt8.ofNat (48 + i.val)).toNat : Int) = (i.val : Int) := by decide +kernel
        have hd' := hd ⟨u % 10, by omega⟩
        have hg : (decDigits (u / 10) ++ [UInt8.ofNat (48 + u % 10)]).getD 0 0 = (decDigits (u / 10)).getD 0 0 := by
          cases hl : decDigits (u / 10) with
          | nil => exact absurd hl h1
          | cons a r => rfl
        have h6 := h5 (by omega)
        refine ⟨by simp, ?_, ?_, fun h => ?_, fun _ => by rw [hg]; exact h6⟩
        · unfold digsB at *
          rw [List.all_append, h2]
          simpa using hd'.1
        · unfold valP at *
          rw [List.foldl_append, h3]
          simp only [List.foldl_cons, List.foldl_nil]
          have := hd'.2
          simp only at this
          rw [this]
          omega
        · rw [hg] at h
          exact h6 h.2
  obtain ⟨h1, h2, h3, h4, _⟩ := key (u + 1) u (by omega)
  refine ⟨⟨h1, h2, h3, ?_⟩, h4⟩
  rw [decDigits_length]
  by_cases h0 : u = 0
  · subst h0; rw [nDigits_small (by omega)]; omega
  · have := numDigits_eq u (by omega) hu64
    split at this <;> omega
end Go.Proofs.YtaojjkknmaldiaaDoor
