/-
  The law SixOf: its Go text returns true at every slice of pieces, where the library's tables read as they are laid; nothing that lay in memory before is changed.
-/
import Derived.Test.YtgmfgcpfpopboaaDoorSixN
namespace Go.Proofs.YtgmfgcpfpopboaaDoor
open Go.RowKit


theorem bounds_u16 {n : Int} (h : (Lit.int .u16 n).wf = true) : 0 ≤ n ∧ n ≤ 65535 := by
  simp [Lit.wf, IntKind.min, IntKind.max, IntKind.bits, IntKind.signed] at h
  omega
theorem IsRow.in16 {w : World} {a : Option Addr} {len cap : Nat} {zs : List Int} (h : IsRow .u16 w a len cap zs) : In16 (zs.take len) := by
  rcases h with ⟨_, rfl, _, rfl⟩ | ⟨x, _, _, _, _, _, h4⟩
  · intro x hx; simp at hx
  · intro y hy
    exact bounds_u16 (h4 y (List.mem_of_mem_take hy))
theorem pcs_of {l : List Int} (h : In16 l) (j : Nat) (hj : j < 8) : (pcs (hi4 l) (lo4 l)).getD j 0 = l.getD j 0 := by
  have h0 := h.getD 0
  have h1 := h.getD 1
  have h2 := h.getD 2
  have h3 := h.getD 3
  have h4 := h.getD 4
  have h5 := h.getD 5
  have h6 := h.getD 6
  have h7 := h.getD 7
  unfold pcs hi4 lo4
  rcases (show j = 0 ∨ j = 1 ∨ j = 2 ∨ j = 3 ∨ j = 4 ∨ j = 5 ∨ j = 6 ∨ j = 7 from by omega) with rfl | rfl | rfl | rfl | rfl | rfl | rfl | rfl <;> simp only [List.getD_cons_zero, List.getD_cons_succ] <;> omega

set_option maxRecDepth 100000 in
set_option maxHeartbeats 4000000 in
theorem sixOf_walk (a0 : Option Addr) (len0 cap0 : Nat) (z0 : List Int) (w : World) (w0 : IsRow .u16 w a0 len0 cap0 z0) (hbru : BruTab w) (hmax : MaxVar w) :
    Calls Tryd.prog 5 #[.slice a0 len0 cap0] w fun e w' => e = .returned (.bool true) ∧ Below w.heap.size w w' := by
  have HX := Lib.hid hmax
  have HT := Lib.hid hbru
  clear hbru hmax
  have hr := w0.rowR
  have hin := w0.in16
  have hle := w0.len_eq
  generalize z0.take len0 = l at *
  have hlm : len0 ≤ maxLen := by
    rcases w0 with ⟨_, rfl, _, _⟩ | ⟨_, _, h1, h2, _⟩
    · exact Nat.zero_le _
    · omega
  unfold maxLen at hlm
  have HLE := Lib.hid hle
  have HR := Lib.hid hr
  have HIN := Lib.hid hin
  clear hle hr w0 hin
  by_cases hlen : len0 ≤ 40
  · have hd : decide ((40 : Int) < (len0 : Int)) = false := decide_eq_false (by omega)
    have hhb := hi4_bounds HIN.out
    have hlb := lo4_bounds HIN.out
    have HPC := Lib.hid (pcs_of HIN.out)
    go_enter Tryd.func5, Tryd.ntmps5
    go_wp2_with fail
    refine (awake05_any _ HT.out HX.out).mono ?_
    rintro e x1 ⟨rfl, hb1⟩
    go_wp2_with fail
    refine (sixOf_any _ l _ (HR.out.below hb1) HIN.out (by rw [HLE.out]; omega)).mono ?_
    rintro e x2 ⟨rfl, hb2⟩
    have hc2 : Below w.heap.size w x2 := hb1.trans (hb2.mono hb1.size)
    clear hb1 hb2
    generalize hi4 l = H at *
    generalize lo4 l = L at *
    go_wp2_with fail
    refine (pieces6_any H L _ hhb.1 hhb.2 hlb.1 hlb.2).mono ?_
    rintro e x3 ⟨rfl, hb3⟩
    have hc3 : Below w.heap.size w x3 := hc2.trans (hb3.mono hc2.size)
    clear hb3 hc2
    unfold pcs at HPC
    obtain ⟨a0, ha0⟩ : ∃ a, H / 281474976710656 = a := ⟨_, rfl⟩
    obtain ⟨a1, ha1⟩ : ∃ a, H / 4294967296 % 65536 = a := ⟨_, rfl⟩
    obtain ⟨a2, ha2⟩ : ∃ a, H / 65536 % 65536 = a := ⟨_, rfl⟩
    obtain ⟨a3, ha3⟩ : ∃ a, H % 65536 = a := ⟨_, rfl⟩
    obtain ⟨a4, ha4⟩ : ∃ a, L / 281474976710656 = a := ⟨_, rfl⟩
    obtain ⟨a5, ha5⟩ : ∃ a, L / 4294967296 % 65536 = a := ⟨_, rfl⟩
    obtain ⟨a6, ha6⟩ : ∃ a, L / 65536 % 65536 = a := ⟨_, rfl⟩
    obtain ⟨a7, ha7⟩ : ∃ a, L % 65536 = a := ⟨_, rfl⟩
    rw [ha0, ha1, ha2, ha3, ha4, ha5, ha6, ha7] at HPC ⊢
    clear ha0 ha1 ha2 ha3 ha4 ha5 ha6 ha7
    have hB : (x3.alloc (.cells #[.int .u16 a0, .int .u16 a1, .int .u16 a2, .int .u16 a3, .int .u16 a4, .int .u16 a5, .int .u16 a6, .int .u16 a7] 32)).heap[x3.heap.size]? = some (.cells #[.int .u16 a0, .int .u16 a1, .int .u16 a2, .int .u16 a3, .int .u16 a4, .int .u16 a5, .int .u16 a6, .int .u16 a7] 32 (0, 0)) := heap_alloc_new x3 _
    have HCL : Hid (∀ j, j < 8 → (x3.alloc (.cells #[.int .u16 a0, .int .u16 a1, .int .u16 a2, .int .u16 a3, .int .u16 a4, .int .u16 a5, .int .u16 a6, .int .u16 a7] 32)).cell? ⟨x3.heap.size, j, none⟩ = some (.int .u16 (l.getD j 0))) := fun j hj => by
      rw [cell_of_row _ _ j _ _ _ hB, ← HPC.out j hj]
      rcases (show j = 0 ∨ j = 1 ∨ j = 2 ∨ j = 3 ∨ j = 4 ∨ j = 5 ∨ j = 6 ∨ j = 7 from by omega) with rfl | rfl | rfl | rfl | rfl | rfl | rfl | rfl <;> rfl
    have hc4 : Below w.heap.size w (x3.alloc (.cells #[.int .u16 a0, .int .u16 a1, .int .u16 a2, .int .u16 a3, .int .u16 a4, .int .u16 a5, .int .u16 a6, .int .u16 a7] 32)) := hc3.alloc hc3.size _
    have HR4 := Lib.hid (HR.out.below hc4)
    obtain ⟨ao, c, hv, hcs⟩ := HR4.out
    rw [List.length_map, HLE.out] at hv
    cases hv
    have HCS := Lib.hid hcs
    clear hcs hB hc3
    go_wp2
    generalize x3.alloc (.cells #[.int .u16 a0, .int .u16 a1, .int .u16 a2, .int .u16 a3, .int .u16 a4, .int .u16 a5, .int .u16 a6, .int .u16 a7] 32) = x4 at *
    generalize x3.heap.size = B at *
    go_loopw [13] (fun i wr => ∃ k m : Nat, k ≤ 8 ∧ i = .int .i64 k ∧ wr = x4.drewN m) (fun i _ => 8 - (intOf i).toNat)
    case atStart => exact ⟨0, 0, by omega, rfl, rfl⟩
    case round =>
      obtain ⟨k, m, hk, rfl, rfl⟩ := hrel
      by_cases hk8 : k < 8
      · have hck := HCL.out k hk8
        obtain ⟨x, hx⟩ : ∃ x, l.getD k 0 = x := ⟨_, rfl⟩
        have HXX := Lib.hid hx
        rw [hx] at hck
        clear hx
        by_cases hkl : k < len0
        · obtain ⟨ad, rfl, hcl⟩ := HCS.out k (.int .u16 x) (by
            rw [List.getElem?_map, List.getElem?_eq_getElem (by rw [HLE.out]; exact hkl)]
            have := HXX.out
            rw [List.getD, List.getElem?_eq_getElem (by rw [HLE.out]; exact hkl)] at this
            rw [← this]; rfl)
          have d1 : decide ((k : Int) < (len0 : Int)) = true := decide_eq_true (by omega)
          have d2 : decide (k < len0) = true := decide_eq_true hkl
          have d3 : decide ((len0 : Int) ≤ (k : Int)) = false := decide_eq_false (by omega)
          have d4 : decide (len0 ≤ k) = false := decide_eq_false (by omega)
          have hne : (x != x) = false := by simp
          go_wp2
          go_quiet (fail)
          go_wp2
          go_roundw
          case rel => exact ⟨k + 1, _, by omega, by go_num, rfl⟩
          case measure => simp [intOf]; omega
        · have hx0 : x = 0 := by
            rw [← HXX.out, List.getD, List.getElem?_eq_none (by rw [HLE.out]; omega)]; rfl
          subst hx0
          have d1 : decide ((k : Int) < (len0 : Int)) = false := decide_eq_false (by omega)
          have d2 : decide (k < len0) = false := decide_eq_false hkl
          have d3 : decide ((len0 : Int) ≤ (k : Int)) = true := decide_eq_true (by omega)
          have d4 : decide (len0 ≤ k) = true := decide_eq_true (by omega)
          have hne : ((0 : Int) != 0) = false := by decide
          go_wp2
          go_quiet (fail)
          go_wp2
          go_roundw
          case rel => exact ⟨k + 1, _, by omega, by go_num, rfl⟩
          case measure => simp [intOf]; omega
      · obtain rfl : k = 8 := by omega
        go_wp2
        go_ret
        exact ⟨rfl, below_drewN hc4 m⟩
  · have hd : decide ((40 : Int) < (len0 : Int)) = true := decide_eq_true (by omega)
    go_enter Tryd.func5, Tryd.ntmps5
    go_wp2_with fail
    refine (awake05_any _ HT.out HX.out).mono ?_
    rintro e x1 ⟨rfl, hb1⟩
    go_wp2
    go_ret
    exact ⟨rfl, hb1⟩
end Go.Proofs.YtgmfgcpfpopboaaDoor
