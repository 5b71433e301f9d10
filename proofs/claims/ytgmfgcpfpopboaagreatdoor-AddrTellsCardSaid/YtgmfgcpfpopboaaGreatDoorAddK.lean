/-
  Layer 6: the reference's Inner.
-/
import Derived.Test.YtgmfgcpfpopboaaGreatDoorAddJ
import Derived.Deep.DeepCutAuto
namespace Go.Proofs.YtgmfgcpfpopboaaGreatDoor
open Go.RowKit


theorem Tryz.infoU32 : (Tryz.prog.info? 30).map (fun i => (i.zero, i.size, i.bytes)) = some (some (.int .u32 0), 1, 4) := by kernel_rfl
def RetU32s (w : World) (l : List Int) (e : Ending) (w' : World) : Prop := ∃ v, e = .returned v ∧ Nums 30 .u32 w.heap.size w' v l ∧ Below w.heap.size w w'
theorem lit6_row (x : World) (a0 a1 a2 a3 a4 a5 : Int) : RowR (x.alloc (.cells #[.int .i64 a0, .int .i64 a1, .int .i64 a2, .int .i64 a3, .int .i64 a4, .int .i64 a5] 3)) (.slice (some ⟨x.heap.size, 0, none⟩) 6 6) ([a0, a1, a2, a3, a4, a5].map (Value.int .i64)) := by
  refine ⟨some ⟨x.heap.size, 0, none⟩, 6, rfl, fun j u hj => ⟨_, rfl, ?_⟩⟩
  rw [Lib.add_plain, Nat.zero_add, cell_of_row _ _ j _ _ _ (heap_alloc_new x _)]
  simpa using hj
theorem row8_row {W : World} {B : Nat} {p : List Int} (hp : p.length = 8) (h : ∀ j, j < 8 → W.cell? ⟨B, j, none⟩ = some (.int .i64 (p.getD j 0))) : RowR W (.slice (some ⟨B, 0, none⟩) 8 8) (p.map (Value.int .i64)) := by
  refine ⟨some ⟨B, 0, none⟩, 8, by rw [List.length_map, hp], fun j u hj => ⟨_, rfl, ?_⟩⟩
  have hlt : j < 8 := by
    have := (List.getElem?_eq_some_iff.1 hj).1
    rw [List.length_map, hp] at this
    exact this
  rw [Lib.add_plain, Nat.zero_add, h j hlt]
  rw [List.getElem?_map] at hj
  rw [List.getD_eq_getElem?_getD]
  cases e : p[j]? with
  | none => rw [e] at hj; cases hj
  | some x => rw [e] at hj; exact hj

theorem pcs_len (hi lo : Int) : (pcs hi lo).length = 8 := rfl
def pa (c : Bool) (l : List Int) : List Int := if c then l else []
theorem pa_len (c : Bool) (l : List Int) : (pa c l).length ≤ l.length := by cases c <;> simp [pa]
theorem pa_t (l : List Int) : pa true l = l := rfl
theorem pa_f (l : List Int) : pa false l = [] := rfl
theorem ref_inner (hi lo : Int) (h0 : 0 ≤ hi) (h1 : hi ≤ 18446744073709551615) (l0 : 0 ≤ lo) (l1 : lo ≤ 18446744073709551615) :
    innerZ hi lo = pa (decide ((pcs hi lo).take 6 = [0, 0, 0, 0, 0, 65535])) [lo % 4294967296] ++ pa (decide ((pcs hi lo).take 6 = [0, 0, 0, 0, 0, 0] ∧ 1 < lo % 4294967296)) [lo % 4294967296] ++ pa (decide ((pcs hi lo).take 6 = [100, 65435, 0, 0, 0, 0])) [lo % 4294967296]
      ++ pa (decide (hi / 281474976710656 = 8194)) [hi / 65536 % 4294967296] ++ pa (decide (hi / 281474976710656 = 8193 ∧ hi / 4294967296 % 65536 = 0)) [hi % 4294967296, 4294967295 - lo % 4294967296]
      ++ pa (decide ((lo / 281474976710656 = 0 ∨ lo / 281474976710656 = 512) ∧ lo / 4294967296 % 65536 = 24318)) [lo % 4294967296] := by
  have key : ∀ (P : Prop) [Decidable P] (Q : Prop) [Decidable Q] (l : List Int), (P ↔ Q) → (if P then l else []) = pa (decide Q) l := fun P _ Q _ l h => by
    unfold pa
    by_cases hq : Q
    · rw [if_pos (h.2 hq), decide_eq_true hq]; rfl
    · rw [if_neg (fun hp => hq (h.1 hp)), decide_eq_false hq]; rfl
  unfold innerZ inA inCo inC inD inE inF
  congr 1
  · congr 1
    · congr 1
      · congr 1
        · congr 1
          · refine key _ _ _ ?_
            simp only [pcs, List.take_succ_cons, List.take_zero, List.cons.injEq, and_true]; omega
          · refine key _ _ _ ?_
            simp only [pcs, List.take_succ_cons, List.take_zero, List.cons.injEq, and_true]; omega
        · refine key _ _ _ ?_
          simp only [pcs, List.take_succ_cons, List.take_zero, List.cons.injEq, and_true]; omega
      · refine key _ _ _ ?_
        omega
    · refine key _ _ _ ?_
      omega
  · refine key _ _ _ ?_
    omega

def Rw (x1 : World) (wc : World) (v : Value) (l : List Int) : Prop := Nums 30 .u32 x1.heap.size wc v l ∧ Below x1.heap.size x1 wc

set_option maxRecDepth 100000 in
set_option maxHeartbeats 4000000 in
theorem refInner_six (hi lo : Int) (w : World) (h0 : 0 ≤ hi) (h1 : hi ≤ 18446744073709551615) (l0 : 0 ≤ lo) (l1 : lo ≤ 18446744073709551615) :
    Calls Tryz.prog 13 #[.agg #[.bool true, .int .u64 hi, .int .u64 lo]] w (RetU32s w (innerZ hi lo)) := by
  obtain ⟨i0, hi0, hz0, hz1, hz2⟩ := info_parts Tryz.infoU32
  have HZ := Lib.hid (ref_inner hi lo h0 h1 l0 l1)
  obtain ⟨lw, hlw⟩ : ∃ lw, lo % 4294967296 = lw := ⟨_, rfl⟩
  have hw0 : 0 ≤ lw := by omega
  have hw1 : lw ≤ 4294967295 := by omega
  rw [hlw] at HZ
  have hc0 : Below w.heap.size w (w.alloc (.cells #[.bool true, .int .u64 hi, .int .u64 lo] 40)) := (Below.refl _ _).alloc (Nat.le_refl _) _
  have HTW : Hid (lo / 65536 % 65536 * 65536 + lo % 65536 = lw) := by show _ = _; omega
  go_enter Tryz.func13, Tryz.ntmps13
  go_wp2_with fail
  refine (refPieces_any hi lo _ h0 h1 l0 l1).mono ?_
  rintro e x1 ⟨B, rfl, hB, hcl, hb1⟩
  have hc1 : Below w.heap.size w x1 := hc0.trans (hb1.mono hc0.size)
  have hk : ∀ W, Below x1.heap.size x1 W → ∀ j, j < 8 → W.cell? ⟨B, j, none⟩ = some (.int .i64 ((pcs hi lo).getD j 0)) := fun W hW j hj => (hW.cell hB).trans (hcl j hj)
  have HK := Lib.hid hk
  have HROW : Hid (∀ W, Below x1.heap.size x1 W → RowR W (.slice (some ⟨B, 0, none⟩) 8 8) ((pcs hi lo).map (Value.int .i64))) := fun W hW => row8_row rfl (HK.out W hW)
  have HC1 := Lib.hid hc1
  clear hb1 hcl hk hc0 hc1
  have hn0 : Nums 30 .u32 x1.heap.size x1 (.slice none 0 0) [] := Nums.nil _ _ _ _
  go_wp2_with fail
  refine (two_any _ (pcs hi lo) 6 (lo / 65536 % 65536) (lo % 65536) _ (HROW.out _ (Below.refl _ _)) (by rw [pcs_len]; decide) (by rw [pcs_len]; decide) rfl rfl (by omega) (by omega) (by omega) (by omega)).mono ?_
  rw [HTW.out]
  rintro e x2 ⟨rfl, hb2⟩
  have hn := Lib.hid (hn0.below hb2)
  have hq := hb2
  clear hlw hn0 hb2
  obtain ⟨L0, hL0, HL0⟩ : ∃ L : List Int, L.length ≤ 0 ∧ L = [] := ⟨_, Nat.le_refl _, rfl⟩
  rw [← HL0] at hn
  have GL0 := Lib.hid HL0
  clear HL0
  go_wp2_with fail
  refine (begins_any _ _ (pcs hi lo) [0, 0, 0, 0, 0, 65535] _ (HROW.out _ (hq.alloc hq.size _)) (lit6_row x2 0 0 0 0 0 65535) (by rw [pcs_len]; decide) (by rw [pcs_len]; decide)).mono ?_
  rw [show ([0, 0, 0, 0, 0, 65535] : List Int).length = 6 from rfl]
  obtain ⟨bA, hbA⟩ : ∃ b, decide ((pcs hi lo).take 6 = [0, 0, 0, 0, 0, 65535]) = b := ⟨_, rfl⟩
  rw [hbA] at HZ ⊢
  rintro e x3 ⟨rfl, hb3⟩
  have hn' := Lib.hid (hn.out.below ((Below.refl _ x2).alloc (Nat.le_refl _) (.cells #[.int .i64 0, .int .i64 0, .int .i64 0, .int .i64 0, .int .i64 0, .int .i64 65535] 3) |>.trans (hb3.mono (by simp))))
  have hq' : Below x1.heap.size x1 x3 := (hq.alloc hq.size _).trans (hb3.mono (hq.alloc hq.size _).size)
  clear hn hq hb3 hbA
  have hn := hn'
  have hq := hq'
  clear hn' hq'
  go_upto_if 19 with fail
  go_cut [3] (fun v wc => Rw x1 wc v (L0 ++ pa bA [lw]))
  case first =>
    cases bA with
    | false =>
      go_wp2
      go_meet
      exact ⟨by rw [pa_f, List.append_nil]; exact hn.out, hq⟩
    | true =>
      have ho1 : World.ownsRow x3 x1.heap.size 30 1 (.slice none 0 0) L0.length (L0.map (Value.int .u32)) := hn.out
      have tA1 : L0.length + 1 ≤ 9223372036854775807 := by have := hL0; omega
      have tB1 : (L0.length + 1) * 4 ≤ 140737488355328 := by have := hL0; omega
      have tC1 : x1.heap.size ≤ x3.heap.size := hq.size
      go_wp2_with (first
        | (at_builtin; refine wp_append1 _ rfl _ _ 27 rfl x1.heap.size 30 i0 (.int .u32 0) 4 Tryz.underlying27 hi0 hz0 hz1 hz2 rfl _ L0.length _ rfl ho1 (.int .u32 lw) rfl rfl tA1 tB1 tC1 ?_; intro v1 z1 hown1 hk1))
      go_meet
      exact ⟨Nums.snoc hown1, hq.trans hk1⟩
  case rest =>
    rename World => yA
    obtain ⟨hn', hq'⟩ := hcut
    obtain ⟨L1, hL1, HL1⟩ : ∃ L : List Int, L.length ≤ 1 ∧ L = L0 ++ pa bA [lw] := ⟨_, by have := pa_len bA [lw]; simp only [List.length_append]; simp only [List.length_cons, List.length_nil] at this; omega, rfl⟩
    rw [← HL1] at hn'
    have GL1 := Lib.hid HL1
    clear hn hq HL1
    have hn := Lib.hid hn'
    have hq := hq'
    clear hn' hq'
    obtain ⟨bB, hbB⟩ : ∃ b, decide ((pcs hi lo).take 6 = [0, 0, 0, 0, 0, 0] ∧ 1 < lw) = b := ⟨_, rfl⟩
    rw [hbB] at HZ
    have HB := Lib.hid hbB
    clear hbB
    go_upto_region 8 with fail
    go_cut [30] (fun v wc => v = .bool bB ∧ Below yA.heap.size yA wc)
    case first =>
      go_wp2_with fail
      refine (begins_any _ _ (pcs hi lo) [0, 0, 0, 0, 0, 0] _ (HROW.out _ (hq.alloc hq.size _)) (lit6_row yA 0 0 0 0 0 0) (by rw [pcs_len]; decide) (by rw [pcs_len]; decide)).mono ?_
      rw [show ([0, 0, 0, 0, 0, 0] : List Int).length = 6 from rfl]
      by_cases hP : (pcs hi lo).take 6 = [0, 0, 0, 0, 0, 0]
      · rw [decide_eq_true hP]
        rintro e x3 ⟨rfl, hb3⟩
        have hbz : Below yA.heap.size yA x3 := ((Below.refl _ yA).alloc (Nat.le_refl _) _).trans (hb3.mono (by simp))
        clear hb3
        by_cases hl : 1 < lw
        · have hd : decide ((1 : Int) < lw) = true := decide_eq_true hl
          have hB : bB = true := by rw [← HB.out]; exact decide_eq_true ⟨hP, hl⟩
          clear hP hl
          go_wp2
          go_meet
          exact ⟨by rw [hB], hbz⟩
        · have hd : decide ((1 : Int) < lw) = false := decide_eq_false hl
          have hB : bB = false := by rw [← HB.out]; exact decide_eq_false fun h => hl h.2
          clear hP hl
          go_wp2
          go_meet
          exact ⟨by rw [hB], hbz⟩
      · rw [decide_eq_false hP]
        rintro e x3 ⟨rfl, hb3⟩
        have hbz : Below yA.heap.size yA x3 := ((Below.refl _ yA).alloc (Nat.le_refl _) _).trans (hb3.mono (by simp))
        have hB : bB = false := by rw [← HB.out]; exact decide_eq_false fun h => hP h.1
        clear hb3 hP
        go_wp2
        go_meet
        exact ⟨by rw [hB], hbz⟩
    case rest =>
      rename World => yB0
      obtain ⟨rfl, hcb⟩ := hcut
      have hn' := Lib.hid (hn.out.below hcb)
      have hq' : Below x1.heap.size x1 yB0 := hq.trans (hcb.mono hq.size)
      clear hn hq hcb
      have hn := hn'
      have hq := hq'
      clear hn' hq'
      go_upto_if 30 with fail
      go_cut [3] (fun v wc => Rw x1 wc v (L1 ++ pa bB [lw]))
      case first =>
        cases bB with
        | false =>
          go_wp2
          go_meet
          exact ⟨by rw [pa_f, List.append_nil]; exact hn.out, hq⟩
        | true =>
          have ho1 : World.ownsRow yB0 x1.heap.size 30 1 _ L1.length (L1.map (Value.int .u32)) := hn.out
          have tA1 : L1.length + 1 ≤ 9223372036854775807 := by have := hL1; omega
          have tB1 : (L1.length + 1) * 4 ≤ 140737488355328 := by have := hL1; omega
          have tC1 : x1.heap.size ≤ yB0.heap.size := hq.size
          go_wp2_with (first
            | (at_builtin; refine wp_append1 _ rfl _ _ 27 rfl x1.heap.size 30 i0 (.int .u32 0) 4 Tryz.underlying27 hi0 hz0 hz1 hz2 rfl _ L1.length _ rfl ho1 (.int .u32 lw) rfl rfl tA1 tB1 tC1 ?_; intro v1 z1 hown1 hk1))
          go_meet
          exact ⟨Nums.snoc hown1, hq.trans hk1⟩
      case rest =>
        rename World => yB
        obtain ⟨hn', hq'⟩ := hcut
        obtain ⟨L2, hL2, HL2⟩ : ∃ L : List Int, L.length ≤ 2 ∧ L = L1 ++ pa bB [lw] := ⟨_, by have := pa_len bB [lw]; simp only [List.length_append]; simp only [List.length_cons, List.length_nil] at this; omega, rfl⟩
        rw [← HL2] at hn'
        have GL2 := Lib.hid HL2
        clear hn hq HL2
        have hn := Lib.hid hn'
        have hq := hq'
        clear hn' hq'
        go_wp2_with fail
        refine (begins_any _ _ (pcs hi lo) [100, 65435, 0, 0, 0, 0] _ (HROW.out _ (hq.alloc hq.size _)) (lit6_row yB 100 65435 0 0 0 0) (by rw [pcs_len]; decide) (by rw [pcs_len]; decide)).mono ?_
        rw [show ([100, 65435, 0, 0, 0, 0] : List Int).length = 6 from rfl]
        obtain ⟨bC, hbC⟩ : ∃ b, decide ((pcs hi lo).take 6 = [100, 65435, 0, 0, 0, 0]) = b := ⟨_, rfl⟩
        rw [hbC] at HZ ⊢
        rintro e x3 ⟨rfl, hb3⟩
        have hn' := Lib.hid (hn.out.below ((Below.refl _ yB).alloc (Nat.le_refl _) (.cells #[.int .i64 100, .int .i64 65435, .int .i64 0, .int .i64 0, .int .i64 0, .int .i64 0] 3) |>.trans (hb3.mono (by simp))))
        have hq' : Below x1.heap.size x1 x3 := (hq.alloc hq.size _).trans (hb3.mono (hq.alloc hq.size _).size)
        clear hn hq hb3 hbC
        have hn := hn'
        have hq := hq'
        clear hn' hq'
        go_upto_if 37 with fail
        go_cut [3] (fun v wc => Rw x1 wc v (L2 ++ pa bC [lw]))
        case first =>
          cases bC with
          | false =>
            go_wp2
            go_meet
            exact ⟨by rw [pa_f, List.append_nil]; exact hn.out, hq⟩
          | true =>
            have ho1 : World.ownsRow x3 x1.heap.size 30 1 _ L2.length (L2.map (Value.int .u32)) := hn.out
            have tA1 : L2.length + 1 ≤ 9223372036854775807 := by have := hL2; omega
            have tB1 : (L2.length + 1) * 4 ≤ 140737488355328 := by have := hL2; omega
            have tC1 : x1.heap.size ≤ x3.heap.size := hq.size
            go_wp2_with (first
              | (at_builtin; refine wp_append1 _ rfl _ _ 27 rfl x1.heap.size 30 i0 (.int .u32 0) 4 Tryz.underlying27 hi0 hz0 hz1 hz2 rfl _ L2.length _ rfl ho1 (.int .u32 lw) rfl rfl tA1 tB1 tC1 ?_; intro v1 z1 hown1 hk1))
            go_meet
            exact ⟨Nums.snoc hown1, hq.trans hk1⟩
        case rest =>
          rename World => yC
          obtain ⟨hn', hq'⟩ := hcut
          obtain ⟨L3, hL3, HL3⟩ : ∃ L : List Int, L.length ≤ 3 ∧ L = L2 ++ pa bC [lw] := ⟨_, by have := pa_len bC [lw]; simp only [List.length_append]; simp only [List.length_cons, List.length_nil] at this; omega, rfl⟩
          rw [← HL3] at hn'
          have GL3 := Lib.hid HL3
          clear hn hq HL3
          have hn := Lib.hid hn'
          have hq := hq'
          clear hn' hq'
          obtain ⟨bD, hbD⟩ : ∃ b, decide (hi / 281474976710656 = 8194) = b := ⟨_, rfl⟩
          rw [hbD] at HZ
          have hbD' : (hi / 281474976710656 == 8194) = bD := hbD
          have r0 : yC.cell? ⟨B, 0, none⟩ = some (.int .i64 (hi / 281474976710656)) := HK.out yC hq 0 (by decide)
          have HTD : Hid (hi / 4294967296 % 65536 * 65536 + hi / 65536 % 65536 = hi / 65536 % 4294967296) := by show _ = _; omega
          clear hbD
          go_upto_if 45 with fail
          go_cut [3] (fun v wc => Rw x1 wc v (L3 ++ pa bD [hi / 65536 % 4294967296]))
          case first =>
            cases bD with
            | false =>
              go_wp2
              go_meet
              exact ⟨by rw [pa_f, List.append_nil]; exact hn.out, hq⟩
            | true =>
              go_wp2_with fail
              refine (two_any _ (pcs hi lo) 1 (hi / 4294967296 % 65536) (hi / 65536 % 65536) _ (HROW.out _ hq) (by rw [pcs_len]; decide) (by rw [pcs_len]; decide) rfl rfl (by omega) (by omega) (by omega) (by omega)).mono ?_
              rw [HTD.out]
              rintro e x5 ⟨rfl, hb5⟩
              have hq5 : Below x1.heap.size x1 x5 := hq.trans (hb5.mono hq.size)
              have ho1 : World.ownsRow x5 x1.heap.size 30 1 _ L3.length (L3.map (Value.int .u32)) := hn.out.below hb5
              have tA1 : L3.length + 1 ≤ 9223372036854775807 := by have := hL3; omega
              have tB1 : (L3.length + 1) * 4 ≤ 140737488355328 := by have := hL3; omega
              have tC1 : x1.heap.size ≤ x5.heap.size := hq5.size
              clear hb5
              go_wp2_with (first
                | (at_builtin; refine wp_append1 _ rfl _ _ 27 rfl x1.heap.size 30 i0 (.int .u32 0) 4 Tryz.underlying27 hi0 hz0 hz1 hz2 rfl _ L3.length _ rfl ho1 (.int .u32 (hi / 65536 % 4294967296)) rfl rfl tA1 tB1 tC1 ?_; intro v1 z1 hown1 hk1))
              go_meet
              exact ⟨Nums.snoc hown1, hq5.trans hk1⟩
          case rest =>
            rename World => yD
            obtain ⟨hn', hq'⟩ := hcut
            obtain ⟨L4, hL4, HL4⟩ : ∃ L : List Int, L.length ≤ 4 ∧ L = L3 ++ pa bD [hi / 65536 % 4294967296] := ⟨_, by have := pa_len bD [hi / 65536 % 4294967296]; simp only [List.length_append]; simp only [List.length_cons, List.length_nil] at this; omega, rfl⟩
            rw [← HL4] at hn'
            have GL4 := Lib.hid HL4
            clear hn hq HL4
            have hn := Lib.hid hn'
            have hq := hq'
            clear hn' hq'
            clear hbD' r0
            obtain ⟨bE, hbE⟩ : ∃ b, decide (hi / 281474976710656 = 8193 ∧ hi / 4294967296 % 65536 = 0) = b := ⟨_, rfl⟩
            rw [hbE] at HZ
            have HE := Lib.hid hbE
            have r0 : yD.cell? ⟨B, 0, none⟩ = some (.int .i64 (hi / 281474976710656)) := HK.out yD hq 0 (by decide)
            have r1 : yD.cell? ⟨B, 1, none⟩ = some (.int .i64 (hi / 4294967296 % 65536)) := HK.out yD hq 1 (by decide)
            have HTE : Hid (hi / 65536 % 65536 * 65536 + hi % 65536 = hi % 4294967296) := by show _ = _; omega
            clear hbE
            go_upto_region 14 with fail
            go_cut [60] (fun v wc => v = .bool bE ∧ Below yD.heap.size yD wc)
            case first =>
              by_cases hP : hi / 281474976710656 = 8193
              · have d1 : (hi / 281474976710656 == 8193) = true := by rw [beq_iff_eq]; exact hP
                by_cases hQ : hi / 4294967296 % 65536 = 0
                · have d2 : (hi / 4294967296 % 65536 == 0) = true := by rw [beq_iff_eq]; exact hQ
                  have hB : bE = true := by rw [← HE.out]; exact decide_eq_true ⟨hP, hQ⟩
                  clear hP hQ
                  go_wp2
                  go_meet
                  exact ⟨by rw [hB], Below.refl _ _⟩
                · have d2 : (hi / 4294967296 % 65536 == 0) = false := by rw [beq_eq_false_iff_ne]; exact hQ
                  have hB : bE = false := by rw [← HE.out]; exact decide_eq_false fun h => hQ h.2
                  clear hP hQ
                  go_wp2
                  go_meet
                  exact ⟨by rw [hB], Below.refl _ _⟩
              · have d1 : (hi / 281474976710656 == 8193) = false := by rw [beq_eq_false_iff_ne]; exact hP
                have hB : bE = false := by rw [← HE.out]; exact decide_eq_false fun h => hP h.1
                clear hP
                go_wp2
                go_meet
                exact ⟨by rw [hB], Below.refl _ _⟩
            case rest =>
              rename World => yE0
              obtain ⟨rfl, hcb⟩ := hcut
              have hn' := Lib.hid (hn.out.below hcb)
              have hq' : Below x1.heap.size x1 yE0 := hq.trans (hcb.mono hq.size)
              clear hn hq hcb r0 r1
              have hn := hn'
              have hq := hq'
              clear hn' hq'
              go_upto_if 60 with fail
              go_cut [3] (fun v wc => Rw x1 wc v (L4 ++ pa bE [hi % 4294967296, 4294967295 - lw]))
              case first =>
                cases bE with
                | false =>
                  go_wp2
                  go_meet
                  exact ⟨by rw [pa_f, List.append_nil]; exact hn.out, hq⟩
                | true =>
                  go_wp2_with fail
                  refine (two_any _ (pcs hi lo) 2 (hi / 65536 % 65536) (hi % 65536) _ (HROW.out _ hq) (by rw [pcs_len]; decide) (by rw [pcs_len]; decide) rfl rfl (by omega) (by omega) (by omega) (by omega)).mono ?_
                  rw [HTE.out]
                  rintro e x5 ⟨rfl, hb5⟩
                  have hq5 : Below x1.heap.size x1 x5 := hq.trans (hb5.mono hq.size)
                  have ho1 : World.ownsRow x5 x1.heap.size 30 1 _ L4.length (L4.map (Value.int .u32)) := hn.out.below hb5
                  have tA1 : L4.length + 1 ≤ 9223372036854775807 := by have := hL4; omega
                  have tB1 : (L4.length + 1) * 4 ≤ 140737488355328 := by have := hL4; omega
                  have tC1 : x1.heap.size ≤ x5.heap.size := hq5.size
                  have tA2 : L4.length + 1 + 1 ≤ 9223372036854775807 := by have := hL4; omega
                  have tB2 : (L4.length + 1 + 1) * 4 ≤ 140737488355328 := by have := hL4; omega
                  clear hb5
                  go_wp2_with (first
                    | (at_builtin; refine wp_append1 _ rfl _ _ 27 rfl x1.heap.size 30 i0 (.int .u32 0) 4 Tryz.underlying27 hi0 hz0 hz1 hz2 rfl _ L4.length _ rfl ho1 (.int .u32 (hi % 4294967296)) rfl rfl tA1 tB1 tC1 ?_; intro v1 z1 hown1 hk1)
                    | (at_builtin; refine wp_append1 _ rfl _ _ 27 rfl x1.heap.size 30 i0 (.int .u32 0) 4 Tryz.underlying27 hi0 hz0 hz1 hz2 rfl _ (L4.length + 1) _ rfl hown1 (.int .u32 (4294967295 - lw)) rfl rfl tA2 tB2 (hq5.trans hk1).size ?_; intro v2 z2 hown2 hk2))
                  go_meet
                  exact ⟨by have := Nums.snoc (l := L4 ++ [(hi % 4294967296)]) (x := (4294967295 - lw)) (k := .u32) (by simpa using hown2); simpa [pa] using this, (hq5.trans hk1).trans hk2⟩
              case rest =>
                rename World => yE
                obtain ⟨hn', hq'⟩ := hcut
                obtain ⟨L5, hL5, HL5⟩ : ∃ L : List Int, L.length ≤ 6 ∧ L = L4 ++ pa bE [hi % 4294967296, 4294967295 - lw] := ⟨_, by have := pa_len bE [hi % 4294967296, 4294967295 - lw]; simp only [List.length_append]; simp only [List.length_cons, List.length_nil] at this; omega, rfl⟩
                rw [← HL5] at hn'
                have GL5 := Lib.hid HL5
                clear hn hq HL5
                have hn := Lib.hid hn'
                have hq := hq'
                clear hn' hq'
                obtain ⟨bF, hbF⟩ : ∃ b, decide ((lo / 281474976710656 = 0 ∨ lo / 281474976710656 = 512) ∧ lo / 4294967296 % 65536 = 24318) = b := ⟨_, rfl⟩
                rw [hbF] at HZ
                have HF := Lib.hid hbF
                have r4 : yE.cell? ⟨B, 4, none⟩ = some (.int .i64 (lo / 281474976710656)) := HK.out yE hq 4 (by decide)
                have r5 : yE.cell? ⟨B, 5, none⟩ = some (.int .i64 (lo / 4294967296 % 65536)) := HK.out yE hq 5 (by decide)
                clear hbF
                go_upto_region 17 with fail
                go_cut [86] (fun v wc => v = .bool bF ∧ Below yE.heap.size yE wc)
                case first =>
                  by_cases ha : lo / 281474976710656 = 0
                  · have d1 : (lo / 281474976710656 == 0) = true := by rw [beq_iff_eq]; exact ha
                    by_cases hc : lo / 4294967296 % 65536 = 24318
                    · have d3 : (lo / 4294967296 % 65536 == 24318) = true := by rw [beq_iff_eq]; exact hc
                      have hB : bF = true := by rw [← HF.out]; exact decide_eq_true ⟨.inl ha, hc⟩
                      clear ha hc
                      go_wp2
                      go_meet
                      exact ⟨by rw [hB], Below.refl _ _⟩
                    · have d3 : (lo / 4294967296 % 65536 == 24318) = false := by rw [beq_eq_false_iff_ne]; exact hc
                      have hB : bF = false := by rw [← HF.out]; exact decide_eq_false fun h => hc h.2
                      clear ha hc
                      go_wp2
                      go_meet
                      exact ⟨by rw [hB], Below.refl _ _⟩
                  · have d1 : (lo / 281474976710656 == 0) = false := by rw [beq_eq_false_iff_ne]; exact ha
                    by_cases hb : lo / 281474976710656 = 512
                    · have d2 : (lo / 281474976710656 == 512) = true := by rw [beq_iff_eq]; exact hb
                      by_cases hc : lo / 4294967296 % 65536 = 24318
                      · have d3 : (lo / 4294967296 % 65536 == 24318) = true := by rw [beq_iff_eq]; exact hc
                        have hB : bF = true := by rw [← HF.out]; exact decide_eq_true ⟨.inr hb, hc⟩
                        clear ha hb hc
                        go_wp2
                        go_meet
                        exact ⟨by rw [hB], Below.refl _ _⟩
                      · have d3 : (lo / 4294967296 % 65536 == 24318) = false := by rw [beq_eq_false_iff_ne]; exact hc
                        have hB : bF = false := by rw [← HF.out]; exact decide_eq_false fun h => hc h.2
                        clear ha hb hc
                        go_wp2
                        go_meet
                        exact ⟨by rw [hB], Below.refl _ _⟩
                    · have d2 : (lo / 281474976710656 == 512) = false := by rw [beq_eq_false_iff_ne]; exact hb
                      have hB : bF = false := by rw [← HF.out]; exact decide_eq_false fun h => h.1.elim ha hb
                      clear ha hb
                      go_wp2
                      go_meet
                      exact ⟨by rw [hB], Below.refl _ _⟩
                case rest =>
                  rename World => yF0
                  obtain ⟨rfl, hcb⟩ := hcut
                  have hn' := Lib.hid (hn.out.below hcb)
                  have hq' : Below x1.heap.size x1 yF0 := hq.trans (hcb.mono hq.size)
                  clear hn hq hcb r4 r5
                  have hn := hn'
                  have hq := hq'
                  clear hn' hq'
                  go_upto_if 86 with fail
                  go_cut [3] (fun v wc => Rw x1 wc v (L5 ++ pa bF [lw]))
                  case first =>
                    cases bF with
                    | false =>
                      go_wp2
                      go_meet
                      exact ⟨by rw [pa_f, List.append_nil]; exact hn.out, hq⟩
                    | true =>
                      have ho1 : World.ownsRow yF0 x1.heap.size 30 1 _ L5.length (L5.map (Value.int .u32)) := hn.out
                      have tA1 : L5.length + 1 ≤ 9223372036854775807 := by have := hL5; omega
                      have tB1 : (L5.length + 1) * 4 ≤ 140737488355328 := by have := hL5; omega
                      have tC1 : x1.heap.size ≤ yF0.heap.size := hq.size
                      go_wp2_with (first
                        | (at_builtin; refine wp_append1 _ rfl _ _ 27 rfl x1.heap.size 30 i0 (.int .u32 0) 4 Tryz.underlying27 hi0 hz0 hz1 hz2 rfl _ L5.length _ rfl ho1 (.int .u32 lw) rfl rfl tA1 tB1 tC1 ?_; intro v1 z1 hown1 hk1))
                      go_meet
                      exact ⟨Nums.snoc hown1, hq.trans hk1⟩
                  case rest =>
                    rename World => yF
                    obtain ⟨hn', hq'⟩ := hcut
                    obtain ⟨L6, hL6, HL6⟩ : ∃ L : List Int, L.length ≤ 7 ∧ L = L5 ++ pa bF [lw] := ⟨_, by have := pa_len bF [lw]; simp only [List.length_append]; simp only [List.length_cons, List.length_nil] at this; omega, rfl⟩
                    rw [← HL6] at hn'
                    have GL6 := Lib.hid HL6
                    clear hn hq HL6
                    have hn := Lib.hid hn'
                    have hq := hq'
                    clear hn' hq'
                    go_wp2
                    go_ret
                    refine ⟨_, rfl, ?_, HC1.out.trans (hq.mono HC1.out.size)⟩
                    have hlist : innerZ hi lo = L6 := by rw [HZ.out, GL6.out, GL5.out, GL4.out, GL3.out, GL2.out, GL1.out, GL0.out, List.nil_append]
                    rw [hlist]
                    exact hn.out.mono HC1.out.size
end Go.Proofs.YtgmfgcpfpopboaaGreatDoor
