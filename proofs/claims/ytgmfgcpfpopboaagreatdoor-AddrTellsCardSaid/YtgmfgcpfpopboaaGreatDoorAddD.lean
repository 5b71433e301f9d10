/-
  Layer 6: the chapter's examples hold; an address as the document's.
-/
import Derived.Test.YtgmfgcpfpopboaaGreatDoorAddC
import Derived.Test.YtgmfgcpfpopboaaGreatDoorSixI
namespace Go.Proofs.YtgmfgcpfpopboaaGreatDoor
open Go.RowKit


set_option maxRecDepth 100000 in
set_option maxHeartbeats 1000000 in
theorem equalF_any (v1 v2 : Value) (l1 l2 : List Int) (w : World) (h1 : RowR w v1 (l1.map (Value.int .u32))) (h2 : RowR w v2 (l2.map (Value.int .u32)))
    (hl1 : l1.length ≤ 1073741824) :
    Calls Tryz.prog 20 #[v1, v2] w fun e w' => e = .returned (.bool (decide (l1 = l2))) ∧ ∃ n, w' = w.drewN n := by
  obtain ⟨a1, c1, rfl, hc1⟩ := h1
  obtain ⟨a2, c2, rfl, hc2⟩ := h2
  simp only [List.length_map]
  have HC1 := Lib.hid hc1
  have HC2 := Lib.hid hc2
  clear hc1 hc2
  by_cases hne : l1.length = l2.length
  · have HL := Lib.hid hne
    have hle1 : l1.length ≤ l2.length := by omega
    have hle2 : l2.length ≤ l1.length := by omega
    have hb : ((l1.length : Int) != (l2.length : Int)) = false := by simp [hne]
    clear hne
    go_enter Tryz.func20, Tryz.ntmps20
    go_wp2
    go_loopw [13] (fun i wr => ∃ k m : Nat, k ≤ l1.length ∧ i = .int .i64 k ∧ wr = w.drewN m ∧ Hid (l1.take k = l2.take k)) (fun i _ => l1.length - (intOf i).toNat)
    case atStart => exact ⟨0, 0, Nat.zero_le _, rfl, rfl, rfl⟩
    case round =>
      obtain ⟨k, m, hk, rfl, rfl, H⟩ := hrel
      by_cases hlt : k < l1.length
      · have hlt2 : k < l2.length := by omega
        obtain ⟨x, hx⟩ : ∃ x, x = l1[k] := ⟨_, rfl⟩
        obtain ⟨y, hy⟩ : ∃ y, y = l2[k] := ⟨_, rfl⟩
        obtain ⟨d1, rfl, hd1⟩ := HC1.out k (.int .u32 x) (by simp [hx, hlt])
        obtain ⟨d2, rfl, hd2⟩ := HC2.out k (.int .u32 y) (by simp [hy, hlt2])
        have HX := Lib.hid hx
        have HY := Lib.hid hy
        clear hx hy
        by_cases hxy : x = y
        · subst hxy
          go_wp2
          go_quiet (fail)
          go_wp2
          go_roundw
          case rel =>
            exact ⟨k + 1, _, by omega, by go_num, rfl, take_next H.out hlt hlt2 (HX.out.symm.trans HY.out)⟩
          case measure => simp [intOf]; omega
        · have hb1 : (x != y) = true := by simp [hxy]
          have hfin : decide (l1 = l2) = false := by
            refine decide_eq_false fun e => hxy ?_
            rw [HX.out, HY.out]
            simp only [e]
          have HF := Lib.hid hfin
          clear hfin
          go_wp2
          go_quiet (fail)
          go_wp2
          go_ret
          exact ⟨ret_bool HF.out.symm, _, World.drewN_drewN _ _ _⟩
      · have hfin : decide (l1 = l2) = true := by
          refine decide_eq_true ?_
          have := H.out
          rwa [List.take_of_length_le (by omega), List.take_of_length_le (by omega)] at this
        have HF := Lib.hid hfin
        clear hfin
        go_wp2
        go_ret
        exact ⟨ret_bool HF.out.symm, m, rfl⟩
  · have hb : ((l1.length : Int) != (l2.length : Int)) = true := by simp; omega
    have hfin : decide (l1 = l2) = false := decide_eq_false fun e => hne (by rw [e])
    have HF := Lib.hid hfin
    clear hfin
    go_enter Tryz.func20, Tryz.ntmps20
    go_wp2
    go_ret
    exact ⟨ret_bool HF.out.symm, 0, rfl⟩

theorem a6_a : addrZ [58, 58, 102, 102, 102, 102, 58, 55, 102, 48, 48, 58, 49] = some (.six 0 281472812449793) := by
  unfold addrZ
  rw [show strictZ [58, 58, 102, 102, 102, 102, 58, 55, 102, 48, 48, 58, 49] = (0, false) from by decide +kernel, show sixZ [58, 58, 102, 102, 102, 102, 58, 55, 102, 48, 48, 58, 49] = ((0, 281472812449793), true) from by decide +kernel]
  rfl
theorem a6_b : addrZ [50, 48, 48, 50, 58, 55, 102, 48, 48, 58, 49, 58, 58] = some (.six 2306545597143908352 0) := by
  unfold addrZ
  rw [show strictZ [50, 48, 48, 50, 58, 55, 102, 48, 48, 58, 49, 58, 58] = (0, false) from by decide +kernel, show sixZ [50, 48, 48, 50, 58, 55, 102, 48, 48, 58, 49, 58, 58] = ((2306545597143908352, 0), true) from by decide +kernel]
  rfl
theorem i6_a : innerZ 0 281472812449793 = [2130706433] := by decide +kernel
theorem i6_b : innerZ 2306545597143908352 0 = [2130706433] := by decide +kernel

set_option maxHeartbeats 1000000 in
theorem awake5_any (w : World) (hbru : BruTab w) (hmax : MaxVar w) :
    Calls Tryz.prog 19 #[] w fun e w' => e = .returned (.bool true) ∧ Below w.heap.size w w' := by
  have HT := Lib.hid hbru
  have HX := Lib.hid hmax
  clear hbru hmax
  go_enter Tryz.func19, Tryz.ntmps19
  go_wp2_with fail
  refine (awake05_any _ HT.out HX.out).mono ?_
  rintro e w1 ⟨rfl, hb1⟩
  go_wp2
  go_ret
  exact ⟨rfl, hb1⟩

theorem lit_row (x : World) (n : Int) : RowR (x.alloc (.cells #[.int .u32 n] 31)) (.slice (some ⟨x.heap.size, 0, none⟩) 1 1) ([n].map (Value.int .u32)) := by
  refine ⟨some ⟨x.heap.size, 0, none⟩, 1, rfl, fun j u hj => ⟨_, rfl, ?_⟩⟩
  rw [Lib.add_plain, Nat.zero_add, cell_of_row _ _ j _ _ _ (heap_alloc_new x _)]
  simpa using hj

set_option maxRecDepth 100000 in
set_option maxHeartbeats 4000000 in
theorem awake06_any (w : World) (hbru : BruTab w) (hmax : MaxVar w) :
    Calls Tryz.prog 4 #[] w fun e w' => e = .returned (.bool true) ∧ Below w.heap.size w w' := by
  have HT := Lib.hid hbru
  have HX := Lib.hid hmax
  clear hbru hmax
  go_enter Tryz.func4, Tryz.ntmps4
  go_wp2_with fail
  refine (addrParse_any _ _ (by decide) HX.out).mono ?_
  rw [show addrZ (ByteArray.mk #[58, 58, 102, 102, 102, 102, 58, 55, 102, 48, 48, 58, 49]).data.toList = some (.six 0 281472812449793) from a6_a]
  rintro e x1 ⟨rfl, hb1⟩
  simp only [optV, AZ.val, Option.isSome]
  go_wp2_with fail
  refine (addrParse_any _ _ (by decide) (maxVar_below HX.out hb1)).mono ?_
  rw [show addrZ (ByteArray.mk #[50, 48, 48, 50, 58, 55, 102, 48, 48, 58, 49, 58, 58]).data.toList = some (.six 2306545597143908352 0) from a6_b]
  rintro e x2 ⟨rfl, hb2⟩
  simp only [optV, AZ.val, Option.isSome]
  have hc2 : Below w.heap.size w x2 := hb1.trans (hb2.mono hb1.size)
  clear hb1 hb2
  go_wp2_with fail
  refine (awake5_any _ (bruTab_below HT.out hc2) (maxVar_below HX.out hc2)).mono ?_
  rintro e x3 ⟨rfl, hb3⟩
  have hc3 : Below w.heap.size w x3 := hc2.trans (hb3.mono hc2.size)
  clear hb3 hc2
  go_wp2_with fail
  refine (inner_six 0 281472812449793 _ (by decide) (by decide) (by decide) (by decide)).mono ?_
  rw [i6_a]
  rintro e x4 ⟨v4, rfl, hn4, hb4⟩
  have hc4 : Below w.heap.size w x4 := hc3.trans (hb4.mono hc3.size)
  have hc5 : Below w.heap.size w (x4.alloc (.cells #[.int .u32 2130706433] 31)) := hc4.alloc hc4.size _
  have HR4 := Lib.hid ((hn4.below ((Below.refl _ x4).alloc (Nat.le_refl _) (.cells #[.int .u32 2130706433] 31))).row)
  have HL4 := Lib.hid (lit_row x4 2130706433)
  clear hb4 hc3 hn4 hc4
  go_wp2_with fail
  generalize x4.alloc (.cells #[.int .u32 2130706433] 31) = x5 at *
  refine (equalF_any _ _ [2130706433] [2130706433] _ HR4.out HL4.out (by decide)).mono ?_
  rintro e x6 ⟨rfl, m6, rfl⟩
  have hc6 : Below w.heap.size w (x5.drewN m6) := below_drewN hc5 m6
  generalize x5.drewN m6 = x6 at *
  rw [decide_eq_true (rfl : ([2130706433] : List Int) = [2130706433])]
  go_wp2_with fail
  refine (inner_six 2306545597143908352 0 _ (by decide) (by decide) (by decide) (by decide)).mono ?_
  rw [i6_b]
  rintro e x7 ⟨v7, rfl, hn7, hb7⟩
  have hc7 : Below w.heap.size w x7 := hc6.trans (hb7.mono hc6.size)
  have hc8 : Below w.heap.size w (x7.alloc (.cells #[.int .u32 2130706433] 31)) := hc7.alloc hc7.size _
  have HR7 := Lib.hid ((hn7.below ((Below.refl _ x7).alloc (Nat.le_refl _) (.cells #[.int .u32 2130706433] 31))).row)
  have HL7 := Lib.hid (lit_row x7 2130706433)
  clear hb7 hn7 hc7
  go_wp2_with fail
  generalize x7.alloc (.cells #[.int .u32 2130706433] 31) = x8 at *
  refine (equalF_any _ _ [2130706433] [2130706433] _ HR7.out HL7.out (by decide)).mono ?_
  rintro e x9 ⟨rfl, m9, rfl⟩
  rw [decide_eq_true (rfl : ([2130706433] : List Int) = [2130706433])]
  go_wp2
  go_ret
  exact ⟨by first | rfl | exact ret_bool (by simp), below_drewN hc8 m9⟩

/-- an address as the document's -/
def refA : Option AZ → Bool × Int × Int
  | none => (false, 0, 0)
  | some (.four n) => (false, 0, 281470681743360 + n)
  | some (.six hi lo) => (true, hi, lo)
def refV (x : Bool × Int × Int) : Value := .agg #[.bool x.1, .int .u64 x.2.1, .int .u64 x.2.2]

set_option maxRecDepth 100000 in
set_option maxHeartbeats 1000000 in
theorem refFour_any (n : Int) (w : World) (h0 : 0 ≤ n) (h1 : n ≤ 4294967295) :
    Calls Tryz.prog 27 #[.int .u32 n] w fun e w' => e = .returned (.agg #[.bool false, .int .u64 0, .int .u64 (281470681743360 + n)]) ∧ Below w.heap.size w w' := by
  go_enter Tryz.func27, Tryz.ntmps27
  go_wp2
  exact bodyPost_ret (v := .agg #[.bool false, .int .u64 0, .int .u64 (281470681743360 + n)]) (by simp [results, Tryz.results27, go_sem]) rfl ⟨rfl, (Below.refl _ _).alloc (Nat.le_refl _) _⟩
end Go.Proofs.YtgmfgcpfpopboaaGreatDoor
