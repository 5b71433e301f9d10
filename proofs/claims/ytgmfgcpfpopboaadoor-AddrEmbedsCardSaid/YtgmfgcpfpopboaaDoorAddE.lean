/-
  Layer 6: an address as the document's; the reference's Parse.
-/
import Derived.Test.YtgmfgcpfpopboaaDoorAddD
namespace Go.Proofs.YtgmfgcpfpopboaaDoor
open Go.RowKit


set_option maxRecDepth 100000 in
set_option maxHeartbeats 1000000 in
theorem lawOf_four (n : Int) (w : World) (h0 : 0 ≤ n) (h1 : n ≤ 4294967295) :
    Calls Tryd.prog 28 #[.iface 60 (.int .u32 n)] w fun e w' => e = .returned (.agg #[.bool false, .int .u64 0, .int .u64 (281470681743360 + n)]) ∧ Below w.heap.size w w' := by
  have hta := as44
  have hB : (w.alloc (.cells #[.bool false, .int .u64 0, .int .u64 0] 55)).heap[w.heap.size]? = some (.cells #[.bool false, .int .u64 0, .int .u64 0] 55 (0, 0)) := heap_alloc_new w _
  have hg : w.heap.size < (w.alloc (.cells #[.bool false, .int .u64 0, .int .u64 0] 55)).heap.size := by simp
  have hb : Below w.heap.size w (w.alloc (.cells #[.bool false, .int .u64 0, .int .u64 0] 55)) := (Below.refl _ w).alloc (Nat.le_refl _) _
  have HB := Lib.hid hB
  clear hB
  go_enter Tryd.func28, Tryd.ntmps28
  go_wp2_with fail
  generalize w.alloc (.cells #[.bool false, .int .u64 0, .int .u64 0] 55) = x1 at *
  refine (refFour_any n _ h0 h1).mono ?_
  rintro e x2 ⟨rfl, hb2⟩
  have HB2 : Hid (x2.heap[w.heap.size]? = some (.cells #[.bool false, .int .u64 0, .int .u64 0] 55 (0, 0))) := (hb2.block w.heap.size hg).trans HB.out
  have k0 : x2.cell? ⟨w.heap.size, 0, none⟩ = some (.bool false) := by rw [cell_of_row x2 _ 0 _ _ _ HB2.out]; rfl
  have k1 : x2.cell? ⟨w.heap.size, 1, none⟩ = some (.int .u64 0) := by rw [cell_of_row x2 _ 1 _ _ _ HB2.out]; rfl
  have k2 : x2.cell? ⟨w.heap.size, 2, none⟩ = some (.int .u64 0) := by rw [cell_of_row x2 _ 2 _ _ _ HB2.out]; rfl
  have f0 := row_frozen0 HB2.out 0
  have f1 := row_frozen0 HB2.out 1
  have f2 := row_frozen0 HB2.out 2
  have hc2 : Below w.heap.size w x2 := hb.trans (hb2.mono hb.size)
  clear hb2 hta
  go_wp2
  exact bodyPost_ret (v := .agg #[.bool false, .int .u64 0, .int .u64 (281470681743360 + n)]) (by simp [results, Tryd.results28, go_sem, k0, k1, k2]) rfl ⟨rfl, ((hc2.setCell (Nat.le_refl _) _).setCell (Nat.le_refl _) _).setCell (Nat.le_refl _) _⟩

set_option maxRecDepth 100000 in
set_option maxHeartbeats 1000000 in
theorem lawOf_six (hi lo : Int) (w : World) :
    Calls Tryd.prog 28 #[.iface 25 (.agg #[.int .u64 hi, .int .u64 lo])] w fun e w' => e = .returned (.agg #[.bool true, .int .u64 hi, .int .u64 lo]) ∧ Below w.heap.size w w' := by
  have hta := as64
  have htb := as66
  go_enter Tryd.func28, Tryd.ntmps28
  go_wp2
  exact bodyPost_ret (v := .agg #[.bool true, .int .u64 hi, .int .u64 lo]) (by simp [results, Tryd.results28, go_sem]) rfl ⟨rfl, by first | exact (((((Below.refl _ w).alloc (Nat.le_refl _) _).alloc (by simp) _).setCell (Nat.le_refl _) _).setCell (Nat.le_refl _) _).setCell (Nat.le_refl _) _ | exact ((Below.refl _ w).alloc (Nat.le_refl _) _).alloc (by simp) _⟩
set_option maxRecDepth 100000 in
set_option maxHeartbeats 1000000 in
theorem lawOf_nil (w : World) :
    Calls Tryd.prog 28 #[.nilIface] w fun e w' => e = .returned (.agg #[.bool false, .int .u64 0, .int .u64 0]) ∧ Below w.heap.size w w' := by
  have hta := asN4
  have htb := asN6
  go_enter Tryd.func28, Tryd.ntmps28
  go_wp2
  exact bodyPost_ret (v := .agg #[.bool false, .int .u64 0, .int .u64 0]) (by simp [results, Tryd.results28, go_sem]) rfl ⟨rfl, by first | exact (((((Below.refl _ w).alloc (Nat.le_refl _) _).alloc (by simp) _).setCell (Nat.le_refl _) _).setCell (Nat.le_refl _) _).setCell (Nat.le_refl _) _ | exact ((Below.refl _ w).alloc (Nat.le_refl _) _).alloc (by simp) _⟩

theorem lawOf_any (x : Option AZ) (w : World) (h : ∀ a, x = some a → a.Ok) :
    Calls Tryd.prog 28 #[optV x] w fun e w' => e = .returned (refV (refA x)) ∧ Below w.heap.size w w' := by
  match x with
  | none => exact lawOf_nil w
  | some (.four n) => exact lawOf_four n w (h _ rfl).1 (h _ rfl).2
  | some (.six hi lo) => exact lawOf_six hi lo w

def RetRef6 (w : World) (x : Option AZ) (e : Ending) (w' : World) : Prop := e = .returned (.tuple #[refV (refA x), .bool x.isSome]) ∧ Below w.heap.size w w'

set_option maxRecDepth 100000 in
set_option maxHeartbeats 2000000 in
theorem refAddrParse_any (s : ByteArray) (w : World) (hs : s.size ≤ 1073741824) :
    Calls Tryd.prog 27 #[.string s] w (RetRef6 w (addrZ s.data.toList)) := by
  obtain ⟨y, b4, hy⟩ : ∃ x b, strictZ s.data.toList = (x, b) := ⟨_, _, rfl⟩
  have hyb : 0 ≤ y ∧ y ≤ 4294967295 := by have := strictZ_bounds s.data.toList; rw [hy] at this; exact this
  have HY := Lib.hid hy
  obtain ⟨h, l, b6, hz⟩ : ∃ h l b, sixZ s.data.toList = ((h, l), b) := ⟨_, _, _, rfl⟩
  have HZ := Lib.hid hz
  have HA : Hid (addrZ s.data.toList = if b4 = true then some (.four y) else if b6 = true then some (.six h l) else none) := by
    show addrZ s.data.toList = _
    unfold addrZ; rw [hy, hz]
  clear hy hz
  have hB : (w.alloc (.cells #[.bool false, .int .u64 0, .int .u64 0] 55)).heap[w.heap.size]? = some (.cells #[.bool false, .int .u64 0, .int .u64 0] 55 (0, 0)) := heap_alloc_new w _
  have hg : w.heap.size < (w.alloc (.cells #[.bool false, .int .u64 0, .int .u64 0] 55)).heap.size := by simp
  have hb : Below w.heap.size w (w.alloc (.cells #[.bool false, .int .u64 0, .int .u64 0] 55)) := (Below.refl _ w).alloc (Nat.le_refl _) _
  have HB := Lib.hid hB
  clear hB
  go_enter Tryd.func27, Tryd.ntmps27
  go_wp2_with fail
  generalize w.alloc (.cells #[.bool false, .int .u64 0, .int .u64 0] 55) = x1 at *
  refine (refStrict_any s _ hs).mono ?_
  rw [HY.out]
  rintro e x2 ⟨rfl, hb2⟩
  have HB2 : Hid (x2.heap[w.heap.size]? = some (.cells #[.bool false, .int .u64 0, .int .u64 0] 55 (0, 0))) := (hb2.block w.heap.size hg).trans HB.out
  have hg2 : w.heap.size < x2.heap.size := Nat.lt_of_lt_of_le hg hb2.size
  have hc2 : Below w.heap.size w x2 := hb.trans (hb2.mono hb.size)
  clear hb2 hg
  cases b4 with
  | true =>
    go_wp2_with fail
    refine (refFour_any y _ hyb.1 hyb.2).mono ?_
    rintro e x3 ⟨rfl, hb3⟩
    have HB3 : Hid (x3.heap[w.heap.size]? = some (.cells #[.bool false, .int .u64 0, .int .u64 0] 55 (0, 0))) := (hb3.block w.heap.size hg2).trans HB2.out
    have k0 : x3.cell? ⟨w.heap.size, 0, none⟩ = some (.bool false) := by rw [cell_of_row x3 _ 0 _ _ _ HB3.out]; rfl
    have k1 : x3.cell? ⟨w.heap.size, 1, none⟩ = some (.int .u64 0) := by rw [cell_of_row x3 _ 1 _ _ _ HB3.out]; rfl
    have k2 : x3.cell? ⟨w.heap.size, 2, none⟩ = some (.int .u64 0) := by rw [cell_of_row x3 _ 2 _ _ _ HB3.out]; rfl
    have f0 := row_frozen0 HB3.out 0
    have f1 := row_frozen0 HB3.out 1
    have f2 := row_frozen0 HB3.out 2
    have hc3 : Below w.heap.size w x3 := hc2.trans (hb3.mono hc2.size)
    clear hb3
    go_wp2
    exact bodyPost_ret (v := .tuple #[.agg #[.bool false, .int .u64 0, .int .u64 (281470681743360 + y)], .bool true]) (by simp [results, Tryd.results27, go_sem, k0, k1, k2]) rfl ⟨by rw [HA.out]; rfl, ((hc3.setCell (Nat.le_refl _) _).setCell (Nat.le_refl _) _).setCell (Nat.le_refl _) _⟩
  | false =>
    go_wp2_with fail
    refine (refParse6_any s _ hs).mono ?_
    rw [HZ.out]
    rintro e x3 ⟨rfl, hb3⟩
    have HB3 : Hid (x3.heap[w.heap.size]? = some (.cells #[.bool false, .int .u64 0, .int .u64 0] 55 (0, 0))) := (hb3.block w.heap.size hg2).trans HB2.out
    have k0 : x3.cell? ⟨w.heap.size, 0, none⟩ = some (.bool false) := by rw [cell_of_row x3 _ 0 _ _ _ HB3.out]; rfl
    have k1 : x3.cell? ⟨w.heap.size, 1, none⟩ = some (.int .u64 0) := by rw [cell_of_row x3 _ 1 _ _ _ HB3.out]; rfl
    have k2 : x3.cell? ⟨w.heap.size, 2, none⟩ = some (.int .u64 0) := by rw [cell_of_row x3 _ 2 _ _ _ HB3.out]; rfl
    have f0 := row_frozen0 HB3.out 0
    have f1 := row_frozen0 HB3.out 1
    have f2 := row_frozen0 HB3.out 2
    have hc3 : Below w.heap.size w x3 := hc2.trans (hb3.mono hc2.size)
    clear hb3
    cases b6 with
    | true =>
      go_wp2
      exact bodyPost_ret (v := .tuple #[.agg #[.bool true, .int .u64 h, .int .u64 l], .bool true]) (by simp [results, Tryd.results27, go_sem, k0, k1, k2]) rfl ⟨by rw [HA.out]; rfl, ((hc3.setCell (Nat.le_refl _) _).setCell (Nat.le_refl _) _).setCell (Nat.le_refl _) _⟩
    | false =>
      go_wp2
      exact bodyPost_ret (v := .tuple #[.agg #[.bool false, .int .u64 0, .int .u64 0], .bool false]) (by simp [results, Tryd.results27, go_sem, k0, k1, k2]) rfl ⟨by rw [HA.out]; rfl, ((hc3.setCell (Nat.le_refl _) _).setCell (Nat.le_refl _) _).setCell (Nat.le_refl _) _⟩
end Go.Proofs.YtgmfgcpfpopboaaDoor
