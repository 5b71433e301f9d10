/-
  Layer 7: the document's Parse: what it comes to.
-/
import Derived.Test.YtoobiaifogackaaGreatDoorPreJ
namespace Go.Proofs.YtoobiaifogackaaGreatDoor
open Go.RowKit


theorem keep_res (w : World) (t : TypeId) : ∀ W, Below (w.heap.size + 1) (w.alloc (.cells #[.int .u64 0, .int .u64 0, .int .i64 0] t)) W → (W.cell? ⟨w.heap.size, 0, none⟩ = some (.int .u64 0) ∧ W.cell? ⟨w.heap.size, 1, none⟩ = some (.int .u64 0) ∧ W.cell? ⟨w.heap.size, 2, none⟩ = some (.int .i64 0)) ∧ W.frozen? ⟨w.heap.size, 0, none⟩ = false ∧ W.frozen? ⟨w.heap.size, 1, none⟩ = false ∧ W.frozen? ⟨w.heap.size, 2, none⟩ = false := fun W h => by
  have hb : W.heap[w.heap.size]? = some (.cells #[.int .u64 0, .int .u64 0, .int .i64 0] t) := by
    rw [h.block _ (Nat.lt_succ_self _)]; exact Go.Deep.blk_alloc_new _ _
  exact row3 hb
theorem set3_alloc {a w : World} (h : Below a.heap.size a w) {b : Nat} (hb : a.heap.size ≤ b) (x y z : Value) (o : Obj) : Below a.heap.size a ((((w.setCell ⟨b, 0, none⟩ x).setCell ⟨b, 1, none⟩ y).setCell ⟨b, 2, none⟩ z).alloc o) :=
  have hq := ((h.setCell (p := ⟨b, 0, none⟩) hb x).setCell (p := ⟨b, 1, none⟩) hb y).setCell (p := ⟨b, 2, none⟩) hb z
  hq.alloc hq.size o
theorem size_list7 (s : ByteArray) : s.data.toList.length = s.size := Array.length_toList

set_option maxRecDepth 100000 in
set_option maxHeartbeats 2000000 in
theorem rParse_other (s : ByteArray) (HL : Hid ((splitB (hasB [47]) s.data.toList).length ≠ 2)) (w : World) (hs : s.size ≤ 1073741824) :
    Calls Tryz.prog 100 #[.string s] w fun e w' => e = .returned (.tuple #[.agg #[.int .u64 0, .int .u64 0, .int .i64 0], .bool false]) ∧ Below w.heap.size w w' := by
  have HK := Lib.hid (keep_res w 50)
  go_enter Tryz.func100, Tryz.ntmps100
  go_wp2_with fail
  refine (refSplit_any s ⟨#[47]⟩ _ hs (by decide)).mono ?_
  rintro e x1 ⟨v, rfl, hp, hb1'⟩
  have hb1 : Below (w.heap.size + 1) (w.alloc (.cells #[.int .u64 0, .int .u64 0, .int .i64 0] 50)) x1 := hb1'.mono (by simp)
  obtain ⟨g, cap, rfl, hcap, hg, hcell⟩ := hp.form2 (splitB_ne _ _)
  have HL' : Hid (((((splitB (hasB [47]) s.data.toList).length : Nat) : Int) != 2) = true) := by
    show _ = _
    have := HL.out
    have h2 : ((splitB (hasB [47]) s.data.toList).length : Int) ≠ 2 := by omega
    simp [h2]
  have hq : (((((splitB (hasB [47]) s.data.toList).length : Nat) : Int) != 2) = true) := HL'.out
  change (((((splitB (hasB (ByteArray.mk #[47]).data.toList) s.data.toList).length : Nat) : Int) != 2) = true) at hq
  generalize (splitB (hasB (ByteArray.mk #[47]).data.toList) s.data.toList) = ps at *
  clear hcell hp
  obtain ⟨⟨hc0, hc1, hc2⟩, hf0, hf1, hf2⟩ := HK.out _ hb1
  go_wp2
  refine bodyPost_ret (v := .tuple #[.agg #[.int .u64 0, .int .u64 0, .int .i64 0], .bool false]) (by simp [results, Tryz.results100, go_sem, hc0, hc1, hc2]) rfl ⟨rfl, ?_⟩
  exact (((alloc_keeps hb1).setCell (Nat.le_refl _) _).setCell (Nat.le_refl _) _).setCell (Nat.le_refl _) _

set_option maxRecDepth 100000 in
set_option maxHeartbeats 2000000 in
theorem rParse_none (s : ByteArray) (la ld : List UInt8) (HS : Hid (splitB (hasB [47]) s.data.toList = [la, ld])) (HZ : Hid (addrZ la = none)) (w : World) (hs : s.size ≤ 1073741824) :
    Calls Tryz.prog 100 #[.string s] w fun e w' => e = .returned (.tuple #[.agg #[.int .u64 0, .int .u64 0, .int .i64 0], .bool false]) ∧ Below w.heap.size w w' := by
  have HK := Lib.hid (keep_res w 50)
  obtain ⟨hla, hld⟩ : la.length ≤ 1073741824 ∧ ld.length ≤ 1073741824 := by
    rcases sl_parts s.data.toList with g | ⟨x, y, ex, g⟩
    · have := HS.out; rw [sls_none g] at this; simp at this
    · have e2 := size_list7 s
      have := HS.out
      rw [ex, sls_some y g] at this
      obtain ⟨rfl, h2⟩ := List.cons.inj this
      rw [ex, List.length_append, List.length_cons] at e2
      rcases sl_parts y with q | ⟨u, v, rfl, q⟩
      · rw [sls_none q] at h2
        obtain ⟨rfl, _⟩ := List.cons.inj h2
        omega
      · rw [sls_some v q] at h2
        obtain ⟨_, h3⟩ := List.cons.inj h2
        exact absurd h3 (by simp [splitB])
  go_enter Tryz.func100, Tryz.ntmps100
  go_wp2_with fail
  refine (refSplit_any s ⟨#[47]⟩ _ hs (by decide)).mono ?_
  rintro e x1 ⟨v, rfl, hp, hb1'⟩
  have hb1 : Below (w.heap.size + 1) (w.alloc (.cells #[.int .u64 0, .int .u64 0, .int .i64 0] 50)) x1 := hb1'.mono (by simp)
  have hp' : Parts (w.alloc (.cells #[.int .u64 0, .int .u64 0, .int .i64 0] 50)).heap.size x1 v [la, ld] := by rw [← HS.out]; exact hp
  obtain ⟨g, cap, rfl, hcap, hg, hcell⟩ := hp'.form2 (by simp)
  have g0 : x1.cell? ⟨g, 0, none⟩ = some (.string ⟨la.toArray⟩) := hcell 0 (by simp)
  have g1 : x1.cell? ⟨g, 1, none⟩ = some (.string ⟨ld.toArray⟩) := hcell 1 (by simp)
  have hcap2 : 2 ≤ cap := hcap
  clear hcell hp hp' hb1' hcap
  rw [show [la, ld].length = 2 from rfl]
  go_wp2_with fail
  refine (refAddrParse_any ⟨la.toArray⟩ _ (by rw [size_arr]; exact hla)).mono ?_
  rw [list_arr, HZ.out]
  rintro e x2 ⟨rfl, hb2'⟩
  have hb2 := chain_c hb1 hb2'
  have g2 : x2.cell? ⟨g, 1, none⟩ = some (.string ⟨ld.toArray⟩) := (hb2'.cell (p := ⟨g, 1, none⟩) hg).trans g1
  have hg2 : g < x2.heap.size := Nat.lt_of_lt_of_le hg hb2'.size
  clear hb1 hb2' g0 g1 hg
  simp only [refV, refA, Option.isSome]
  have hs2 : w.heap.size < x2.heap.size := by have := hb2.size; simp at this; omega
  obtain ⟨⟨hc0, hc1, hc2⟩, hf0, hf1, hf2⟩ := HK.out _ hb2
  go_wp2
  refine bodyPost_ret (v := .tuple #[.agg #[.int .u64 0, .int .u64 0, .int .i64 0], .bool false]) (by simp [results, Tryz.results100, go_sem, hc0, hc1, hc2, hs2]) rfl ⟨rfl, ?_⟩
  exact set3_alloc (alloc_keeps hb2) (Nat.le_refl _) _ _ _ _

set_option maxRecDepth 100000 in
set_option maxHeartbeats 2000000 in
theorem rParse_four_bad (s : ByteArray) (la ld : List UInt8) (HS : Hid (splitB (hasB [47]) s.data.toList = [la, ld])) (n : Int) (x y : Int) (by' : Bool) (HD0 : Hid (decZ ld 128 = (y, by'))) (HD : Hid (decZ ld 32 = (x, false))) (bx : 0 ≤ x ∧ x ≤ 32) (HZ : Hid (addrZ la = some (.four n))) (w : World) (hs : s.size ≤ 1073741824) :
    Calls Tryz.prog 100 #[.string s] w fun e w' => e = .returned (.tuple #[.agg #[.int .u64 0, .int .u64 0, .int .i64 0], .bool false]) ∧ Below w.heap.size w w' := by
  have HK := Lib.hid (keep_res w 50)
  obtain ⟨hla, hld⟩ : la.length ≤ 1073741824 ∧ ld.length ≤ 1073741824 := by
    rcases sl_parts s.data.toList with g | ⟨x, y, ex, g⟩
    · have := HS.out; rw [sls_none g] at this; simp at this
    · have e2 := size_list7 s
      have := HS.out
      rw [ex, sls_some y g] at this
      obtain ⟨rfl, h2⟩ := List.cons.inj this
      rw [ex, List.length_append, List.length_cons] at e2
      rcases sl_parts y with q | ⟨u, v, rfl, q⟩
      · rw [sls_none q] at h2
        obtain ⟨rfl, _⟩ := List.cons.inj h2
        omega
      · rw [sls_some v q] at h2
        obtain ⟨_, h3⟩ := List.cons.inj h2
        exact absurd h3 (by simp [splitB])
  go_enter Tryz.func100, Tryz.ntmps100
  go_wp2_with fail
  refine (refSplit_any s ⟨#[47]⟩ _ hs (by decide)).mono ?_
  rintro e x1 ⟨v, rfl, hp, hb1'⟩
  have hb1 : Below (w.heap.size + 1) (w.alloc (.cells #[.int .u64 0, .int .u64 0, .int .i64 0] 50)) x1 := hb1'.mono (by simp)
  have hp' : Parts (w.alloc (.cells #[.int .u64 0, .int .u64 0, .int .i64 0] 50)).heap.size x1 v [la, ld] := by rw [← HS.out]; exact hp
  obtain ⟨g, cap, rfl, hcap, hg, hcell⟩ := hp'.form2 (by simp)
  have g0 : x1.cell? ⟨g, 0, none⟩ = some (.string ⟨la.toArray⟩) := hcell 0 (by simp)
  have g1 : x1.cell? ⟨g, 1, none⟩ = some (.string ⟨ld.toArray⟩) := hcell 1 (by simp)
  have hcap2 : 2 ≤ cap := hcap
  clear hcell hp hp' hb1' hcap
  rw [show [la, ld].length = 2 from rfl]
  go_wp2_with fail
  refine (refAddrParse_any ⟨la.toArray⟩ _ (by rw [size_arr]; exact hla)).mono ?_
  rw [list_arr, HZ.out]
  rintro e x2 ⟨rfl, hb2'⟩
  have hb2 := chain_c hb1 hb2'
  have g2 : x2.cell? ⟨g, 1, none⟩ = some (.string ⟨ld.toArray⟩) := (hb2'.cell (p := ⟨g, 1, none⟩) hg).trans g1
  have hg2 : g < x2.heap.size := Nat.lt_of_lt_of_le hg hb2'.size
  clear hb1 hb2' g0 g1 hg
  simp only [refV, refA, Option.isSome]
  have hs2 : w.heap.size < x2.heap.size := by have := hb2.size; simp at this; omega
  have hbA := hb2.alloc (by omega) (Obj.cells #[.bool false, .int .u64 (0), .int .u64 (281470681743360 + n)] 31)
  go_wp2_with fail
  refine (refDecimal_any ⟨ld.toArray⟩ 128 _ (by rw [size_arr]; exact hld) (by omega) (by omega)).mono ?_
  rw [list_arr, HD0.out]
  rintro e x3 ⟨rfl, hb3'⟩
  have hz3 : x2.heap.size < x3.heap.size := by have := hb3'.size; simp at this; omega
  have hA3 : Below (x2.heap.size + 1) (x2.alloc (Obj.cells #[.bool false, .int .u64 (0), .int .u64 (281470681743360 + n)] 31)) x3 := hb3'.mono (by simp)
  obtain ⟨a0, a1, a2⟩ := keep_box x2 _ _ _ _ x3 hA3
  have g3 : x3.cell? ⟨g, 1, none⟩ = some (.string ⟨ld.toArray⟩) := ((alloc_keeps hA3).cell (p := ⟨g, 1, none⟩) hg2).trans g2
  have hb3 := chain_c hbA hb3'
  clear hb2 hbA hb3' g2
  go_wp2_with fail
  refine (refDecimal_any ⟨ld.toArray⟩ 32 _ (by rw [size_arr]; exact hld) (by omega) (by omega)).mono ?_
  rw [list_arr, HD.out]
  rintro e x4 ⟨rfl, hb4'⟩
  have hA4 : Below (x2.heap.size + 1) (x2.alloc (Obj.cells #[.bool false, .int .u64 (0), .int .u64 (281470681743360 + n)] 31)) x4 := chain_c hA3 hb4'
  have hb4 := chain_c hb3 hb4'
  have hz4 : x2.heap.size < x4.heap.size := Nat.lt_of_lt_of_le hz3 hb4'.size
  clear hb3 hb4' a0 a1 a2 g3 hz3
  obtain ⟨a0, a1, a2⟩ := keep_box x2 _ _ _ _ x4 hA4
  clear hA3
  have hs5 : w.heap.size < x4.heap.size := by omega
  obtain ⟨⟨hc0, hc1, hc2⟩, hf0, hf1, hf2⟩ := HK.out _ hb4
  go_wp2
  refine bodyPost_ret (v := .tuple #[.agg #[.int .u64 0, .int .u64 0, .int .i64 0], .bool false]) (by simp [results, Tryz.results100, go_sem, hc0, hc1, hc2, hs5]) rfl ⟨rfl, ?_⟩
  exact set3_alloc (alloc_keeps hb4) (Nat.le_refl _) _ _ _ _

set_option maxRecDepth 100000 in
set_option maxHeartbeats 2000000 in
theorem rParse_four_false (s : ByteArray) (la ld : List UInt8) (HS : Hid (splitB (hasB [47]) s.data.toList = [la, ld])) (n : Int) (x y : Int) (by' : Bool) (HD0 : Hid (decZ ld 128 = (y, by'))) (HD : Hid (decZ ld 32 = (x, true))) (hi lo : Nat) (e1 : (0 : Int) = hi) (e2 : 281470681743360 + n = (lo : Int)) (b1 : hi < 18446744073709551616) (b2 : lo < 18446744073709551616) (bx : 0 ≤ x ∧ x ≤ 32) (HZ : Hid (addrZ la = some (.four n))) (hr : pRightB (wideN hi lo) (96 + x) = false) (w : World) (hs : s.size ≤ 1073741824) :
    Calls Tryz.prog 100 #[.string s] w fun e w' => e = .returned (.tuple #[.agg #[.int .u64 0, .int .u64 0, .int .i64 0], .bool false]) ∧ Below w.heap.size w w' := by
  have HK := Lib.hid (keep_res w 50)
  have HRT : Hid (∀ W, Calls Tryz.prog 62 #[.agg #[.int .u64 (0), .int .u64 (281470681743360 + n), .int .i64 (x + 96)]] W fun e w' => e = .returned (.bool false) ∧ Below W.heap.size W w') := fun W => by
    have := refRight7_any hi lo (96 + x) W b1 b2; rw [hr, ← e1, ← e2] at this; rw [Int.add_comm 96 x] at this; exact this
  clear hr e1 e2
  obtain ⟨hla, hld⟩ : la.length ≤ 1073741824 ∧ ld.length ≤ 1073741824 := by
    rcases sl_parts s.data.toList with g | ⟨x, y, ex, g⟩
    · have := HS.out; rw [sls_none g] at this; simp at this
    · have e2 := size_list7 s
      have := HS.out
      rw [ex, sls_some y g] at this
      obtain ⟨rfl, h2⟩ := List.cons.inj this
      rw [ex, List.length_append, List.length_cons] at e2
      rcases sl_parts y with q | ⟨u, v, rfl, q⟩
      · rw [sls_none q] at h2
        obtain ⟨rfl, _⟩ := List.cons.inj h2
        omega
      · rw [sls_some v q] at h2
        obtain ⟨_, h3⟩ := List.cons.inj h2
        exact absurd h3 (by simp [splitB])
  go_enter Tryz.func100, Tryz.ntmps100
  go_wp2_with fail
  refine (refSplit_any s ⟨#[47]⟩ _ hs (by decide)).mono ?_
  rintro e x1 ⟨v, rfl, hp, hb1'⟩
  have hb1 : Below (w.heap.size + 1) (w.alloc (.cells #[.int .u64 0, .int .u64 0, .int .i64 0] 50)) x1 := hb1'.mono (by simp)
  have hp' : Parts (w.alloc (.cells #[.int .u64 0, .int .u64 0, .int .i64 0] 50)).heap.size x1 v [la, ld] := by rw [← HS.out]; exact hp
  obtain ⟨g, cap, rfl, hcap, hg, hcell⟩ := hp'.form2 (by simp)
  have g0 : x1.cell? ⟨g, 0, none⟩ = some (.string ⟨la.toArray⟩) := hcell 0 (by simp)
  have g1 : x1.cell? ⟨g, 1, none⟩ = some (.string ⟨ld.toArray⟩) := hcell 1 (by simp)
  have hcap2 : 2 ≤ cap := hcap
  clear hcell hp hp' hb1' hcap
  rw [show [la, ld].length = 2 from rfl]
  go_wp2_with fail
  refine (refAddrParse_any ⟨la.toArray⟩ _ (by rw [size_arr]; exact hla)).mono ?_
  rw [list_arr, HZ.out]
  rintro e x2 ⟨rfl, hb2'⟩
  have hb2 := chain_c hb1 hb2'
  have g2 : x2.cell? ⟨g, 1, none⟩ = some (.string ⟨ld.toArray⟩) := (hb2'.cell (p := ⟨g, 1, none⟩) hg).trans g1
  have hg2 : g < x2.heap.size := Nat.lt_of_lt_of_le hg hb2'.size
  clear hb1 hb2' g0 g1 hg
  simp only [refV, refA, Option.isSome]
  have hs2 : w.heap.size < x2.heap.size := by have := hb2.size; simp at this; omega
  have hbA := hb2.alloc (by omega) (Obj.cells #[.bool false, .int .u64 (0), .int .u64 (281470681743360 + n)] 31)
  go_wp2_with fail
  refine (refDecimal_any ⟨ld.toArray⟩ 128 _ (by rw [size_arr]; exact hld) (by omega) (by omega)).mono ?_
  rw [list_arr, HD0.out]
  rintro e x3 ⟨rfl, hb3'⟩
  have hz3 : x2.heap.size < x3.heap.size := by have := hb3'.size; simp at this; omega
  have hA3 : Below (x2.heap.size + 1) (x2.alloc (Obj.cells #[.bool false, .int .u64 (0), .int .u64 (281470681743360 + n)] 31)) x3 := hb3'.mono (by simp)
  obtain ⟨a0, a1, a2⟩ := keep_box x2 _ _ _ _ x3 hA3
  have g3 : x3.cell? ⟨g, 1, none⟩ = some (.string ⟨ld.toArray⟩) := ((alloc_keeps hA3).cell (p := ⟨g, 1, none⟩) hg2).trans g2
  have hb3 := chain_c hbA hb3'
  clear hb2 hbA hb3' g2
  go_wp2_with fail
  refine (refDecimal_any ⟨ld.toArray⟩ 32 _ (by rw [size_arr]; exact hld) (by omega) (by omega)).mono ?_
  rw [list_arr, HD.out]
  rintro e x4 ⟨rfl, hb4'⟩
  have hA4 : Below (x2.heap.size + 1) (x2.alloc (Obj.cells #[.bool false, .int .u64 (0), .int .u64 (281470681743360 + n)] 31)) x4 := chain_c hA3 hb4'
  have hb4 := chain_c hb3 hb4'
  have hz4 : x2.heap.size < x4.heap.size := Nat.lt_of_lt_of_le hz3 hb4'.size
  clear hb3 hb4' a0 a1 a2 g3 hz3
  obtain ⟨a0, a1, a2⟩ := keep_box x2 _ _ _ _ x4 hA4
  clear hA3
  have hs5 : w.heap.size < x4.heap.size := by omega
  have hb6 := hb4.alloc (by omega) (Obj.cells #[.int .u64 (0), .int .u64 (281470681743360 + n), .int .i64 (x + 96)] 50)
  go_wp2_with fail
  refine (HRT.out _).mono ?_
  rintro e x7 ⟨rfl, hb7'⟩
  obtain ⟨d0, d1, d2⟩ := keep_box x4 _ _ _ _ x7 (hb7'.mono (by simp))
  have hb7 := chain_c hb6 hb7'
  clear hb6 hb7' hb4 a0 a1 a2
  obtain ⟨⟨hc0, hc1, hc2⟩, hf0, hf1, hf2⟩ := HK.out _ hb7
  go_wp2
  refine bodyPost_ret (v := .tuple #[.agg #[.int .u64 0, .int .u64 0, .int .i64 0], .bool false]) (by simp [results, Tryz.results100, go_sem, hc0, hc1, hc2]) rfl ⟨rfl, ?_⟩
  exact (((alloc_keeps hb7).setCell (Nat.le_refl _) _).setCell (Nat.le_refl _) _).setCell (Nat.le_refl _) _

set_option maxRecDepth 100000 in
set_option maxHeartbeats 2000000 in
theorem rParse_four_true (s : ByteArray) (la ld : List UInt8) (HS : Hid (splitB (hasB [47]) s.data.toList = [la, ld])) (n : Int) (x y : Int) (by' : Bool) (HD0 : Hid (decZ ld 128 = (y, by'))) (HD : Hid (decZ ld 32 = (x, true))) (hi lo : Nat) (e1 : (0 : Int) = hi) (e2 : 281470681743360 + n = (lo : Int)) (b1 : hi < 18446744073709551616) (b2 : lo < 18446744073709551616) (bx : 0 ≤ x ∧ x ≤ 32) (HZ : Hid (addrZ la = some (.four n))) (hr : pRightB (wideN hi lo) (96 + x) = true) (w : World) (hs : s.size ≤ 1073741824) :
    Calls Tryz.prog 100 #[.string s] w fun e w' => e = .returned (.tuple #[.agg #[.int .u64 (0), .int .u64 (281470681743360 + n), .int .i64 (x + 96)], .bool true]) ∧ Below w.heap.size w w' := by
  have HK := Lib.hid (keep_res w 50)
  have HRT : Hid (∀ W, Calls Tryz.prog 62 #[.agg #[.int .u64 (0), .int .u64 (281470681743360 + n), .int .i64 (x + 96)]] W fun e w' => e = .returned (.bool true) ∧ Below W.heap.size W w') := fun W => by
    have := refRight7_any hi lo (96 + x) W b1 b2; rw [hr, ← e1, ← e2] at this; rw [Int.add_comm 96 x] at this; exact this
  clear hr e1 e2
  obtain ⟨hla, hld⟩ : la.length ≤ 1073741824 ∧ ld.length ≤ 1073741824 := by
    rcases sl_parts s.data.toList with g | ⟨x, y, ex, g⟩
    · have := HS.out; rw [sls_none g] at this; simp at this
    · have e2 := size_list7 s
      have := HS.out
      rw [ex, sls_some y g] at this
      obtain ⟨rfl, h2⟩ := List.cons.inj this
      rw [ex, List.length_append, List.length_cons] at e2
      rcases sl_parts y with q | ⟨u, v, rfl, q⟩
      · rw [sls_none q] at h2
        obtain ⟨rfl, _⟩ := List.cons.inj h2
        omega
      · rw [sls_some v q] at h2
        obtain ⟨_, h3⟩ := List.cons.inj h2
        exact absurd h3 (by simp [splitB])
  go_enter Tryz.func100, Tryz.ntmps100
  go_wp2_with fail
  refine (refSplit_any s ⟨#[47]⟩ _ hs (by decide)).mono ?_
  rintro e x1 ⟨v, rfl, hp, hb1'⟩
  have hb1 : Below (w.heap.size + 1) (w.alloc (.cells #[.int .u64 0, .int .u64 0, .int .i64 0] 50)) x1 := hb1'.mono (by simp)
  have hp' : Parts (w.alloc (.cells #[.int .u64 0, .int .u64 0, .int .i64 0] 50)).heap.size x1 v [la, ld] := by rw [← HS.out]; exact hp
  obtain ⟨g, cap, rfl, hcap, hg, hcell⟩ := hp'.form2 (by simp)
  have g0 : x1.cell? ⟨g, 0, none⟩ = some (.string ⟨la.toArray⟩) := hcell 0 (by simp)
  have g1 : x1.cell? ⟨g, 1, none⟩ = some (.string ⟨ld.toArray⟩) := hcell 1 (by simp)
  have hcap2 : 2 ≤ cap := hcap
  clear hcell hp hp' hb1' hcap
  rw [show [la, ld].length = 2 from rfl]
  go_wp2_with fail
  refine (refAddrParse_any ⟨la.toArray⟩ _ (by rw [size_arr]; exact hla)).mono ?_
  rw [list_arr, HZ.out]
  rintro e x2 ⟨rfl, hb2'⟩
  have hb2 := chain_c hb1 hb2'
  have g2 : x2.cell? ⟨g, 1, none⟩ = some (.string ⟨ld.toArray⟩) := (hb2'.cell (p := ⟨g, 1, none⟩) hg).trans g1
  have hg2 : g < x2.heap.size := Nat.lt_of_lt_of_le hg hb2'.size
  clear hb1 hb2' g0 g1 hg
  simp only [refV, refA, Option.isSome]
  have hs2 : w.heap.size < x2.heap.size := by have := hb2.size; simp at this; omega
  have hbA := hb2.alloc (by omega) (Obj.cells #[.bool false, .int .u64 (0), .int .u64 (281470681743360 + n)] 31)
  go_wp2_with fail
  refine (refDecimal_any ⟨ld.toArray⟩ 128 _ (by rw [size_arr]; exact hld) (by omega) (by omega)).mono ?_
  rw [list_arr, HD0.out]
  rintro e x3 ⟨rfl, hb3'⟩
  have hz3 : x2.heap.size < x3.heap.size := by have := hb3'.size; simp at this; omega
  have hA3 : Below (x2.heap.size + 1) (x2.alloc (Obj.cells #[.bool false, .int .u64 (0), .int .u64 (281470681743360 + n)] 31)) x3 := hb3'.mono (by simp)
  obtain ⟨a0, a1, a2⟩ := keep_box x2 _ _ _ _ x3 hA3
  have g3 : x3.cell? ⟨g, 1, none⟩ = some (.string ⟨ld.toArray⟩) := ((alloc_keeps hA3).cell (p := ⟨g, 1, none⟩) hg2).trans g2
  have hb3 := chain_c hbA hb3'
  clear hb2 hbA hb3' g2
  go_wp2_with fail
  refine (refDecimal_any ⟨ld.toArray⟩ 32 _ (by rw [size_arr]; exact hld) (by omega) (by omega)).mono ?_
  rw [list_arr, HD.out]
  rintro e x4 ⟨rfl, hb4'⟩
  have hA4 : Below (x2.heap.size + 1) (x2.alloc (Obj.cells #[.bool false, .int .u64 (0), .int .u64 (281470681743360 + n)] 31)) x4 := chain_c hA3 hb4'
  have hb4 := chain_c hb3 hb4'
  have hz4 : x2.heap.size < x4.heap.size := Nat.lt_of_lt_of_le hz3 hb4'.size
  clear hb3 hb4' a0 a1 a2 g3 hz3
  obtain ⟨a0, a1, a2⟩ := keep_box x2 _ _ _ _ x4 hA4
  clear hA3
  have hs5 : w.heap.size < x4.heap.size := by omega
  have hb6 := hb4.alloc (by omega) (Obj.cells #[.int .u64 (0), .int .u64 (281470681743360 + n), .int .i64 (x + 96)] 50)
  go_wp2_with fail
  refine (HRT.out _).mono ?_
  rintro e x7 ⟨rfl, hb7'⟩
  obtain ⟨d0, d1, d2⟩ := keep_box x4 _ _ _ _ x7 (hb7'.mono (by simp))
  have hb7 := chain_c hb6 hb7'
  clear hb6 hb7' hb4 a0 a1 a2
  obtain ⟨⟨hc0, hc1, hc2⟩, hf0, hf1, hf2⟩ := HK.out _ hb7
  go_wp2
  refine bodyPost_ret (v := .tuple #[.agg #[.int .u64 (0), .int .u64 (281470681743360 + n), .int .i64 (x + 96)], .bool true]) (by simp [results, Tryz.results100, go_sem, hc0, hc1, hc2]) rfl ⟨rfl, ?_⟩
  exact (((alloc_keeps hb7).setCell (Nat.le_refl _) _).setCell (Nat.le_refl _) _).setCell (Nat.le_refl _) _

set_option maxRecDepth 100000 in
set_option maxHeartbeats 2000000 in
theorem rParse_six_bad (s : ByteArray) (la ld : List UInt8) (HS : Hid (splitB (hasB [47]) s.data.toList = [la, ld])) (ah al : Int) (x : Int) (HD : Hid (decZ ld 128 = (x, false))) (_ : 0 ≤ x ∧ x ≤ 128) (HZ : Hid (addrZ la = some (.six ah al))) (w : World) (hs : s.size ≤ 1073741824) :
    Calls Tryz.prog 100 #[.string s] w fun e w' => e = .returned (.tuple #[.agg #[.int .u64 0, .int .u64 0, .int .i64 0], .bool false]) ∧ Below w.heap.size w w' := by
  have HK := Lib.hid (keep_res w 50)
  obtain ⟨hla, hld⟩ : la.length ≤ 1073741824 ∧ ld.length ≤ 1073741824 := by
    rcases sl_parts s.data.toList with g | ⟨x, y, ex, g⟩
    · have := HS.out; rw [sls_none g] at this; simp at this
    · have e2 := size_list7 s
      have := HS.out
      rw [ex, sls_some y g] at this
      obtain ⟨rfl, h2⟩ := List.cons.inj this
      rw [ex, List.length_append, List.length_cons] at e2
      rcases sl_parts y with q | ⟨u, v, rfl, q⟩
      · rw [sls_none q] at h2
        obtain ⟨rfl, _⟩ := List.cons.inj h2
        omega
      · rw [sls_some v q] at h2
        obtain ⟨_, h3⟩ := List.cons.inj h2
        exact absurd h3 (by simp [splitB])
  go_enter Tryz.func100, Tryz.ntmps100
  go_wp2_with fail
  refine (refSplit_any s ⟨#[47]⟩ _ hs (by decide)).mono ?_
  rintro e x1 ⟨v, rfl, hp, hb1'⟩
  have hb1 : Below (w.heap.size + 1) (w.alloc (.cells #[.int .u64 0, .int .u64 0, .int .i64 0] 50)) x1 := hb1'.mono (by simp)
  have hp' : Parts (w.alloc (.cells #[.int .u64 0, .int .u64 0, .int .i64 0] 50)).heap.size x1 v [la, ld] := by rw [← HS.out]; exact hp
  obtain ⟨g, cap, rfl, hcap, hg, hcell⟩ := hp'.form2 (by simp)
  have g0 : x1.cell? ⟨g, 0, none⟩ = some (.string ⟨la.toArray⟩) := hcell 0 (by simp)
  have g1 : x1.cell? ⟨g, 1, none⟩ = some (.string ⟨ld.toArray⟩) := hcell 1 (by simp)
  have hcap2 : 2 ≤ cap := hcap
  clear hcell hp hp' hb1' hcap
  rw [show [la, ld].length = 2 from rfl]
  go_wp2_with fail
  refine (refAddrParse_any ⟨la.toArray⟩ _ (by rw [size_arr]; exact hla)).mono ?_
  rw [list_arr, HZ.out]
  rintro e x2 ⟨rfl, hb2'⟩
  have hb2 := chain_c hb1 hb2'
  have g2 : x2.cell? ⟨g, 1, none⟩ = some (.string ⟨ld.toArray⟩) := (hb2'.cell (p := ⟨g, 1, none⟩) hg).trans g1
  have hg2 : g < x2.heap.size := Nat.lt_of_lt_of_le hg hb2'.size
  clear hb1 hb2' g0 g1 hg
  simp only [refV, refA, Option.isSome]
  have hs2 : w.heap.size < x2.heap.size := by have := hb2.size; simp at this; omega
  have hbA := hb2.alloc (by omega) (Obj.cells #[.bool true, .int .u64 (ah), .int .u64 (al)] 31)
  go_wp2_with fail
  refine (refDecimal_any ⟨ld.toArray⟩ 128 _ (by rw [size_arr]; exact hld) (by omega) (by omega)).mono ?_
  rw [list_arr, HD.out]
  rintro e x3 ⟨rfl, hb3'⟩
  have hz3 : x2.heap.size < x3.heap.size := by have := hb3'.size; simp at this; omega
  have hA3 : Below (x2.heap.size + 1) (x2.alloc (Obj.cells #[.bool true, .int .u64 (ah), .int .u64 (al)] 31)) x3 := hb3'.mono (by simp)
  obtain ⟨a0, a1, a2⟩ := keep_box x2 _ _ _ _ x3 hA3
  have g3 : x3.cell? ⟨g, 1, none⟩ = some (.string ⟨ld.toArray⟩) := ((alloc_keeps hA3).cell (p := ⟨g, 1, none⟩) hg2).trans g2
  have hb3 := chain_c hbA hb3'
  clear hb2 hbA hb3' g2
  have hs5 : w.heap.size < x3.heap.size := by omega
  obtain ⟨⟨hc0, hc1, hc2⟩, hf0, hf1, hf2⟩ := HK.out _ hb3
  go_wp2
  refine bodyPost_ret (v := .tuple #[.agg #[.int .u64 0, .int .u64 0, .int .i64 0], .bool false]) (by simp [results, Tryz.results100, go_sem, hc0, hc1, hc2, hs5]) rfl ⟨rfl, ?_⟩
  exact set3_alloc (alloc_keeps hb3) (Nat.le_refl _) _ _ _ _

set_option maxRecDepth 100000 in
set_option maxHeartbeats 2000000 in
theorem rParse_six_false (s : ByteArray) (la ld : List UInt8) (HS : Hid (splitB (hasB [47]) s.data.toList = [la, ld])) (ah al : Int) (x : Int) (HD : Hid (decZ ld 128 = (x, true))) (hi lo : Nat) (e1 : (ah : Int) = hi) (e2 : al = (lo : Int)) (b1 : hi < 18446744073709551616) (b2 : lo < 18446744073709551616) (_ : 0 ≤ x ∧ x ≤ 128) (HZ : Hid (addrZ la = some (.six ah al))) (hr : pRightB (wideN hi lo) (0 + x) = false) (w : World) (hs : s.size ≤ 1073741824) :
    Calls Tryz.prog 100 #[.string s] w fun e w' => e = .returned (.tuple #[.agg #[.int .u64 0, .int .u64 0, .int .i64 0], .bool false]) ∧ Below w.heap.size w w' := by
  have HK := Lib.hid (keep_res w 50)
  have HRT : Hid (∀ W, Calls Tryz.prog 62 #[.agg #[.int .u64 (ah), .int .u64 (al), .int .i64 (x)]] W fun e w' => e = .returned (.bool false) ∧ Below W.heap.size W w') := fun W => by
    have := refRight7_any hi lo (0 + x) W b1 b2; rw [hr, ← e1, ← e2] at this; rw [Int.zero_add] at this; exact this
  clear hr e1 e2
  obtain ⟨hla, hld⟩ : la.length ≤ 1073741824 ∧ ld.length ≤ 1073741824 := by
    rcases sl_parts s.data.toList with g | ⟨x, y, ex, g⟩
    · have := HS.out; rw [sls_none g] at this; simp at this
    · have e2 := size_list7 s
      have := HS.out
      rw [ex, sls_some y g] at this
      obtain ⟨rfl, h2⟩ := List.cons.inj this
      rw [ex, List.length_append, List.length_cons] at e2
      rcases sl_parts y with q | ⟨u, v, rfl, q⟩
      · rw [sls_none q] at h2
        obtain ⟨rfl, _⟩ := List.cons.inj h2
        omega
      · rw [sls_some v q] at h2
        obtain ⟨_, h3⟩ := List.cons.inj h2
        exact absurd h3 (by simp [splitB])
  go_enter Tryz.func100, Tryz.ntmps100
  go_wp2_with fail
  refine (refSplit_any s ⟨#[47]⟩ _ hs (by decide)).mono ?_
  rintro e x1 ⟨v, rfl, hp, hb1'⟩
  have hb1 : Below (w.heap.size + 1) (w.alloc (.cells #[.int .u64 0, .int .u64 0, .int .i64 0] 50)) x1 := hb1'.mono (by simp)
  have hp' : Parts (w.alloc (.cells #[.int .u64 0, .int .u64 0, .int .i64 0] 50)).heap.size x1 v [la, ld] := by rw [← HS.out]; exact hp
  obtain ⟨g, cap, rfl, hcap, hg, hcell⟩ := hp'.form2 (by simp)
  have g0 : x1.cell? ⟨g, 0, none⟩ = some (.string ⟨la.toArray⟩) := hcell 0 (by simp)
  have g1 : x1.cell? ⟨g, 1, none⟩ = some (.string ⟨ld.toArray⟩) := hcell 1 (by simp)
  have hcap2 : 2 ≤ cap := hcap
  clear hcell hp hp' hb1' hcap
  rw [show [la, ld].length = 2 from rfl]
  go_wp2_with fail
  refine (refAddrParse_any ⟨la.toArray⟩ _ (by rw [size_arr]; exact hla)).mono ?_
  rw [list_arr, HZ.out]
  rintro e x2 ⟨rfl, hb2'⟩
  have hb2 := chain_c hb1 hb2'
  have g2 : x2.cell? ⟨g, 1, none⟩ = some (.string ⟨ld.toArray⟩) := (hb2'.cell (p := ⟨g, 1, none⟩) hg).trans g1
  have hg2 : g < x2.heap.size := Nat.lt_of_lt_of_le hg hb2'.size
  clear hb1 hb2' g0 g1 hg
  simp only [refV, refA, Option.isSome]
  have hs2 : w.heap.size < x2.heap.size := by have := hb2.size; simp at this; omega
  have hbA := hb2.alloc (by omega) (Obj.cells #[.bool true, .int .u64 (ah), .int .u64 (al)] 31)
  go_wp2_with fail
  refine (refDecimal_any ⟨ld.toArray⟩ 128 _ (by rw [size_arr]; exact hld) (by omega) (by omega)).mono ?_
  rw [list_arr, HD.out]
  rintro e x3 ⟨rfl, hb3'⟩
  have hz3 : x2.heap.size < x3.heap.size := by have := hb3'.size; simp at this; omega
  have hA3 : Below (x2.heap.size + 1) (x2.alloc (Obj.cells #[.bool true, .int .u64 (ah), .int .u64 (al)] 31)) x3 := hb3'.mono (by simp)
  obtain ⟨a0, a1, a2⟩ := keep_box x2 _ _ _ _ x3 hA3
  have g3 : x3.cell? ⟨g, 1, none⟩ = some (.string ⟨ld.toArray⟩) := ((alloc_keeps hA3).cell (p := ⟨g, 1, none⟩) hg2).trans g2
  have hb3 := chain_c hbA hb3'
  clear hb2 hbA hb3' g2
  have hs5 : w.heap.size < x3.heap.size := by omega
  have hb6 := hb3.alloc (by omega) (Obj.cells #[.int .u64 (ah), .int .u64 (al), .int .i64 (x)] 50)
  go_wp2_with fail
  refine (HRT.out _).mono ?_
  rintro e x7 ⟨rfl, hb7'⟩
  obtain ⟨d0, d1, d2⟩ := keep_box x3 _ _ _ _ x7 (hb7'.mono (by simp))
  have hb7 := chain_c hb6 hb7'
  clear hb6 hb7' hb3 a0 a1 a2
  obtain ⟨⟨hc0, hc1, hc2⟩, hf0, hf1, hf2⟩ := HK.out _ hb7
  go_wp2
  refine bodyPost_ret (v := .tuple #[.agg #[.int .u64 0, .int .u64 0, .int .i64 0], .bool false]) (by simp [results, Tryz.results100, go_sem, hc0, hc1, hc2]) rfl ⟨rfl, ?_⟩
  exact (((alloc_keeps hb7).setCell (Nat.le_refl _) _).setCell (Nat.le_refl _) _).setCell (Nat.le_refl _) _

set_option maxRecDepth 100000 in
set_option maxHeartbeats 2000000 in
theorem rParse_six_true (s : ByteArray) (la ld : List UInt8) (HS : Hid (splitB (hasB [47]) s.data.toList = [la, ld])) (ah al : Int) (x : Int) (HD : Hid (decZ ld 128 = (x, true))) (hi lo : Nat) (e1 : (ah : Int) = hi) (e2 : al = (lo : Int)) (b1 : hi < 18446744073709551616) (b2 : lo < 18446744073709551616) (_ : 0 ≤ x ∧ x ≤ 128) (HZ : Hid (addrZ la = some (.six ah al))) (hr : pRightB (wideN hi lo) (0 + x) = true) (w : World) (hs : s.size ≤ 1073741824) :
    Calls Tryz.prog 100 #[.string s] w fun e w' => e = .returned (.tuple #[.agg #[.int .u64 (ah), .int .u64 (al), .int .i64 (x)], .bool true]) ∧ Below w.heap.size w w' := by
  have HK := Lib.hid (keep_res w 50)
  have HRT : Hid (∀ W, Calls Tryz.prog 62 #[.agg #[.int .u64 (ah), .int .u64 (al), .int .i64 (x)]] W fun e w' => e = .returned (.bool true) ∧ Below W.heap.size W w') := fun W => by
    have := refRight7_any hi lo (0 + x) W b1 b2; rw [hr, ← e1, ← e2] at this; rw [Int.zero_add] at this; exact this
  clear hr e1 e2
  obtain ⟨hla, hld⟩ : la.length ≤ 1073741824 ∧ ld.length ≤ 1073741824 := by
    rcases sl_parts s.data.toList with g | ⟨x, y, ex, g⟩
    · have := HS.out; rw [sls_none g] at this; simp at this
    · have e2 := size_list7 s
      have := HS.out
      rw [ex, sls_some y g] at this
      obtain ⟨rfl, h2⟩ := List.cons.inj this
      rw [ex, List.length_append, List.length_cons] at e2
      rcases sl_parts y with q | ⟨u, v, rfl, q⟩
      · rw [sls_none q] at h2
        obtain ⟨rfl, _⟩ := List.cons.inj h2
        omega
      · rw [sls_some v q] at h2
        obtain ⟨_, h3⟩ := List.cons.inj h2
        exact absurd h3 (by simp [splitB])
  go_enter Tryz.func100, Tryz.ntmps100
  go_wp2_with fail
  refine (refSplit_any s ⟨#[47]⟩ _ hs (by decide)).mono ?_
  rintro e x1 ⟨v, rfl, hp, hb1'⟩
  have hb1 : Below (w.heap.size + 1) (w.alloc (.cells #[.int .u64 0, .int .u64 0, .int .i64 0] 50)) x1 := hb1'.mono (by simp)
  have hp' : Parts (w.alloc (.cells #[.int .u64 0, .int .u64 0, .int .i64 0] 50)).heap.size x1 v [la, ld] := by rw [← HS.out]; exact hp
  obtain ⟨g, cap, rfl, hcap, hg, hcell⟩ := hp'.form2 (by simp)
  have g0 : x1.cell? ⟨g, 0, none⟩ = some (.string ⟨la.toArray⟩) := hcell 0 (by simp)
  have g1 : x1.cell? ⟨g, 1, none⟩ = some (.string ⟨ld.toArray⟩) := hcell 1 (by simp)
  have hcap2 : 2 ≤ cap := hcap
  clear hcell hp hp' hb1' hcap
  rw [show [la, ld].length = 2 from rfl]
  go_wp2_with fail
  refine (refAddrParse_any ⟨la.toArray⟩ _ (by rw [size_arr]; exact hla)).mono ?_
  rw [list_arr, HZ.out]
  rintro e x2 ⟨rfl, hb2'⟩
  have hb2 := chain_c hb1 hb2'
  have g2 : x2.cell? ⟨g, 1, none⟩ = some (.string ⟨ld.toArray⟩) := (hb2'.cell (p := ⟨g, 1, none⟩) hg).trans g1
  have hg2 : g < x2.heap.size := Nat.lt_of_lt_of_le hg hb2'.size
  clear hb1 hb2' g0 g1 hg
  simp only [refV, refA, Option.isSome]
  have hs2 : w.heap.size < x2.heap.size := by have := hb2.size; simp at this; omega
  have hbA := hb2.alloc (by omega) (Obj.cells #[.bool true, .int .u64 (ah), .int .u64 (al)] 31)
  go_wp2_with fail
  refine (refDecimal_any ⟨ld.toArray⟩ 128 _ (by rw [size_arr]; exact hld) (by omega) (by omega)).mono ?_
  rw [list_arr, HD.out]
  rintro e x3 ⟨rfl, hb3'⟩
  have hz3 : x2.heap.size < x3.heap.size := by have := hb3'.size; simp at this; omega
  have hA3 : Below (x2.heap.size + 1) (x2.alloc (Obj.cells #[.bool true, .int .u64 (ah), .int .u64 (al)] 31)) x3 := hb3'.mono (by simp)
  obtain ⟨a0, a1, a2⟩ := keep_box x2 _ _ _ _ x3 hA3
  have g3 : x3.cell? ⟨g, 1, none⟩ = some (.string ⟨ld.toArray⟩) := ((alloc_keeps hA3).cell (p := ⟨g, 1, none⟩) hg2).trans g2
  have hb3 := chain_c hbA hb3'
  clear hb2 hbA hb3' g2
  have hs5 : w.heap.size < x3.heap.size := by omega
  have hb6 := hb3.alloc (by omega) (Obj.cells #[.int .u64 (ah), .int .u64 (al), .int .i64 (x)] 50)
  go_wp2_with fail
  refine (HRT.out _).mono ?_
  rintro e x7 ⟨rfl, hb7'⟩
  obtain ⟨d0, d1, d2⟩ := keep_box x3 _ _ _ _ x7 (hb7'.mono (by simp))
  have hb7 := chain_c hb6 hb7'
  clear hb6 hb7' hb3 a0 a1 a2
  obtain ⟨⟨hc0, hc1, hc2⟩, hf0, hf1, hf2⟩ := HK.out _ hb7
  go_wp2
  refine bodyPost_ret (v := .tuple #[.agg #[.int .u64 (ah), .int .u64 (al), .int .i64 (x)], .bool true]) (by simp [results, Tryz.results100, go_sem, hc0, hc1, hc2]) rfl ⟨rfl, ?_⟩
  exact (((alloc_keeps hb7).setCell (Nat.le_refl _) _).setCell (Nat.le_refl _) _).setCell (Nat.le_refl _) _

theorem rParse_any (s : ByteArray) (w : World) (hs : s.size ≤ 1073741824) :
    Calls Tryz.prog 100 #[.string s] w (RetPf w (parseP s.data.toList)) := by
  unfold RetPf
  by_cases h2 : (splitB (hasB [47]) s.data.toList).length = 2
  · obtain ⟨la, ld, hsp⟩ : ∃ a d, splitB (hasB [47]) s.data.toList = [a, d] := by
      match h : splitB (hasB [47]) s.data.toList, h2 with
      | [a, d], _ => exact ⟨a, d, rfl⟩
    rw [parse_two hsp]
    cases hz : addrZ la with
    | none =>
      rw [show prefZ la ld = none from by unfold prefZ; rw [hz]]
      exact rParse_none s la ld hsp hz w hs
    | some z =>
      have ho := addrZ_ok hz
      cases z with
      | four n =>
        obtain ⟨x, bd, hd⟩ : ∃ x b, decZ ld 32 = (x, b) := ⟨_, _, rfl⟩
        obtain ⟨y, b0, hd0⟩ : ∃ x b, decZ ld 128 = (x, b) := ⟨_, _, rfl⟩
        have bx := decZ_bounds ld 32 (by omega)
        rw [hd] at bx
        have hd' : decZ ld (128 - (AZ.four n).ahead) = (x, bd) := hd
        cases bd with
        | false =>
          rw [show prefZ la ld = none from by unfold prefZ; rw [hz]; simp only [hd']; rw [if_neg (by simp)]]
          exact rParse_four_bad s la ld hsp n x y b0 hd0 hd bx hz w hs
        | true =>
          obtain ⟨hi, lo, e1, e2, b1, b2, e3⟩ := AZ.ok_hl ho
          cases hr : pRightB (AZ.four n).wd (96 + x) with
          | false =>
            rw [show prefZ la ld = none from by unfold prefZ; rw [hz]; simp only [hd']; rw [if_neg (by rw [show (AZ.four n).ahead = 96 from rfl, hr]; simp)]]
            rw [e3] at hr
            exact rParse_four_false s la ld hsp n x y b0 hd0 hd hi lo e1 e2 b1 b2 bx hz hr w hs
          | true =>
            rw [show prefZ la ld = some ((AZ.four n).wd, (96 + x).toNat) from by unfold prefZ; rw [hz]; simp only [hd']; rw [if_pos ⟨trivial, by rw [show (AZ.four n).ahead = 96 from rfl, hr]⟩]; rfl]
            rw [e3] at hr ⊢
            have := rParse_four_true s la ld hsp n x y b0 hd0 hd hi lo e1 e2 b1 b2 bx hz hr w hs
            rw [show (0 : Int) = hi from e1, show 281470681743360 + n = (lo : Int) from e2] at this
            have h3 : optP (some (wideN hi lo, (96 + x).toNat)) = .agg #[.int .u64 hi, .int .u64 lo, .int .i64 (x + 96)] := by
              show pfW _ _ = _
              rw [pfW_wide b2, show ((96 + x).toNat : Int) = x + 96 from by omega]; rfl
            rw [h3]
            exact this
      | six ah al =>
        obtain ⟨x, bd, hd⟩ : ∃ x b, decZ ld 128 = (x, b) := ⟨_, _, rfl⟩
        have bx := decZ_bounds ld 128 (by omega)
        rw [hd] at bx
        have hd' : decZ ld (128 - (AZ.six ah al).ahead) = (x, bd) := hd
        cases bd with
        | false =>
          rw [show prefZ la ld = none from by unfold prefZ; rw [hz]; simp only [hd']; rw [if_neg (by simp)]]
          exact rParse_six_bad s la ld hsp ah al x hd bx hz w hs
        | true =>
          obtain ⟨hi, lo, e1, e2, b1, b2, e3⟩ := AZ.ok_hl ho
          cases hr : pRightB (AZ.six ah al).wd (0 + x) with
          | false =>
            rw [show prefZ la ld = none from by unfold prefZ; rw [hz]; simp only [hd']; rw [if_neg (by rw [show (AZ.six ah al).ahead = 0 from rfl, hr]; simp)]]
            rw [e3] at hr
            exact rParse_six_false s la ld hsp ah al x hd hi lo e1 e2 b1 b2 bx hz hr w hs
          | true =>
            rw [show prefZ la ld = some ((AZ.six ah al).wd, (0 + x).toNat) from by unfold prefZ; rw [hz]; simp only [hd']; rw [if_pos ⟨trivial, by rw [show (AZ.six ah al).ahead = 0 from rfl, hr]⟩]; rfl]
            rw [e3] at hr ⊢
            have := rParse_six_true s la ld hsp ah al x hd hi lo e1 e2 b1 b2 bx hz hr w hs
            rw [show ah = (hi : Int) from e1, show al = (lo : Int) from e2] at this
            have h3 : optP (some (wideN hi lo, (0 + x).toNat)) = .agg #[.int .u64 hi, .int .u64 lo, .int .i64 x] := by
              show pfW _ _ = _
              rw [pfW_wide b2, show ((0 + x).toNat : Int) = x from by omega]; rfl
            rw [h3]
            exact this
  · rw [parse_other h2]
    exact rParse_other s h2 w hs
end Go.Proofs.YtoobiaifogackaaGreatDoor
