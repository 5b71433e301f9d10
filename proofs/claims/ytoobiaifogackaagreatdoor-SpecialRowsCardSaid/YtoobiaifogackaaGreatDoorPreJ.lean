/-
  Layer 7: Parse: what it comes to.
-/
import Derived.Test.YtoobiaifogackaaGreatDoorPreI
namespace Go.Proofs.YtoobiaifogackaaGreatDoor
open Go.RowKit


theorem cut_len (l s : List UInt8) : (Lib.cut l s).1.length ≤ l.length ∧ (Lib.cut l s).2.1.length ≤ l.length := by
  unfold Lib.cut
  split
  · exact ⟨by rw [List.length_take]; exact Nat.min_le_right _ _, by rw [List.length_drop]; exact Nat.sub_le _ _⟩
  · exact ⟨Nat.le_refl _, Nat.zero_le _⟩
theorem cut_small {s : ByteArray} {N : Nat} {la ld : List UInt8} {fb : Bool} (hs : s.size ≤ N) (h : Lib.cut s.data.toList [47] = (la, ld, fb)) : la.length ≤ N ∧ ld.length ≤ N := by
  have h1 := cut_len s.data.toList [47]
  rw [h] at h1
  have e : s.data.toList.length = s.size := Array.length_toList
  exact ⟨Nat.le_trans h1.1 (e ▸ hs), Nat.le_trans h1.2 (e ▸ hs)⟩
theorem size_arr (l : List UInt8) : (ByteArray.mk l.toArray).size = l.length := by simp [ByteArray.size]
theorem list_arr (l : List UInt8) : (ByteArray.mk l.toArray).data.toList = l := by simp
theorem chain_c {x y z : World} {n : Nat} (h : Below (n + 1) x y) (k : Below y.heap.size y z) (hn : n + 1 ≤ x.heap.size := by simp) : Below (n + 1) x z := h.trans (k.mono (Nat.le_trans hn h.size))

set_option maxRecDepth 100000 in
set_option maxHeartbeats 2000000 in
theorem pParse_none (s : ByteArray) (la ld : List UInt8) (fb : Bool) (HZ : Hid (addrZ la = none)) (w : World) (hs : s.size ≤ 1073741824) (hmax : MaxVar w) (hcut : Lib.cut s.data.toList [47] = (la, ld, fb)) :
    Calls Tryz.prog 86 #[.string s] w fun e w' => e = .returned (.tuple #[.agg #[.int .u64 0, .int .u64 0, .int .i64 0], .bool false]) ∧ Below w.heap.size w w' := by
  obtain ⟨hla, hld⟩ := cut_small hs hcut
  have HCUT := Lib.hid hcut
  have HX := Lib.hid hmax
  obtain ⟨o, ho⟩ : ∃ o, o = Obj.cells #[.int .u64 0, .int .u64 0, .int .i64 0] 37 := ⟨_, rfl⟩
  have HK : Hid (∀ W, Below (w.heap.size + 1) (w.alloc o) W → (W.cell? ⟨w.heap.size, 0, none⟩ = some (.int .u64 0) ∧ W.cell? ⟨w.heap.size, 1, none⟩ = some (.int .u64 0) ∧ W.cell? ⟨w.heap.size, 2, none⟩ = some (.int .i64 0)) ∧ W.frozen? ⟨w.heap.size, 0, none⟩ = false ∧ W.frozen? ⟨w.heap.size, 1, none⟩ = false ∧ W.frozen? ⟨w.heap.size, 2, none⟩ = false) := fun W h => by
    have hb : W.heap[w.heap.size]? = some (.cells #[.int .u64 0, .int .u64 0, .int .i64 0] 37) := by
      rw [h.block _ (Nat.lt_succ_self _), ho]; exact Go.Deep.blk_alloc_new _ _
    exact row3 hb
  have hb0 : Below (w.heap.size + 1) (w.alloc o) (w.alloc o) := Below.refl _ _
  obtain ⟨m, hm⟩ := maxVar_below HX.out ((Below.refl _ _).alloc (Nat.le_refl _) o)
  have HM := Lib.hid hm
  clear hm hmax hcut
  rw [ho] at HM HK hb0
  clear ho o
  go_enter Tryz.func86, Tryz.ntmps86
  go_wp2_with fail
  refine (Tryz.strings_Cut s ⟨#[47]⟩ m _ (by omega) HM.out).mono ?_
  rw [show (ByteArray.mk #[47]).data.toList = [47] from rfl, HCUT.out]
  rintro e x1 ⟨rfl, k1, rfl⟩
  have hb1 := hb0.trans (drew_n (x := w.alloc (.cells #[.int .u64 0, .int .u64 0, .int .i64 0] 37)) (k := k1))
  generalize (w.alloc (.cells #[.int .u64 0, .int .u64 0, .int .i64 0] 37)).drewN k1 = x1 at *
  go_wp2_with fail
  refine (addrParse_any ⟨la.toArray⟩ _ (by rw [size_arr]; exact hla) (maxVar_below HX.out (alloc_keeps hb1))).mono ?_
  rw [list_arr, HZ.out]
  rintro e x2 ⟨rfl, hb2'⟩
  have hb2 := chain_c hb1 hb2'
  clear hb1 hb2'
  obtain ⟨⟨hc0, hc1, hc2⟩, hf0, hf1, hf2⟩ := HK.out _ hb2
  go_wp2
  refine bodyPost_ret (v := .tuple #[.agg #[.int .u64 0, .int .u64 0, .int .i64 0], .bool false]) (by simp [results, Tryz.results86, go_sem, hc0, hc1, hc2]) rfl ⟨rfl, ?_⟩
  exact (((alloc_keeps hb2).setCell (Nat.le_refl _) _).setCell (Nat.le_refl _) _).setCell (Nat.le_refl _) _

set_option maxRecDepth 100000 in
set_option maxHeartbeats 2000000 in
theorem pParse_four_bad (s : ByteArray) (la ld : List UInt8) (fb : Bool) (n : Int) (x : Int) (HZ : Hid (addrZ la = some (.four n))) (HD : Hid (decZ ld 32 = (x, false))) (w : World) (hs : s.size ≤ 1073741824) (hmax : MaxVar w) (hcut : Lib.cut s.data.toList [47] = (la, ld, fb)) :
    Calls Tryz.prog 86 #[.string s] w fun e w' => e = .returned (.tuple #[.agg #[.int .u64 0, .int .u64 0, .int .i64 0], .bool false]) ∧ Below w.heap.size w w' := by
  obtain ⟨hla, hld⟩ := cut_small hs hcut
  have HCUT := Lib.hid hcut
  have HX := Lib.hid hmax
  obtain ⟨o, ho⟩ : ∃ o, o = Obj.cells #[.int .u64 0, .int .u64 0, .int .i64 0] 37 := ⟨_, rfl⟩
  have HK : Hid (∀ W, Below (w.heap.size + 1) (w.alloc o) W → (W.cell? ⟨w.heap.size, 0, none⟩ = some (.int .u64 0) ∧ W.cell? ⟨w.heap.size, 1, none⟩ = some (.int .u64 0) ∧ W.cell? ⟨w.heap.size, 2, none⟩ = some (.int .i64 0)) ∧ W.frozen? ⟨w.heap.size, 0, none⟩ = false ∧ W.frozen? ⟨w.heap.size, 1, none⟩ = false ∧ W.frozen? ⟨w.heap.size, 2, none⟩ = false) := fun W h => by
    have hb : W.heap[w.heap.size]? = some (.cells #[.int .u64 0, .int .u64 0, .int .i64 0] 37) := by
      rw [h.block _ (Nat.lt_succ_self _), ho]; exact Go.Deep.blk_alloc_new _ _
    exact row3 hb
  have hb0 : Below (w.heap.size + 1) (w.alloc o) (w.alloc o) := Below.refl _ _
  obtain ⟨m, hm⟩ := maxVar_below HX.out ((Below.refl _ _).alloc (Nat.le_refl _) o)
  have HM := Lib.hid hm
  clear hm hmax hcut
  rw [ho] at HM HK hb0
  clear ho o
  go_enter Tryz.func86, Tryz.ntmps86
  go_wp2_with fail
  refine (Tryz.strings_Cut s ⟨#[47]⟩ m _ (by omega) HM.out).mono ?_
  rw [show (ByteArray.mk #[47]).data.toList = [47] from rfl, HCUT.out]
  rintro e x1 ⟨rfl, k1, rfl⟩
  have hb1 := hb0.trans (drew_n (x := w.alloc (.cells #[.int .u64 0, .int .u64 0, .int .i64 0] 37)) (k := k1))
  generalize (w.alloc (.cells #[.int .u64 0, .int .u64 0, .int .i64 0] 37)).drewN k1 = x1 at *
  go_wp2_with fail
  refine (addrParse_any ⟨la.toArray⟩ _ (by rw [size_arr]; exact hla) (maxVar_below HX.out (alloc_keeps hb1))).mono ?_
  rw [list_arr, HZ.out]
  rintro e x2 ⟨rfl, hb2'⟩
  have hb2 := chain_c hb1 hb2'
  clear hb1 hb2'
  simp only [optV, AZ.val, Option.isSome]
  go_wp2_with fail
  refine (fourA_four n _).mono ?_
  rintro e x3 ⟨rfl, rfl⟩
  go_wp2_with fail
  refine (decimal_any ⟨ld.toArray⟩ 32 _ (by rw [size_arr]; exact hld) (by omega) (by omega)).mono ?_
  rw [list_arr, HD.out]
  rintro e x4 ⟨rfl, hb4'⟩
  have hb4 := chain_c hb2 hb4'
  clear hb2 hb4'
  obtain ⟨⟨hc0, hc1, hc2⟩, hf0, hf1, hf2⟩ := HK.out _ hb4
  go_wp2
  refine bodyPost_ret (v := .tuple #[.agg #[.int .u64 0, .int .u64 0, .int .i64 0], .bool false]) (by simp [results, Tryz.results86, go_sem, hc0, hc1, hc2]) rfl ⟨rfl, ?_⟩
  exact (((alloc_keeps hb4).setCell (Nat.le_refl _) _).setCell (Nat.le_refl _) _).setCell (Nat.le_refl _) _

set_option maxRecDepth 100000 in
set_option maxHeartbeats 2000000 in
theorem pParse_four_false (s : ByteArray) (la ld : List UInt8) (fb : Bool) (n : Int) (ho : (AZ.four n).Ok) (hi lo : Nat) (x : Int) (e1 : (0 : Int) = hi) (e2 : 281470681743360 + n = (lo : Int)) (b1 : hi < 18446744073709551616) (b2 : lo < 18446744073709551616) (bx : 0 ≤ x ∧ x ≤ 32) (HZ : Hid (addrZ la = some (.four n))) (HD : Hid (decZ ld 32 = (x, true))) (hr : pRightB (wideN hi lo) (96 + x) = false) (w : World) (hs : s.size ≤ 1073741824) (hmax : MaxVar w) (hcut : Lib.cut s.data.toList [47] = (la, ld, fb)) :
    Calls Tryz.prog 86 #[.string s] w fun e w' => e = .returned (.tuple #[.agg #[.int .u64 0, .int .u64 0, .int .i64 0], .bool false]) ∧ Below w.heap.size w w' := by
  obtain ⟨hla, hld⟩ := cut_small hs hcut
  have hma : ∀ w : World, (method 379 92 (.int .u32 n) "Wide").run Tryz.prog w = .ok (45, (.int .u32 n)) w := fun _ => by kernel_rfl
  have HRT : Hid (∀ W, Calls Tryz.prog 25 #[.agg #[.int .u64 (0), .int .u64 (281470681743360 + n), .int .i64 (96 + x)]] W fun e w' => e = .returned (.bool false) ∧ Below W.heap.size W w') := fun W => by
    have := pRight_any hi lo (96 + x) W b1 b2; rw [hr, ← e1, ← e2] at this; exact this
  clear hr e1 e2
  have HCUT := Lib.hid hcut
  have HX := Lib.hid hmax
  obtain ⟨o, ho⟩ : ∃ o, o = Obj.cells #[.int .u64 0, .int .u64 0, .int .i64 0] 37 := ⟨_, rfl⟩
  have HK : Hid (∀ W, Below (w.heap.size + 1) (w.alloc o) W → (W.cell? ⟨w.heap.size, 0, none⟩ = some (.int .u64 0) ∧ W.cell? ⟨w.heap.size, 1, none⟩ = some (.int .u64 0) ∧ W.cell? ⟨w.heap.size, 2, none⟩ = some (.int .i64 0)) ∧ W.frozen? ⟨w.heap.size, 0, none⟩ = false ∧ W.frozen? ⟨w.heap.size, 1, none⟩ = false ∧ W.frozen? ⟨w.heap.size, 2, none⟩ = false) := fun W h => by
    have hb : W.heap[w.heap.size]? = some (.cells #[.int .u64 0, .int .u64 0, .int .i64 0] 37) := by
      rw [h.block _ (Nat.lt_succ_self _), ho]; exact Go.Deep.blk_alloc_new _ _
    exact row3 hb
  have hb0 : Below (w.heap.size + 1) (w.alloc o) (w.alloc o) := Below.refl _ _
  obtain ⟨m, hm⟩ := maxVar_below HX.out ((Below.refl _ _).alloc (Nat.le_refl _) o)
  have HM := Lib.hid hm
  clear hm hmax hcut
  rw [ho] at HM HK hb0
  clear ho o
  go_enter Tryz.func86, Tryz.ntmps86
  go_wp2_with fail
  refine (Tryz.strings_Cut s ⟨#[47]⟩ m _ (by omega) HM.out).mono ?_
  rw [show (ByteArray.mk #[47]).data.toList = [47] from rfl, HCUT.out]
  rintro e x1 ⟨rfl, k1, rfl⟩
  have hb1 := hb0.trans (drew_n (x := w.alloc (.cells #[.int .u64 0, .int .u64 0, .int .i64 0] 37)) (k := k1))
  generalize (w.alloc (.cells #[.int .u64 0, .int .u64 0, .int .i64 0] 37)).drewN k1 = x1 at *
  go_wp2_with fail
  refine (addrParse_any ⟨la.toArray⟩ _ (by rw [size_arr]; exact hla) (maxVar_below HX.out (alloc_keeps hb1))).mono ?_
  rw [list_arr, HZ.out]
  rintro e x2 ⟨rfl, hb2'⟩
  have hb2 := chain_c hb1 hb2'
  clear hb1 hb2'
  simp only [optV, AZ.val, Option.isSome]
  go_wp2_with fail
  refine (fourA_four n _).mono ?_
  rintro e x3 ⟨rfl, rfl⟩
  go_wp2_with fail
  refine (decimal_any ⟨ld.toArray⟩ 32 _ (by rw [size_arr]; exact hld) (by omega) (by omega)).mono ?_
  rw [list_arr, HD.out]
  rintro e x4 ⟨rfl, hb4'⟩
  have hb4 := chain_c hb2 hb4'
  clear hb2 hb4'
  go_wp2_with fail
  refine (wide_any n _ ho.1 ho.2).mono ?_
  rintro e x5 ⟨rfl, rfl⟩
  have hb5 := hb4
  clear hb4
  have hs5 : w.heap.size < x4.heap.size := by have := hb5.size; simp at this; omega
  have hb6 := hb5.alloc (by omega) (Obj.cells #[.int .u64 (0), .int .u64 (281470681743360 + n), .int .i64 (96 + x)] 37)
  go_wp2_with fail
  refine (HRT.out _).mono ?_
  rintro e x7 ⟨rfl, hb7'⟩
  obtain ⟨d0, d1, d2⟩ := keep_box x4 _ _ _ _ x7 (hb7'.mono (by simp))
  have hb7 := chain_c hb6 hb7'
  clear hb6 hb7' hb5
  obtain ⟨⟨hc0, hc1, hc2⟩, hf0, hf1, hf2⟩ := HK.out _ hb7
  go_wp2
  refine bodyPost_ret (v := .tuple #[.agg #[.int .u64 0, .int .u64 0, .int .i64 0], .bool false]) (by simp [results, Tryz.results86, go_sem, hc0, hc1, hc2]) rfl ⟨rfl, ?_⟩
  exact (((alloc_keeps hb7).setCell (Nat.le_refl _) _).setCell (Nat.le_refl _) _).setCell (Nat.le_refl _) _

set_option maxRecDepth 100000 in
set_option maxHeartbeats 2000000 in
theorem pParse_four_true (s : ByteArray) (la ld : List UInt8) (fb : Bool) (n : Int) (ho : (AZ.four n).Ok) (hi lo : Nat) (x : Int) (e1 : (0 : Int) = hi) (e2 : 281470681743360 + n = (lo : Int)) (b1 : hi < 18446744073709551616) (b2 : lo < 18446744073709551616) (bx : 0 ≤ x ∧ x ≤ 32) (HZ : Hid (addrZ la = some (.four n))) (HD : Hid (decZ ld 32 = (x, true))) (hr : pRightB (wideN hi lo) (96 + x) = true) (w : World) (hs : s.size ≤ 1073741824) (hmax : MaxVar w) (hcut : Lib.cut s.data.toList [47] = (la, ld, fb)) :
    Calls Tryz.prog 86 #[.string s] w fun e w' => e = .returned (.tuple #[.agg #[.int .u64 (0), .int .u64 (281470681743360 + n), .int .i64 (96 + x)], .bool true]) ∧ Below w.heap.size w w' := by
  obtain ⟨hla, hld⟩ := cut_small hs hcut
  have hma : ∀ w : World, (method 379 92 (.int .u32 n) "Wide").run Tryz.prog w = .ok (45, (.int .u32 n)) w := fun _ => by kernel_rfl
  have HRT : Hid (∀ W, Calls Tryz.prog 25 #[.agg #[.int .u64 (0), .int .u64 (281470681743360 + n), .int .i64 (96 + x)]] W fun e w' => e = .returned (.bool true) ∧ Below W.heap.size W w') := fun W => by
    have := pRight_any hi lo (96 + x) W b1 b2; rw [hr, ← e1, ← e2] at this; exact this
  clear hr e1 e2
  have HCUT := Lib.hid hcut
  have HX := Lib.hid hmax
  obtain ⟨o, ho⟩ : ∃ o, o = Obj.cells #[.int .u64 0, .int .u64 0, .int .i64 0] 37 := ⟨_, rfl⟩
  have HK : Hid (∀ W, Below (w.heap.size + 1) (w.alloc o) W → (W.cell? ⟨w.heap.size, 0, none⟩ = some (.int .u64 0) ∧ W.cell? ⟨w.heap.size, 1, none⟩ = some (.int .u64 0) ∧ W.cell? ⟨w.heap.size, 2, none⟩ = some (.int .i64 0)) ∧ W.frozen? ⟨w.heap.size, 0, none⟩ = false ∧ W.frozen? ⟨w.heap.size, 1, none⟩ = false ∧ W.frozen? ⟨w.heap.size, 2, none⟩ = false) := fun W h => by
    have hb : W.heap[w.heap.size]? = some (.cells #[.int .u64 0, .int .u64 0, .int .i64 0] 37) := by
      rw [h.block _ (Nat.lt_succ_self _), ho]; exact Go.Deep.blk_alloc_new _ _
    exact row3 hb
  have hb0 : Below (w.heap.size + 1) (w.alloc o) (w.alloc o) := Below.refl _ _
  obtain ⟨m, hm⟩ := maxVar_below HX.out ((Below.refl _ _).alloc (Nat.le_refl _) o)
  have HM := Lib.hid hm
  clear hm hmax hcut
  rw [ho] at HM HK hb0
  clear ho o
  go_enter Tryz.func86, Tryz.ntmps86
  go_wp2_with fail
  refine (Tryz.strings_Cut s ⟨#[47]⟩ m _ (by omega) HM.out).mono ?_
  rw [show (ByteArray.mk #[47]).data.toList = [47] from rfl, HCUT.out]
  rintro e x1 ⟨rfl, k1, rfl⟩
  have hb1 := hb0.trans (drew_n (x := w.alloc (.cells #[.int .u64 0, .int .u64 0, .int .i64 0] 37)) (k := k1))
  generalize (w.alloc (.cells #[.int .u64 0, .int .u64 0, .int .i64 0] 37)).drewN k1 = x1 at *
  go_wp2_with fail
  refine (addrParse_any ⟨la.toArray⟩ _ (by rw [size_arr]; exact hla) (maxVar_below HX.out (alloc_keeps hb1))).mono ?_
  rw [list_arr, HZ.out]
  rintro e x2 ⟨rfl, hb2'⟩
  have hb2 := chain_c hb1 hb2'
  clear hb1 hb2'
  simp only [optV, AZ.val, Option.isSome]
  go_wp2_with fail
  refine (fourA_four n _).mono ?_
  rintro e x3 ⟨rfl, rfl⟩
  go_wp2_with fail
  refine (decimal_any ⟨ld.toArray⟩ 32 _ (by rw [size_arr]; exact hld) (by omega) (by omega)).mono ?_
  rw [list_arr, HD.out]
  rintro e x4 ⟨rfl, hb4'⟩
  have hb4 := chain_c hb2 hb4'
  clear hb2 hb4'
  go_wp2_with fail
  refine (wide_any n _ ho.1 ho.2).mono ?_
  rintro e x5 ⟨rfl, rfl⟩
  have hb5 := hb4
  clear hb4
  have hs5 : w.heap.size < x4.heap.size := by have := hb5.size; simp at this; omega
  have hb6 := hb5.alloc (by omega) (Obj.cells #[.int .u64 (0), .int .u64 (281470681743360 + n), .int .i64 (96 + x)] 37)
  go_wp2_with fail
  refine (HRT.out _).mono ?_
  rintro e x7 ⟨rfl, hb7'⟩
  obtain ⟨d0, d1, d2⟩ := keep_box x4 _ _ _ _ x7 (hb7'.mono (by simp))
  have hb7 := chain_c hb6 hb7'
  clear hb6 hb7' hb5
  obtain ⟨⟨hc0, hc1, hc2⟩, hf0, hf1, hf2⟩ := HK.out _ hb7
  go_wp2
  refine bodyPost_ret (v := .tuple #[.agg #[.int .u64 (0), .int .u64 (281470681743360 + n), .int .i64 (96 + x)], .bool true]) (by simp [results, Tryz.results86, go_sem, hc0, hc1, hc2]) rfl ⟨rfl, ?_⟩
  exact (((alloc_keeps hb7).setCell (Nat.le_refl _) _).setCell (Nat.le_refl _) _).setCell (Nat.le_refl _) _

set_option maxRecDepth 100000 in
set_option maxHeartbeats 2000000 in
theorem pParse_six_bad (s : ByteArray) (la ld : List UInt8) (fb : Bool) (ah al : Int) (x : Int) (HZ : Hid (addrZ la = some (.six ah al))) (HD : Hid (decZ ld 128 = (x, false))) (w : World) (hs : s.size ≤ 1073741824) (hmax : MaxVar w) (hcut : Lib.cut s.data.toList [47] = (la, ld, fb)) :
    Calls Tryz.prog 86 #[.string s] w fun e w' => e = .returned (.tuple #[.agg #[.int .u64 0, .int .u64 0, .int .i64 0], .bool false]) ∧ Below w.heap.size w w' := by
  obtain ⟨hla, hld⟩ := cut_small hs hcut
  have HCUT := Lib.hid hcut
  have HX := Lib.hid hmax
  obtain ⟨o, ho⟩ : ∃ o, o = Obj.cells #[.int .u64 0, .int .u64 0, .int .i64 0] 37 := ⟨_, rfl⟩
  have HK : Hid (∀ W, Below (w.heap.size + 1) (w.alloc o) W → (W.cell? ⟨w.heap.size, 0, none⟩ = some (.int .u64 0) ∧ W.cell? ⟨w.heap.size, 1, none⟩ = some (.int .u64 0) ∧ W.cell? ⟨w.heap.size, 2, none⟩ = some (.int .i64 0)) ∧ W.frozen? ⟨w.heap.size, 0, none⟩ = false ∧ W.frozen? ⟨w.heap.size, 1, none⟩ = false ∧ W.frozen? ⟨w.heap.size, 2, none⟩ = false) := fun W h => by
    have hb : W.heap[w.heap.size]? = some (.cells #[.int .u64 0, .int .u64 0, .int .i64 0] 37) := by
      rw [h.block _ (Nat.lt_succ_self _), ho]; exact Go.Deep.blk_alloc_new _ _
    exact row3 hb
  have hb0 : Below (w.heap.size + 1) (w.alloc o) (w.alloc o) := Below.refl _ _
  obtain ⟨m, hm⟩ := maxVar_below HX.out ((Below.refl _ _).alloc (Nat.le_refl _) o)
  have HM := Lib.hid hm
  clear hm hmax hcut
  rw [ho] at HM HK hb0
  clear ho o
  go_enter Tryz.func86, Tryz.ntmps86
  go_wp2_with fail
  refine (Tryz.strings_Cut s ⟨#[47]⟩ m _ (by omega) HM.out).mono ?_
  rw [show (ByteArray.mk #[47]).data.toList = [47] from rfl, HCUT.out]
  rintro e x1 ⟨rfl, k1, rfl⟩
  have hb1 := hb0.trans (drew_n (x := w.alloc (.cells #[.int .u64 0, .int .u64 0, .int .i64 0] 37)) (k := k1))
  generalize (w.alloc (.cells #[.int .u64 0, .int .u64 0, .int .i64 0] 37)).drewN k1 = x1 at *
  go_wp2_with fail
  refine (addrParse_any ⟨la.toArray⟩ _ (by rw [size_arr]; exact hla) (maxVar_below HX.out (alloc_keeps hb1))).mono ?_
  rw [list_arr, HZ.out]
  rintro e x2 ⟨rfl, hb2'⟩
  have hb2 := chain_c hb1 hb2'
  clear hb1 hb2'
  simp only [optV, AZ.val, Option.isSome]
  go_wp2_with fail
  refine (fourA_six ah al _).mono ?_
  rintro e x3 ⟨rfl, rfl⟩
  go_wp2_with fail
  refine (decimal_any ⟨ld.toArray⟩ 128 _ (by rw [size_arr]; exact hld) (by omega) (by omega)).mono ?_
  rw [list_arr, HD.out]
  rintro e x4 ⟨rfl, hb4'⟩
  have hb4 := chain_c hb2 hb4'
  clear hb2 hb4'
  obtain ⟨⟨hc0, hc1, hc2⟩, hf0, hf1, hf2⟩ := HK.out _ hb4
  go_wp2
  refine bodyPost_ret (v := .tuple #[.agg #[.int .u64 0, .int .u64 0, .int .i64 0], .bool false]) (by simp [results, Tryz.results86, go_sem, hc0, hc1, hc2]) rfl ⟨rfl, ?_⟩
  exact (((alloc_keeps hb4).setCell (Nat.le_refl _) _).setCell (Nat.le_refl _) _).setCell (Nat.le_refl _) _

set_option maxRecDepth 100000 in
set_option maxHeartbeats 2000000 in
theorem pParse_six_false (s : ByteArray) (la ld : List UInt8) (fb : Bool) (ah al : Int) (_ : (AZ.six ah al).Ok) (hi lo : Nat) (x : Int) (e1 : (ah : Int) = hi) (e2 : al = (lo : Int)) (b1 : hi < 18446744073709551616) (b2 : lo < 18446744073709551616) (bx : 0 ≤ x ∧ x ≤ 128) (HZ : Hid (addrZ la = some (.six ah al))) (HD : Hid (decZ ld 128 = (x, true))) (hr : pRightB (wideN hi lo) (0 + x) = false) (w : World) (hs : s.size ≤ 1073741824) (hmax : MaxVar w) (hcut : Lib.cut s.data.toList [47] = (la, ld, fb)) :
    Calls Tryz.prog 86 #[.string s] w fun e w' => e = .returned (.tuple #[.agg #[.int .u64 0, .int .u64 0, .int .i64 0], .bool false]) ∧ Below w.heap.size w w' := by
  obtain ⟨hla, hld⟩ := cut_small hs hcut
  have hma : ∀ w : World, (method 379 96 (.agg #[.int .u64 ah, .int .u64 al]) "Wide").run Tryz.prog w = .ok (81, (.agg #[.int .u64 ah, .int .u64 al])) w := fun _ => by kernel_rfl
  have HRT : Hid (∀ W, Calls Tryz.prog 25 #[.agg #[.int .u64 (ah), .int .u64 (al), .int .i64 (x)]] W fun e w' => e = .returned (.bool false) ∧ Below W.heap.size W w') := fun W => by
    have := pRight_any hi lo (0 + x) W b1 b2; rw [hr, ← e1, ← e2] at this; rw [Int.zero_add] at this; exact this
  clear hr e1 e2
  have HCUT := Lib.hid hcut
  have HX := Lib.hid hmax
  obtain ⟨o, ho⟩ : ∃ o, o = Obj.cells #[.int .u64 0, .int .u64 0, .int .i64 0] 37 := ⟨_, rfl⟩
  have HK : Hid (∀ W, Below (w.heap.size + 1) (w.alloc o) W → (W.cell? ⟨w.heap.size, 0, none⟩ = some (.int .u64 0) ∧ W.cell? ⟨w.heap.size, 1, none⟩ = some (.int .u64 0) ∧ W.cell? ⟨w.heap.size, 2, none⟩ = some (.int .i64 0)) ∧ W.frozen? ⟨w.heap.size, 0, none⟩ = false ∧ W.frozen? ⟨w.heap.size, 1, none⟩ = false ∧ W.frozen? ⟨w.heap.size, 2, none⟩ = false) := fun W h => by
    have hb : W.heap[w.heap.size]? = some (.cells #[.int .u64 0, .int .u64 0, .int .i64 0] 37) := by
      rw [h.block _ (Nat.lt_succ_self _), ho]; exact Go.Deep.blk_alloc_new _ _
    exact row3 hb
  have hb0 : Below (w.heap.size + 1) (w.alloc o) (w.alloc o) := Below.refl _ _
  obtain ⟨m, hm⟩ := maxVar_below HX.out ((Below.refl _ _).alloc (Nat.le_refl _) o)
  have HM := Lib.hid hm
  clear hm hmax hcut
  rw [ho] at HM HK hb0
  clear ho o
  go_enter Tryz.func86, Tryz.ntmps86
  go_wp2_with fail
  refine (Tryz.strings_Cut s ⟨#[47]⟩ m _ (by omega) HM.out).mono ?_
  rw [show (ByteArray.mk #[47]).data.toList = [47] from rfl, HCUT.out]
  rintro e x1 ⟨rfl, k1, rfl⟩
  have hb1 := hb0.trans (drew_n (x := w.alloc (.cells #[.int .u64 0, .int .u64 0, .int .i64 0] 37)) (k := k1))
  generalize (w.alloc (.cells #[.int .u64 0, .int .u64 0, .int .i64 0] 37)).drewN k1 = x1 at *
  go_wp2_with fail
  refine (addrParse_any ⟨la.toArray⟩ _ (by rw [size_arr]; exact hla) (maxVar_below HX.out (alloc_keeps hb1))).mono ?_
  rw [list_arr, HZ.out]
  rintro e x2 ⟨rfl, hb2'⟩
  have hb2 := chain_c hb1 hb2'
  clear hb1 hb2'
  simp only [optV, AZ.val, Option.isSome]
  go_wp2_with fail
  refine (fourA_six ah al _).mono ?_
  rintro e x3 ⟨rfl, rfl⟩
  go_wp2_with fail
  refine (decimal_any ⟨ld.toArray⟩ 128 _ (by rw [size_arr]; exact hld) (by omega) (by omega)).mono ?_
  rw [list_arr, HD.out]
  rintro e x4 ⟨rfl, hb4'⟩
  have hb4 := chain_c hb2 hb4'
  clear hb2 hb4'
  go_wp2_with fail
  refine (wide6_any ah al _).mono ?_
  rintro e x5 ⟨rfl, hb5'⟩
  have hb5 := chain_c hb4 hb5'
  clear hb4 hb5'
  have hs5 : w.heap.size < x5.heap.size := by have := hb5.size; simp at this; omega
  have hb6 := hb5.alloc (by omega) (Obj.cells #[.int .u64 (ah), .int .u64 (al), .int .i64 (x)] 37)
  go_wp2_with fail
  refine (HRT.out _).mono ?_
  rintro e x7 ⟨rfl, hb7'⟩
  obtain ⟨d0, d1, d2⟩ := keep_box x5 _ _ _ _ x7 (hb7'.mono (by simp))
  have hb7 := chain_c hb6 hb7'
  clear hb6 hb7' hb5
  obtain ⟨⟨hc0, hc1, hc2⟩, hf0, hf1, hf2⟩ := HK.out _ hb7
  go_wp2
  refine bodyPost_ret (v := .tuple #[.agg #[.int .u64 0, .int .u64 0, .int .i64 0], .bool false]) (by simp [results, Tryz.results86, go_sem, hc0, hc1, hc2]) rfl ⟨rfl, ?_⟩
  exact (((alloc_keeps hb7).setCell (Nat.le_refl _) _).setCell (Nat.le_refl _) _).setCell (Nat.le_refl _) _

set_option maxRecDepth 100000 in
set_option maxHeartbeats 2000000 in
theorem pParse_six_true (s : ByteArray) (la ld : List UInt8) (fb : Bool) (ah al : Int) (_ : (AZ.six ah al).Ok) (hi lo : Nat) (x : Int) (e1 : (ah : Int) = hi) (e2 : al = (lo : Int)) (b1 : hi < 18446744073709551616) (b2 : lo < 18446744073709551616) (bx : 0 ≤ x ∧ x ≤ 128) (HZ : Hid (addrZ la = some (.six ah al))) (HD : Hid (decZ ld 128 = (x, true))) (hr : pRightB (wideN hi lo) (0 + x) = true) (w : World) (hs : s.size ≤ 1073741824) (hmax : MaxVar w) (hcut : Lib.cut s.data.toList [47] = (la, ld, fb)) :
    Calls Tryz.prog 86 #[.string s] w fun e w' => e = .returned (.tuple #[.agg #[.int .u64 (ah), .int .u64 (al), .int .i64 (x)], .bool true]) ∧ Below w.heap.size w w' := by
  obtain ⟨hla, hld⟩ := cut_small hs hcut
  have hma : ∀ w : World, (method 379 96 (.agg #[.int .u64 ah, .int .u64 al]) "Wide").run Tryz.prog w = .ok (81, (.agg #[.int .u64 ah, .int .u64 al])) w := fun _ => by kernel_rfl
  have HRT : Hid (∀ W, Calls Tryz.prog 25 #[.agg #[.int .u64 (ah), .int .u64 (al), .int .i64 (x)]] W fun e w' => e = .returned (.bool true) ∧ Below W.heap.size W w') := fun W => by
    have := pRight_any hi lo (0 + x) W b1 b2; rw [hr, ← e1, ← e2] at this; rw [Int.zero_add] at this; exact this
  clear hr e1 e2
  have HCUT := Lib.hid hcut
  have HX := Lib.hid hmax
  obtain ⟨o, ho⟩ : ∃ o, o = Obj.cells #[.int .u64 0, .int .u64 0, .int .i64 0] 37 := ⟨_, rfl⟩
  have HK : Hid (∀ W, Below (w.heap.size + 1) (w.alloc o) W → (W.cell? ⟨w.heap.size, 0, none⟩ = some (.int .u64 0) ∧ W.cell? ⟨w.heap.size, 1, none⟩ = some (.int .u64 0) ∧ W.cell? ⟨w.heap.size, 2, none⟩ = some (.int .i64 0)) ∧ W.frozen? ⟨w.heap.size, 0, none⟩ = false ∧ W.frozen? ⟨w.heap.size, 1, none⟩ = false ∧ W.frozen? ⟨w.heap.size, 2, none⟩ = false) := fun W h => by
    have hb : W.heap[w.heap.size]? = some (.cells #[.int .u64 0, .int .u64 0, .int .i64 0] 37) := by
      rw [h.block _ (Nat.lt_succ_self _), ho]; exact Go.Deep.blk_alloc_new _ _
    exact row3 hb
  have hb0 : Below (w.heap.size + 1) (w.alloc o) (w.alloc o) := Below.refl _ _
  obtain ⟨m, hm⟩ := maxVar_below HX.out ((Below.refl _ _).alloc (Nat.le_refl _) o)
  have HM := Lib.hid hm
  clear hm hmax hcut
  rw [ho] at HM HK hb0
  clear ho o
  go_enter Tryz.func86, Tryz.ntmps86
  go_wp2_with fail
  refine (Tryz.strings_Cut s ⟨#[47]⟩ m _ (by omega) HM.out).mono ?_
  rw [show (ByteArray.mk #[47]).data.toList = [47] from rfl, HCUT.out]
  rintro e x1 ⟨rfl, k1, rfl⟩
  have hb1 := hb0.trans (drew_n (x := w.alloc (.cells #[.int .u64 0, .int .u64 0, .int .i64 0] 37)) (k := k1))
  generalize (w.alloc (.cells #[.int .u64 0, .int .u64 0, .int .i64 0] 37)).drewN k1 = x1 at *
  go_wp2_with fail
  refine (addrParse_any ⟨la.toArray⟩ _ (by rw [size_arr]; exact hla) (maxVar_below HX.out (alloc_keeps hb1))).mono ?_
  rw [list_arr, HZ.out]
  rintro e x2 ⟨rfl, hb2'⟩
  have hb2 := chain_c hb1 hb2'
  clear hb1 hb2'
  simp only [optV, AZ.val, Option.isSome]
  go_wp2_with fail
  refine (fourA_six ah al _).mono ?_
  rintro e x3 ⟨rfl, rfl⟩
  go_wp2_with fail
  refine (decimal_any ⟨ld.toArray⟩ 128 _ (by rw [size_arr]; exact hld) (by omega) (by omega)).mono ?_
  rw [list_arr, HD.out]
  rintro e x4 ⟨rfl, hb4'⟩
  have hb4 := chain_c hb2 hb4'
  clear hb2 hb4'
  go_wp2_with fail
  refine (wide6_any ah al _).mono ?_
  rintro e x5 ⟨rfl, hb5'⟩
  have hb5 := chain_c hb4 hb5'
  clear hb4 hb5'
  have hs5 : w.heap.size < x5.heap.size := by have := hb5.size; simp at this; omega
  have hb6 := hb5.alloc (by omega) (Obj.cells #[.int .u64 (ah), .int .u64 (al), .int .i64 (x)] 37)
  go_wp2_with fail
  refine (HRT.out _).mono ?_
  rintro e x7 ⟨rfl, hb7'⟩
  obtain ⟨d0, d1, d2⟩ := keep_box x5 _ _ _ _ x7 (hb7'.mono (by simp))
  have hb7 := chain_c hb6 hb7'
  clear hb6 hb7' hb5
  obtain ⟨⟨hc0, hc1, hc2⟩, hf0, hf1, hf2⟩ := HK.out _ hb7
  go_wp2
  refine bodyPost_ret (v := .tuple #[.agg #[.int .u64 (ah), .int .u64 (al), .int .i64 (x)], .bool true]) (by simp [results, Tryz.results86, go_sem, hc0, hc1, hc2]) rfl ⟨rfl, ?_⟩
  exact (((alloc_keeps hb7).setCell (Nat.le_refl _) _).setCell (Nat.le_refl _) _).setCell (Nat.le_refl _) _

theorem pParse_any (s : ByteArray) (w : World) (hs : s.size ≤ 1073741824) (hmax : MaxVar w) :
    Calls Tryz.prog 86 #[.string s] w (RetPf w (parseP s.data.toList)) := by
  obtain ⟨la, ld, fb, hcut⟩ : ∃ a d b, Lib.cut s.data.toList [47] = (a, d, b) := ⟨_, _, _, rfl⟩
  have hp : parseP s.data.toList = prefZ la ld := by unfold parseP; rw [hcut]
  unfold RetPf
  rw [hp]
  cases hz : addrZ la with
  | none =>
    rw [show prefZ la ld = none from by unfold prefZ; rw [hz]]
    exact pParse_none s la ld fb hz w hs hmax hcut
  | some z =>
    have ho := addrZ_ok hz
    cases z with
    | four n =>
      obtain ⟨x, bd, hd⟩ : ∃ x b, decZ ld 32 = (x, b) := ⟨_, _, rfl⟩
      have bx := decZ_bounds ld 32 (by omega)
      rw [hd] at bx
      have hd' : decZ ld (128 - (AZ.four n).ahead) = (x, bd) := hd
      cases bd with
      | false =>
        rw [show prefZ la ld = none from by unfold prefZ; rw [hz]; simp only [hd']; rw [if_neg (by simp)]]
        exact pParse_four_bad s la ld fb n x hz hd w hs hmax hcut
      | true =>
        obtain ⟨hi, lo, e1, e2, b1, b2, e3⟩ := AZ.ok_hl ho
        cases hr : pRightB (AZ.four n).wd (96 + x) with
        | false =>
          rw [show prefZ la ld = none from by unfold prefZ; rw [hz]; simp only [hd']; rw [if_neg (by rw [show (AZ.four n).ahead = 96 from rfl, hr]; simp)]]
          rw [e3] at hr
          exact pParse_four_false s la ld fb n ho hi lo x e1 e2 b1 b2 bx hz hd hr w hs hmax hcut
        | true =>
          rw [show prefZ la ld = some ((AZ.four n).wd, (96 + x).toNat) from by unfold prefZ; rw [hz]; simp only [hd']; rw [if_pos ⟨trivial, by rw [show (AZ.four n).ahead = 96 from rfl, hr]⟩]; rfl]
          rw [e3] at hr ⊢
          have := pParse_four_true s la ld fb n ho hi lo x e1 e2 b1 b2 bx hz hd hr w hs hmax hcut
          rw [show (0 : Int) = hi from e1, show 281470681743360 + n = (lo : Int) from e2] at this
          have h3 : optP (some (wideN hi lo, (96 + x).toNat)) = .agg #[.int .u64 hi, .int .u64 lo, .int .i64 (96 + x)] := by
            show pfW _ _ = _
            rw [pfW_wide b2, show ((96 + x).toNat : Int) = 96 + x from by omega]; rfl
          rw [h3]
          exact this
    | six ah al =>
      obtain ⟨x, bd, hd⟩ : ∃ x b, decZ ld 128 = (x, b) := ⟨_, _, rfl⟩
      have bx := decZ_bounds ld 128 (by omega)
      rw [hd] at bx
      have hd' : decZ ld (128 - (AZ.six ah al).ahead) = (x, bd) := hd
      cases bd with
      | false =>
        rw [show prefZ la ld = none from by unfold prefZ; rw [hz]; simp only [hd']; rw [if_neg (by simp)]]
        exact pParse_six_bad s la ld fb ah al x hz hd w hs hmax hcut
      | true =>
        obtain ⟨hi, lo, e1, e2, b1, b2, e3⟩ := AZ.ok_hl ho
        cases hr : pRightB (AZ.six ah al).wd (0 + x) with
        | false =>
          rw [show prefZ la ld = none from by unfold prefZ; rw [hz]; simp only [hd']; rw [if_neg (by rw [show (AZ.six ah al).ahead = 0 from rfl, hr]; simp)]]
          rw [e3] at hr
          exact pParse_six_false s la ld fb ah al ho hi lo x e1 e2 b1 b2 bx hz hd hr w hs hmax hcut
        | true =>
          rw [show prefZ la ld = some ((AZ.six ah al).wd, (0 + x).toNat) from by unfold prefZ; rw [hz]; simp only [hd']; rw [if_pos ⟨trivial, by rw [show (AZ.six ah al).ahead = 0 from rfl, hr]⟩]; rfl]
          rw [e3] at hr ⊢
          have := pParse_six_true s la ld fb ah al ho hi lo x e1 e2 b1 b2 bx hz hd hr w hs hmax hcut
          rw [show ah = (hi : Int) from e1, show al = (lo : Int) from e2] at this
          have h3 : optP (some (wideN hi lo, (0 + x).toNat)) = .agg #[.int .u64 hi, .int .u64 lo, .int .i64 x] := by
            show pfW _ _ = _
            rw [pfW_wide b2, show ((0 + x).toNat : Int) = x from by omega]; rfl
          rw [h3]
          exact this
end Go.Proofs.YtoobiaifogackaaGreatDoor
