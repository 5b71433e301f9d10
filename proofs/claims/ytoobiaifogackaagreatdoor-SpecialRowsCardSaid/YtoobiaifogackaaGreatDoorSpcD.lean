/-
  Layer 9: the table as the document lays it.
-/
import Derived.Test.YtoobiaifogackaaGreatDoorSpcC
namespace Go.Proofs.YtoobiaifogackaaGreatDoor
open Go.RowKit


set_option maxRecDepth 100000 in
set_option maxHeartbeats 1000000 in
theorem low9_any (a b c n W k : Nat) (s : ByteArray) (w : World) (h : a < 256 ∧ b < 256 ∧ c < 256 ∧ n ≤ 32 ∧ W = 281470681743360 + (a * 16777216 + b * 65536 + c * 256) ∧ k = 96 + n) :
    Calls Tryz.prog 54 #[.int .i64 (a : Nat), .int .i64 (b : Nat), .int .i64 (c : Nat), .int .i64 (n : Nat), .string s] w fun e w' => e = .returned (.agg #[.int .u64 (hiN W : Nat), .int .u64 (loN W : Nat), .int .i64 (k : Nat), .string s]) ∧ Below w.heap.size w w' := by
  obtain ⟨ha, hb, hc, hn, hW, hk⟩ := h
  have e1 : IntKind.i64.wrap ((a : Int) * 16777216) = a * 16777216 := IntWalk.i64_in _ (by omega)
  have e2 : IntKind.i64.wrap ((b : Int) * 65536) = b * 65536 := IntWalk.i64_in _ (by omega)
  have e3 : IntKind.i64.wrap ((a : Int) * 16777216 + b * 65536) = a * 16777216 + b * 65536 := IntWalk.i64_in _ (by omega)
  have e4 : IntKind.i64.wrap ((c : Int) * 256) = c * 256 := IntWalk.i64_in _ (by omega)
  have e5 : IntKind.i64.wrap ((a : Int) * 16777216 + b * 65536 + c * 256) = a * 16777216 + b * 65536 + c * 256 := IntWalk.i64_in _ (by omega)
  have e6 : IntKind.u64.wrap ((a : Int) * 16777216 + b * 65536 + c * 256) = a * 16777216 + b * 65536 + c * 256 := by rw [IntKind.wrap_u64]; omega
  have e7 : IntKind.u64.wrap (281470681743360 + ((a : Int) * 16777216 + b * 65536 + c * 256)) = 281470681743360 + ((a : Int) * 16777216 + b * 65536 + c * 256) := by rw [IntKind.wrap_u64]; omega
  have e8 : IntKind.i64.wrap (96 + (n : Int)) = 96 + (n : Int) := IntWalk.i64_in _ (by omega)
  have h0 : ((hiN W : Nat) : Int) = 0 := by unfold hiN; omega
  have h1 : ((loN W : Nat) : Int) = 281470681743360 + ((a : Int) * 16777216 + b * 65536 + c * 256) := by unfold loN; omega
  have h2 : ((k : Nat) : Int) = 96 + (n : Int) := by omega
  rw [h0, h1, h2]
  clear h0 h1 h2 hW hk
  go_enter Tryz.func54, Tryz.ntmps54
  go_wp2
  refine bodyPost_ret (v := .agg #[.int .u64 0, .int .u64 (281470681743360 + ((a : Int) * 16777216 + b * 65536 + c * 256)), .int .i64 (96 + (n : Int)), .string s]) (by simp [results, Tryz.results54, go_sem]) rfl ⟨rfl, ?_⟩
  exact (Below.refl _ _).alloc (Nat.le_refl _) _
set_option maxRecDepth 100000 in
set_option maxHeartbeats 1000000 in
theorem high9_any (a b c n W : Nat) (s : ByteArray) (w : World) (h : a < 65536 ∧ b < 65536 ∧ c < 65536 ∧ n ≤ 128 ∧ W = (a * 281474976710656 + b * 4294967296 + c * 65536) * 18446744073709551616) :
    Calls Tryz.prog 55 #[.int .u64 (a : Nat), .int .u64 (b : Nat), .int .u64 (c : Nat), .int .i64 (n : Nat), .string s] w fun e w' => e = .returned (.agg #[.int .u64 (hiN W : Nat), .int .u64 (loN W : Nat), .int .i64 (n : Nat), .string s]) ∧ Below w.heap.size w w' := by
  obtain ⟨ha, hb, hc, hn, hW⟩ := h
  have e1 : IntKind.u64.wrap ((a : Int) * 281474976710656) = a * 281474976710656 := by rw [IntKind.wrap_u64]; omega
  have e2 : IntKind.u64.wrap ((b : Int) * 4294967296) = b * 4294967296 := by rw [IntKind.wrap_u64]; omega
  have e3 : IntKind.u64.wrap ((a : Int) * 281474976710656 + b * 4294967296) = a * 281474976710656 + b * 4294967296 := by rw [IntKind.wrap_u64]; omega
  have e4 : IntKind.u64.wrap ((c : Int) * 65536) = c * 65536 := by rw [IntKind.wrap_u64]; omega
  have e5 : IntKind.u64.wrap ((a : Int) * 281474976710656 + b * 4294967296 + c * 65536) = a * 281474976710656 + b * 4294967296 + c * 65536 := by rw [IntKind.wrap_u64]; omega
  have h0 : ((hiN W : Nat) : Int) = (a : Int) * 281474976710656 + b * 4294967296 + c * 65536 := by unfold hiN; omega
  have h1 : ((loN W : Nat) : Int) = 0 := by unfold loN; omega
  rw [h0, h1]
  clear h0 h1 hW
  go_enter Tryz.func55, Tryz.ntmps55
  go_wp2
  refine bodyPost_ret (v := .agg #[.int .u64 ((a : Int) * 281474976710656 + b * 4294967296 + c * 65536), .int .u64 0, .int .i64 (n : Int), .string s]) (by simp [results, Tryz.results55, go_sem]) rfl ⟨rfl, ?_⟩
  exact (Below.refl _ _).alloc (Nat.le_refl _) _

set_option maxRecDepth 100000 in
set_option maxHeartbeats 8000000 in
theorem refRows9_any (w : World) :
    Calls Tryz.prog 19 #[] w fun e w' => ∃ b, e = .returned (.slice (some ⟨b, 0, none⟩) 27 27) ∧ w.heap.size ≤ b ∧ w'.heap[b]? = some (.cells flat9 57) ∧ Below w.heap.size w w' := by
  have hb0 : Below w.heap.size w w := Below.refl _ _
  go_enter Tryz.func19, Tryz.ntmps19
  go_wp2_with fail
  refine (low9_any 0 0 0 8 281470681743360 104 _ _ (by decide)).mono ?_
  rintro e x1 ⟨rfl, hc⟩
  have hb1 := below_chain7 hb0 hc
  clear hc hb0
  go_wp2_with fail
  refine (low9_any 10 0 0 8 281470849515520 104 _ _ (by decide)).mono ?_
  rintro e x2 ⟨rfl, hc⟩
  have hb2 := below_chain7 hb1 hc
  clear hc hb1
  go_wp2_with fail
  refine (low9_any 100 64 0 10 281472363659264 106 _ _ (by decide)).mono ?_
  rintro e x3 ⟨rfl, hc⟩
  have hb3 := below_chain7 hb2 hc
  clear hc hb2
  go_wp2_with fail
  refine (low9_any 127 0 0 8 281472812449792 104 _ _ (by decide)).mono ?_
  rintro e x4 ⟨rfl, hc⟩
  have hb4 := below_chain7 hb3 hc
  clear hc hb3
  go_wp2_with fail
  refine (low9_any 169 254 0 16 281473533739008 112 _ _ (by decide)).mono ?_
  rintro e x5 ⟨rfl, hc⟩
  have hb5 := below_chain7 hb4 hc
  clear hc hb4
  go_wp2_with fail
  refine (low9_any 172 16 0 12 281473568473088 108 _ _ (by decide)).mono ?_
  rintro e x6 ⟨rfl, hc⟩
  have hb6 := below_chain7 hb5 hc
  clear hc hb5
  go_wp2_with fail
  refine (low9_any 192 0 0 24 281473902968832 120 _ _ (by decide)).mono ?_
  rintro e x7 ⟨rfl, hc⟩
  have hb7 := below_chain7 hb6 hc
  clear hc hb6
  go_wp2_with fail
  refine (low9_any 192 0 2 24 281473902969344 120 _ _ (by decide)).mono ?_
  rintro e x8 ⟨rfl, hc⟩
  have hb8 := below_chain7 hb7 hc
  clear hc hb7
  go_wp2_with fail
  refine (low9_any 192 88 99 24 281473908761344 120 _ _ (by decide)).mono ?_
  rintro e x9 ⟨rfl, hc⟩
  have hb9 := below_chain7 hb8 hc
  clear hc hb8
  go_wp2_with fail
  refine (low9_any 192 168 0 16 281473913978880 112 _ _ (by decide)).mono ?_
  rintro e x10 ⟨rfl, hc⟩
  have hb10 := below_chain7 hb9 hc
  clear hc hb9
  go_wp2_with fail
  refine (low9_any 198 18 0 15 281474004811776 111 _ _ (by decide)).mono ?_
  rintro e x11 ⟨rfl, hc⟩
  have hb11 := below_chain7 hb10 hc
  clear hc hb10
  go_wp2_with fail
  refine (low9_any 198 51 100 24 281474007000064 120 _ _ (by decide)).mono ?_
  rintro e x12 ⟨rfl, hc⟩
  have hb12 := below_chain7 hb11 hc
  clear hc hb11
  go_wp2_with fail
  refine (low9_any 203 0 113 24 281474087547136 120 _ _ (by decide)).mono ?_
  rintro e x13 ⟨rfl, hc⟩
  have hb13 := below_chain7 hb12 hc
  clear hc hb12
  go_wp2_with fail
  refine (low9_any 224 0 0 4 281474439839744 100 _ _ (by decide)).mono ?_
  rintro e x14 ⟨rfl, hc⟩
  have hb14 := below_chain7 hb13 hc
  clear hc hb13
  go_wp2_with fail
  refine (low9_any 240 0 0 4 281474708275200 100 _ _ (by decide)).mono ?_
  rintro e x15 ⟨rfl, hc⟩
  have hb15 := below_chain7 hb14 hc
  clear hc hb14
  go_wp2_with fail
  refine (high9_any 0 0 0 128 0 _ _ (by decide)).mono ?_
  rintro e x16 ⟨rfl, hc⟩
  have hb16 := below_chain7 hb15 hc
  clear hc hb15
  go_wp2_with fail
  refine (high9_any 100 65435 1 48 524413980668812575603097810486951936 _ _ (by decide)).mono ?_
  rintro e x17 ⟨rfl, hc⟩
  have hb17 := below_chain7 hb16 hc
  clear hc hb16
  go_wp2_with fail
  refine (high9_any 256 0 0 64 1329227995784915872903807060280344576 _ _ (by decide)).mono ?_
  rintro e x18 ⟨rfl, hc⟩
  have hb18 := below_chain7 hb17 hc
  clear hc hb17
  go_wp2_with fail
  refine (high9_any 8193 0 0 23 42540488161975842760550356425300246528 _ _ (by decide)).mono ?_
  rintro e x19 ⟨rfl, hc⟩
  have hb19 := below_chain7 hb18 hc
  clear hc hb18
  go_wp2_with fail
  refine (high9_any 8193 3512 0 32 42540766411282592856903984951653826560 _ _ (by decide)).mono ?_
  rintro e x20 ⟨rfl, hc⟩
  have hb20 := below_chain7 hb19 hc
  clear hc hb19
  go_wp2_with fail
  refine (high9_any 16383 0 0 20 85065399433376081038215121361612832768 _ _ (by decide)).mono ?_
  rintro e x21 ⟨rfl, hc⟩
  have hb21 := below_chain7 hb20 hc
  clear hc hb20
  go_wp2_with fail
  refine (high9_any 24320 0 0 16 126276659599567007925861670726632734720 _ _ (by decide)).mono ?_
  rintro e x22 ⟨rfl, hc⟩
  have hb22 := below_chain7 hb21 hc
  clear hc hb21
  go_wp2_with fail
  refine (high9_any 64512 0 0 7 334965454937798799971759379190646833152 _ _ (by decide)).mono ?_
  rintro e x23 ⟨rfl, hc⟩
  have hb23 := below_chain7 hb22 hc
  clear hc hb22
  go_wp2_with fail
  refine (high9_any 65152 0 0 10 338288524927261089654018896841347694592 _ _ (by decide)).mono ?_
  rintro e x24 ⟨rfl, hc⟩
  have hb24 := below_chain7 hb23 hc
  clear hc hb23
  go_wp2_with fail
  refine (high9_any 65216 0 0 10 338620831926207318622244848606417780736 _ _ (by decide)).mono ?_
  rintro e x25 ⟨rfl, hc⟩
  have hb25 := below_chain7 hb24 hc
  clear hc hb24
  go_wp2_with fail
  refine (high9_any 65280 0 0 8 338953138925153547590470800371487866880 _ _ (by decide)).mono ?_
  rintro e x26 ⟨rfl, hc⟩
  have hb26 := below_chain7 hb25 hc
  clear hc hb25
  have hn : ∀ t, (x26.alloc (.cells flat9 t)).heap[x26.heap.size]? = some (.cells flat9 t) := fun t => Go.Deep.blk_alloc_new _ _
  go_wp2
  go_ret
  exact ⟨x26.heap.size, rfl, hb26.size, hn _, hb26.alloc hb26.size _⟩
end Go.Proofs.YtoobiaifogackaaGreatDoor
