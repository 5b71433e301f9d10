/-
  Layer 6: the order of two addresses.
-/
import Derived.Test.YtgmfgcpfpopboaaGreatDoorAddG
namespace Go.Proofs.YtgmfgcpfpopboaaGreatDoor
open Go.RowKit


set_option maxRecDepth 100000 in
set_option maxHeartbeats 1000000 in
theorem compare_44_lo (an : Int) (bn : Int) (w : World) (a0 : 0 ≤ an) (a1 : an ≤ 4294967295) (b0 : 0 ≤ bn) (b1 : bn ≤ 4294967295)  (hl : ((281470681743360 + an) : Int) ≠ (281470681743360 + bn)) :
    Calls Tryz.prog 9 #[.iface 31 (.int .u32 an), .iface 31 (.int .u32 bn)] w fun e w' => e = .returned (.int .i64 (cmpI (281470681743360 + an) (281470681743360 + bn))) ∧ Below w.heap.size w w' := by
  have hma : ∀ w : World, (method 267 31 (.int .u32 an) "Wide").run Tryz.prog w = .ok (132, (.int .u32 an)) w := fun _ => by kernel_rfl
  have hmb : ∀ w : World, (method 267 31 (.int .u32 bn) "Wide").run Tryz.prog w = .ok (132, (.int .u32 bn)) w := fun _ => by kernel_rfl
  have dhl : (((281470681743360 + an) : Int) != (281470681743360 + bn)) = true := by simp [hl]
  clear hl
  go_enter Tryz.func9, Tryz.ntmps9
  go_wp2_with fail
  refine (wide_any an _ a0 a1).mono ?_
  rintro e x1 ⟨rfl, rfl⟩
  go_wp2_with fail
  refine (wide_any bn _ b0 b1).mono ?_
  rintro e x2 ⟨rfl, rfl⟩
  go_wp2_with fail
  refine (cmpU_any (281470681743360 + an) (281470681743360 + bn) _).mono ?_
  rintro e x3 ⟨rfl, rfl⟩
  go_wp2
  go_ret
  exact ⟨rfl, (Below.refl _ _)⟩
set_option maxRecDepth 100000 in
set_option maxHeartbeats 1000000 in
theorem compare_44_rk (an : Int) (bn : Int) (w : World) (a0 : 0 ≤ an) (a1 : an ≤ 4294967295) (b0 : 0 ≤ bn) (b1 : bn ≤ 4294967295)  (hl : ((281470681743360 + an) : Int) = (281470681743360 + bn)) :
    Calls Tryz.prog 9 #[.iface 31 (.int .u32 an), .iface 31 (.int .u32 bn)] w fun e w' => e = .returned (.int .i64 (cmpI 1 1)) ∧ Below w.heap.size w w' := by
  have hma : ∀ w : World, (method 267 31 (.int .u32 an) "Wide").run Tryz.prog w = .ok (132, (.int .u32 an)) w := fun _ => by kernel_rfl
  have hmb : ∀ w : World, (method 267 31 (.int .u32 bn) "Wide").run Tryz.prog w = .ok (132, (.int .u32 bn)) w := fun _ => by kernel_rfl
  have dhl : (((281470681743360 + an) : Int) != (281470681743360 + bn)) = false := by simp [hl]
  clear hl
  go_enter Tryz.func9, Tryz.ntmps9
  go_wp2_with fail
  refine (wide_any an _ a0 a1).mono ?_
  rintro e x1 ⟨rfl, rfl⟩
  go_wp2_with fail
  refine (wide_any bn _ b0 b1).mono ?_
  rintro e x2 ⟨rfl, rfl⟩
  go_wp2_with fail
  refine (rank_four an _).mono ?_
  rintro e x3 ⟨rfl, rfl⟩
  go_wp2_with fail
  refine (rank_four bn _).mono ?_
  rintro e x4 ⟨rfl, rfl⟩
  go_wp2_with fail
  refine (cmpInt_any 1 1 _).mono ?_
  rintro e x5 ⟨rfl, rfl⟩
  go_wp2
  go_ret
  exact ⟨rfl, (Below.refl _ _)⟩
set_option maxRecDepth 100000 in
set_option maxHeartbeats 1000000 in
theorem compare_46_hi (an : Int) (bh bl : Int) (w : World) (a0 : 0 ≤ an) (a1 : an ≤ 4294967295)  (hh : (0 : Int) ≠ bh) :
    Calls Tryz.prog 9 #[.iface 31 (.int .u32 an), .iface 46 (.agg #[.int .u64 bh, .int .u64 bl])] w fun e w' => e = .returned (.int .i64 (cmpI 0 bh)) ∧ Below w.heap.size w w' := by
  have hma : ∀ w : World, (method 267 31 (.int .u32 an) "Wide").run Tryz.prog w = .ok (132, (.int .u32 an)) w := fun _ => by kernel_rfl
  have hmb : ∀ w : World, (method 267 46 (.agg #[.int .u64 bh, .int .u64 bl]) "Wide").run Tryz.prog w = .ok (21, (.agg #[.int .u64 bh, .int .u64 bl])) w := fun _ => by kernel_rfl
  have dhh : ((0 : Int) != bh) = true := by simp [hh]
  clear hh
  go_enter Tryz.func9, Tryz.ntmps9
  go_wp2_with fail
  refine (wide_any an _ a0 a1).mono ?_
  rintro e x1 ⟨rfl, rfl⟩
  go_wp2_with fail
  refine (wide6_any bh bl _).mono ?_
  rintro e x2 ⟨rfl, hb2⟩
  have hc2 : Below w.heap.size w x2 := hb2
  go_wp2_with fail
  refine (cmpU_any 0 bh _).mono ?_
  rintro e x3 ⟨rfl, rfl⟩
  go_wp2
  go_ret
  exact ⟨rfl, hc2⟩
set_option maxRecDepth 100000 in
set_option maxHeartbeats 1000000 in
theorem compare_46_lo (an : Int) (bh bl : Int) (w : World) (a0 : 0 ≤ an) (a1 : an ≤ 4294967295)  (hh : (0 : Int) = bh) (hl : ((281470681743360 + an) : Int) ≠ bl) :
    Calls Tryz.prog 9 #[.iface 31 (.int .u32 an), .iface 46 (.agg #[.int .u64 bh, .int .u64 bl])] w fun e w' => e = .returned (.int .i64 (cmpI (281470681743360 + an) bl)) ∧ Below w.heap.size w w' := by
  have hma : ∀ w : World, (method 267 31 (.int .u32 an) "Wide").run Tryz.prog w = .ok (132, (.int .u32 an)) w := fun _ => by kernel_rfl
  have hmb : ∀ w : World, (method 267 46 (.agg #[.int .u64 bh, .int .u64 bl]) "Wide").run Tryz.prog w = .ok (21, (.agg #[.int .u64 bh, .int .u64 bl])) w := fun _ => by kernel_rfl
  have dhh : ((0 : Int) != bh) = false := by simp [hh]
  have dhl : (((281470681743360 + an) : Int) != bl) = true := by simp [hl]
  clear hh hl
  go_enter Tryz.func9, Tryz.ntmps9
  go_wp2_with fail
  refine (wide_any an _ a0 a1).mono ?_
  rintro e x1 ⟨rfl, rfl⟩
  go_wp2_with fail
  refine (wide6_any bh bl _).mono ?_
  rintro e x2 ⟨rfl, hb2⟩
  have hc2 : Below w.heap.size w x2 := hb2
  go_wp2_with fail
  refine (cmpU_any (281470681743360 + an) bl _).mono ?_
  rintro e x3 ⟨rfl, rfl⟩
  go_wp2
  go_ret
  exact ⟨rfl, hc2⟩
set_option maxRecDepth 100000 in
set_option maxHeartbeats 1000000 in
theorem compare_46_rk (an : Int) (bh bl : Int) (w : World) (a0 : 0 ≤ an) (a1 : an ≤ 4294967295)  (hh : (0 : Int) = bh) (hl : ((281470681743360 + an) : Int) = bl) :
    Calls Tryz.prog 9 #[.iface 31 (.int .u32 an), .iface 46 (.agg #[.int .u64 bh, .int .u64 bl])] w fun e w' => e = .returned (.int .i64 (cmpI 1 2)) ∧ Below w.heap.size w w' := by
  have hma : ∀ w : World, (method 267 31 (.int .u32 an) "Wide").run Tryz.prog w = .ok (132, (.int .u32 an)) w := fun _ => by kernel_rfl
  have hmb : ∀ w : World, (method 267 46 (.agg #[.int .u64 bh, .int .u64 bl]) "Wide").run Tryz.prog w = .ok (21, (.agg #[.int .u64 bh, .int .u64 bl])) w := fun _ => by kernel_rfl
  have dhh : ((0 : Int) != bh) = false := by simp [hh]
  have dhl : (((281470681743360 + an) : Int) != bl) = false := by simp [hl]
  clear hh hl
  go_enter Tryz.func9, Tryz.ntmps9
  go_wp2_with fail
  refine (wide_any an _ a0 a1).mono ?_
  rintro e x1 ⟨rfl, rfl⟩
  go_wp2_with fail
  refine (wide6_any bh bl _).mono ?_
  rintro e x2 ⟨rfl, hb2⟩
  have hc2 : Below w.heap.size w x2 := hb2
  go_wp2_with fail
  refine (rank_four an _).mono ?_
  rintro e x3 ⟨rfl, rfl⟩
  go_wp2_with fail
  refine (rank_six bh bl _).mono ?_
  rintro e x4 ⟨rfl, rfl⟩
  go_wp2_with fail
  refine (cmpInt_any 1 2 _).mono ?_
  rintro e x5 ⟨rfl, rfl⟩
  go_wp2
  go_ret
  exact ⟨rfl, hc2⟩
set_option maxRecDepth 100000 in
set_option maxHeartbeats 1000000 in
theorem compare_64_hi (ah al : Int) (bn : Int) (w : World)  (b0 : 0 ≤ bn) (b1 : bn ≤ 4294967295) (hh : (ah : Int) ≠ 0) :
    Calls Tryz.prog 9 #[.iface 46 (.agg #[.int .u64 ah, .int .u64 al]), .iface 31 (.int .u32 bn)] w fun e w' => e = .returned (.int .i64 (cmpI ah 0)) ∧ Below w.heap.size w w' := by
  have hma : ∀ w : World, (method 267 46 (.agg #[.int .u64 ah, .int .u64 al]) "Wide").run Tryz.prog w = .ok (21, (.agg #[.int .u64 ah, .int .u64 al])) w := fun _ => by kernel_rfl
  have hmb : ∀ w : World, (method 267 31 (.int .u32 bn) "Wide").run Tryz.prog w = .ok (132, (.int .u32 bn)) w := fun _ => by kernel_rfl
  have dhh : ((ah : Int) != 0) = true := by simp [hh]
  clear hh
  go_enter Tryz.func9, Tryz.ntmps9
  go_wp2_with fail
  refine (wide6_any ah al _).mono ?_
  rintro e x1 ⟨rfl, hb1⟩
  have hc1 : Below w.heap.size w x1 := hb1
  go_wp2_with fail
  refine (wide_any bn _ b0 b1).mono ?_
  rintro e x2 ⟨rfl, rfl⟩
  go_wp2_with fail
  refine (cmpU_any ah 0 _).mono ?_
  rintro e x3 ⟨rfl, rfl⟩
  go_wp2
  go_ret
  exact ⟨rfl, hc1⟩
set_option maxRecDepth 100000 in
set_option maxHeartbeats 1000000 in
theorem compare_64_lo (ah al : Int) (bn : Int) (w : World)  (b0 : 0 ≤ bn) (b1 : bn ≤ 4294967295) (hh : (ah : Int) = 0) (hl : (al : Int) ≠ (281470681743360 + bn)) :
    Calls Tryz.prog 9 #[.iface 46 (.agg #[.int .u64 ah, .int .u64 al]), .iface 31 (.int .u32 bn)] w fun e w' => e = .returned (.int .i64 (cmpI al (281470681743360 + bn))) ∧ Below w.heap.size w w' := by
  have hma : ∀ w : World, (method 267 46 (.agg #[.int .u64 ah, .int .u64 al]) "Wide").run Tryz.prog w = .ok (21, (.agg #[.int .u64 ah, .int .u64 al])) w := fun _ => by kernel_rfl
  have hmb : ∀ w : World, (method 267 31 (.int .u32 bn) "Wide").run Tryz.prog w = .ok (132, (.int .u32 bn)) w := fun _ => by kernel_rfl
  have dhh : ((ah : Int) != 0) = false := by simp [hh]
  have dhl : ((al : Int) != (281470681743360 + bn)) = true := by simp [hl]
  clear hh hl
  go_enter Tryz.func9, Tryz.ntmps9
  go_wp2_with fail
  refine (wide6_any ah al _).mono ?_
  rintro e x1 ⟨rfl, hb1⟩
  have hc1 : Below w.heap.size w x1 := hb1
  go_wp2_with fail
  refine (wide_any bn _ b0 b1).mono ?_
  rintro e x2 ⟨rfl, rfl⟩
  go_wp2_with fail
  refine (cmpU_any al (281470681743360 + bn) _).mono ?_
  rintro e x3 ⟨rfl, rfl⟩
  go_wp2
  go_ret
  exact ⟨rfl, hc1⟩
set_option maxRecDepth 100000 in
set_option maxHeartbeats 1000000 in
theorem compare_64_rk (ah al : Int) (bn : Int) (w : World)  (b0 : 0 ≤ bn) (b1 : bn ≤ 4294967295) (hh : (ah : Int) = 0) (hl : (al : Int) = (281470681743360 + bn)) :
    Calls Tryz.prog 9 #[.iface 46 (.agg #[.int .u64 ah, .int .u64 al]), .iface 31 (.int .u32 bn)] w fun e w' => e = .returned (.int .i64 (cmpI 2 1)) ∧ Below w.heap.size w w' := by
  have hma : ∀ w : World, (method 267 46 (.agg #[.int .u64 ah, .int .u64 al]) "Wide").run Tryz.prog w = .ok (21, (.agg #[.int .u64 ah, .int .u64 al])) w := fun _ => by kernel_rfl
  have hmb : ∀ w : World, (method 267 31 (.int .u32 bn) "Wide").run Tryz.prog w = .ok (132, (.int .u32 bn)) w := fun _ => by kernel_rfl
  have dhh : ((ah : Int) != 0) = false := by simp [hh]
  have dhl : ((al : Int) != (281470681743360 + bn)) = false := by simp [hl]
  clear hh hl
  go_enter Tryz.func9, Tryz.ntmps9
  go_wp2_with fail
  refine (wide6_any ah al _).mono ?_
  rintro e x1 ⟨rfl, hb1⟩
  have hc1 : Below w.heap.size w x1 := hb1
  go_wp2_with fail
  refine (wide_any bn _ b0 b1).mono ?_
  rintro e x2 ⟨rfl, rfl⟩
  go_wp2_with fail
  refine (rank_six ah al _).mono ?_
  rintro e x3 ⟨rfl, rfl⟩
  go_wp2_with fail
  refine (rank_four bn _).mono ?_
  rintro e x4 ⟨rfl, rfl⟩
  go_wp2_with fail
  refine (cmpInt_any 2 1 _).mono ?_
  rintro e x5 ⟨rfl, rfl⟩
  go_wp2
  go_ret
  exact ⟨rfl, hc1⟩
set_option maxRecDepth 100000 in
set_option maxHeartbeats 1000000 in
theorem compare_66_hi (ah al : Int) (bh bl : Int) (w : World)   (hh : (ah : Int) ≠ bh) :
    Calls Tryz.prog 9 #[.iface 46 (.agg #[.int .u64 ah, .int .u64 al]), .iface 46 (.agg #[.int .u64 bh, .int .u64 bl])] w fun e w' => e = .returned (.int .i64 (cmpI ah bh)) ∧ Below w.heap.size w w' := by
  have hma : ∀ w : World, (method 267 46 (.agg #[.int .u64 ah, .int .u64 al]) "Wide").run Tryz.prog w = .ok (21, (.agg #[.int .u64 ah, .int .u64 al])) w := fun _ => by kernel_rfl
  have hmb : ∀ w : World, (method 267 46 (.agg #[.int .u64 bh, .int .u64 bl]) "Wide").run Tryz.prog w = .ok (21, (.agg #[.int .u64 bh, .int .u64 bl])) w := fun _ => by kernel_rfl
  have dhh : ((ah : Int) != bh) = true := by simp [hh]
  clear hh
  go_enter Tryz.func9, Tryz.ntmps9
  go_wp2_with fail
  refine (wide6_any ah al _).mono ?_
  rintro e x1 ⟨rfl, hb1⟩
  have hc1 : Below w.heap.size w x1 := hb1
  go_wp2_with fail
  refine (wide6_any bh bl _).mono ?_
  rintro e x2 ⟨rfl, hb2⟩
  have hc2 : Below w.heap.size w x2 := hc1.trans (hb2.mono hc1.size)
  go_wp2_with fail
  refine (cmpU_any ah bh _).mono ?_
  rintro e x3 ⟨rfl, rfl⟩
  go_wp2
  go_ret
  exact ⟨rfl, hc2⟩
set_option maxRecDepth 100000 in
set_option maxHeartbeats 1000000 in
theorem compare_66_lo (ah al : Int) (bh bl : Int) (w : World)   (hh : (ah : Int) = bh) (hl : (al : Int) ≠ bl) :
    Calls Tryz.prog 9 #[.iface 46 (.agg #[.int .u64 ah, .int .u64 al]), .iface 46 (.agg #[.int .u64 bh, .int .u64 bl])] w fun e w' => e = .returned (.int .i64 (cmpI al bl)) ∧ Below w.heap.size w w' := by
  have hma : ∀ w : World, (method 267 46 (.agg #[.int .u64 ah, .int .u64 al]) "Wide").run Tryz.prog w = .ok (21, (.agg #[.int .u64 ah, .int .u64 al])) w := fun _ => by kernel_rfl
  have hmb : ∀ w : World, (method 267 46 (.agg #[.int .u64 bh, .int .u64 bl]) "Wide").run Tryz.prog w = .ok (21, (.agg #[.int .u64 bh, .int .u64 bl])) w := fun _ => by kernel_rfl
  have dhh : ((ah : Int) != bh) = false := by simp [hh]
  have dhl : ((al : Int) != bl) = true := by simp [hl]
  clear hh hl
  go_enter Tryz.func9, Tryz.ntmps9
  go_wp2_with fail
  refine (wide6_any ah al _).mono ?_
  rintro e x1 ⟨rfl, hb1⟩
  have hc1 : Below w.heap.size w x1 := hb1
  go_wp2_with fail
  refine (wide6_any bh bl _).mono ?_
  rintro e x2 ⟨rfl, hb2⟩
  have hc2 : Below w.heap.size w x2 := hc1.trans (hb2.mono hc1.size)
  go_wp2_with fail
  refine (cmpU_any al bl _).mono ?_
  rintro e x3 ⟨rfl, rfl⟩
  go_wp2
  go_ret
  exact ⟨rfl, hc2⟩
set_option maxRecDepth 100000 in
set_option maxHeartbeats 1000000 in
theorem compare_66_rk (ah al : Int) (bh bl : Int) (w : World)   (hh : (ah : Int) = bh) (hl : (al : Int) = bl) :
    Calls Tryz.prog 9 #[.iface 46 (.agg #[.int .u64 ah, .int .u64 al]), .iface 46 (.agg #[.int .u64 bh, .int .u64 bl])] w fun e w' => e = .returned (.int .i64 (cmpI 2 2)) ∧ Below w.heap.size w w' := by
  have hma : ∀ w : World, (method 267 46 (.agg #[.int .u64 ah, .int .u64 al]) "Wide").run Tryz.prog w = .ok (21, (.agg #[.int .u64 ah, .int .u64 al])) w := fun _ => by kernel_rfl
  have hmb : ∀ w : World, (method 267 46 (.agg #[.int .u64 bh, .int .u64 bl]) "Wide").run Tryz.prog w = .ok (21, (.agg #[.int .u64 bh, .int .u64 bl])) w := fun _ => by kernel_rfl
  have dhh : ((ah : Int) != bh) = false := by simp [hh]
  have dhl : ((al : Int) != bl) = false := by simp [hl]
  clear hh hl
  go_enter Tryz.func9, Tryz.ntmps9
  go_wp2_with fail
  refine (wide6_any ah al _).mono ?_
  rintro e x1 ⟨rfl, hb1⟩
  have hc1 : Below w.heap.size w x1 := hb1
  go_wp2_with fail
  refine (wide6_any bh bl _).mono ?_
  rintro e x2 ⟨rfl, hb2⟩
  have hc2 : Below w.heap.size w x2 := hc1.trans (hb2.mono hc1.size)
  go_wp2_with fail
  refine (rank_six ah al _).mono ?_
  rintro e x3 ⟨rfl, rfl⟩
  go_wp2_with fail
  refine (rank_six bh bl _).mono ?_
  rintro e x4 ⟨rfl, rfl⟩
  go_wp2_with fail
  refine (cmpInt_any 2 2 _).mono ?_
  rintro e x5 ⟨rfl, rfl⟩
  go_wp2
  go_ret
  exact ⟨rfl, hc2⟩

theorem cmpZ_hi {a b : AZ} (h : a.hi ≠ b.hi) : cmpZ a b = cmpI a.hi b.hi := if_pos h
theorem cmpZ_lo {a b : AZ} (h : a.hi = b.hi) (h2 : a.lo ≠ b.lo) : cmpZ a b = cmpI a.lo b.lo := (if_neg (fun k => k h)).trans (if_pos h2)
theorem cmpZ_rk {a b : AZ} (h : a.hi = b.hi) (h2 : a.lo = b.lo) : cmpZ a b = cmpI a.rk b.rk := (if_neg (fun k => k h)).trans (if_neg (fun k => k h2))
theorem compare_any (a b : AZ) (w : World) (ha : a.Ok) (hb : b.Ok) :
    Calls Tryz.prog 9 #[a.val, b.val] w fun e w' => e = .returned (.int .i64 (cmpZ a b)) ∧ Below w.heap.size w w' := by
  by_cases hh : a.hi = b.hi
  · by_cases hl : a.lo = b.lo
    · rw [cmpZ_rk hh hl]
      cases a with
      | four an =>
        cases b with
        | four bn => exact compare_44_rk an bn w ha.1 ha.2 hb.1 hb.2 hl
        | six bh bl => exact compare_46_rk an bh bl w ha.1 ha.2 hh hl
      | six ah al =>
        cases b with
        | four bn => exact compare_64_rk ah al bn w hb.1 hb.2 hh hl
        | six bh bl => exact compare_66_rk ah al bh bl w hh hl
    · rw [cmpZ_lo hh hl]
      cases a with
      | four an =>
        cases b with
        | four bn => exact compare_44_lo an bn w ha.1 ha.2 hb.1 hb.2 hl
        | six bh bl => exact compare_46_lo an bh bl w ha.1 ha.2 hh hl
      | six ah al =>
        cases b with
        | four bn => exact compare_64_lo ah al bn w hb.1 hb.2 hh hl
        | six bh bl => exact compare_66_lo ah al bh bl w hh hl
  · rw [cmpZ_hi hh]
    cases a with
    | four an =>
      cases b with
      | four bn => exact absurd rfl hh
      | six bh bl => exact compare_46_hi an bh bl w ha.1 ha.2 hh
    | six ah al =>
      cases b with
      | four bn => exact compare_64_hi ah al bn w hb.1 hb.2 hh
      | six bh bl => exact compare_66_hi ah al bh bl w hh

set_option maxRecDepth 100000 in
set_option maxHeartbeats 1000000 in
theorem compare_nn (w : World) :
    Calls Tryz.prog 9 #[.nilIface, .nilIface] w fun e w' => e = .returned (.int .i64 (0)) ∧ w = w' := by
  go_enter Tryz.func9, Tryz.ntmps9
  go_wp2_with fail
  refine (rank_nil _).mono ?_
  rintro e x1 ⟨rfl, rfl⟩
  go_wp2_with fail
  refine (rank_nil _).mono ?_
  rintro e x2 ⟨rfl, rfl⟩
  go_wp2_with fail
  refine (cmpInt_any 0 0 _).mono ?_
  rintro e x3 ⟨rfl, rfl⟩
  rw [show cmpI 0 0 = 0 from by decide]
  go_wp2
  go_ret
  exact ⟨rfl, rfl⟩
set_option maxRecDepth 100000 in
set_option maxHeartbeats 1000000 in
theorem compare_n4 (n : Int) (w : World) :
    Calls Tryz.prog 9 #[.nilIface, .iface 31 (.int .u32 n)] w fun e w' => e = .returned (.int .i64 (-1)) ∧ w = w' := by
  go_enter Tryz.func9, Tryz.ntmps9
  go_wp2_with fail
  refine (rank_nil _).mono ?_
  rintro e x1 ⟨rfl, rfl⟩
  go_wp2_with fail
  refine (rank_four n _).mono ?_
  rintro e x2 ⟨rfl, rfl⟩
  go_wp2_with fail
  refine (cmpInt_any 0 1 _).mono ?_
  rintro e x3 ⟨rfl, rfl⟩
  rw [show cmpI 0 1 = -1 from by decide]
  go_wp2
  go_ret
  exact ⟨rfl, rfl⟩
set_option maxRecDepth 100000 in
set_option maxHeartbeats 1000000 in
theorem compare_6n (hi lo : Int) (w : World) :
    Calls Tryz.prog 9 #[.iface 46 (.agg #[.int .u64 hi, .int .u64 lo]), .nilIface] w fun e w' => e = .returned (.int .i64 (1)) ∧ w = w' := by
  go_enter Tryz.func9, Tryz.ntmps9
  go_wp2_with fail
  refine (rank_six hi lo _).mono ?_
  rintro e x1 ⟨rfl, rfl⟩
  go_wp2_with fail
  refine (rank_nil _).mono ?_
  rintro e x2 ⟨rfl, rfl⟩
  go_wp2_with fail
  refine (cmpInt_any 2 0 _).mono ?_
  rintro e x3 ⟨rfl, rfl⟩
  rw [show cmpI 2 0 = 1 from by decide]
  go_wp2
  go_ret
  exact ⟨rfl, rfl⟩
end Go.Proofs.YtgmfgcpfpopboaaGreatDoor
