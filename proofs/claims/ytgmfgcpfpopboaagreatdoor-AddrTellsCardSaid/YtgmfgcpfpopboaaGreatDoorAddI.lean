/-
  Layer 6: an address that must be one of eight pieces; whether it panics.
-/
import Derived.Test.YtgmfgcpfpopboaaGreatDoorAddH
import Derived.Defers
import Derived.Recover
namespace Go.Proofs.YtgmfgcpfpopboaaGreatDoor
open Go.RowKit


theorem asPn (w : World) : (Instr.typeAssert .nilIface 25 46 false).run Tryz.prog w = .halt (.panic (.iface 15 (.pointer (some ⟨w.heap.size, 0, none⟩)))) (w.alloc (.cells #[.pointer (some ⟨Tryz.prog.globals.size, 25, none⟩), .pointer none, .pointer (some ⟨Tryz.prog.globals.size, 46, none⟩), .string ⟨#[]⟩] 153)) := by kernel_rfl
theorem asP4 (n : Int) (w : World) : (Instr.typeAssert (.iface 31 (.int .u32 n)) 25 46 false).run Tryz.prog w = .halt (.panic (.iface 15 (.pointer (some ⟨w.heap.size, 0, none⟩)))) (w.alloc (.cells #[.pointer (some ⟨Tryz.prog.globals.size, 25, none⟩), .pointer (some ⟨Tryz.prog.globals.size, 31, none⟩), .pointer (some ⟨Tryz.prog.globals.size, 46, none⟩), .string ⟨#[]⟩] 153)) := by kernel_rfl
theorem asP6 (v : Value) (w : World) : (Instr.typeAssert (.iface 46 v) 25 46 false).run Tryz.prog w = .ok v w := by kernel_rfl

def RetPanic (w : World) (e : Ending) (w' : World) : Prop := (∃ v, e = .panicked [{ v := .iface 15 v, recovered := false }]) ∧ Below w.heap.size w w'

set_option maxRecDepth 100000 in
set_option maxHeartbeats 1000000 in
theorem must_nil (w : World) : Calls Tryz.prog 15 #[.nilIface] w (RetPanic w) := by
  have hta := asPn
  go_enter Tryz.func15, Tryz.ntmps15
  go_wp2
  exact ⟨rfl, ⟨_, rfl⟩, ((Below.refl _ _).alloc (Nat.le_refl _) _).alloc (by simp) _⟩
set_option maxRecDepth 100000 in
set_option maxHeartbeats 1000000 in
theorem must_four (n : Int) (w : World) : Calls Tryz.prog 15 #[.iface 31 (.int .u32 n)] w (RetPanic w) := by
  have hta := asP4
  go_enter Tryz.func15, Tryz.ntmps15
  go_wp2
  exact ⟨rfl, ⟨_, rfl⟩, ((Below.refl _ _).alloc (Nat.le_refl _) _).alloc (by simp) _⟩

set_option maxRecDepth 100000 in
set_option maxHeartbeats 1000000 in
theorem catch_panicking (p : Addr) (x : Bool) (u : TypeId) (pv : Value) (older : List PanicEntry) (w : World) (hc : w.cell? p = some (.bool x)) (hz : w.frozen? p = false) :
    CallsD Tryz.prog 31 #[.pointer (some p)] (.panicking ({ v := .iface u pv, recovered := false } :: older)) w fun e u' w' =>
      e = .returned (.tuple #[]) ∧ u' = .panicking ({ v := .iface u pv, recovered := true } :: older) ∧ w' = w.setCell p (.bool true) := by
  refine callsD_of_wpS Tryz.func31 rfl fun c₀ cs hu => ?_
  apply wpS_region
  simp [wpOpsS, go_sem, recoverD, hu, Tryz.ntmps31, hc, hz, bodyPostS, results, Tryz.results31]
set_option maxRecDepth 100000 in
set_option maxHeartbeats 1000000 in
theorem catch_idle (p : Addr) (x : Bool) (w : World) (hc : w.cell? p = some (.bool x)) (hz : w.frozen? p = false) :
    CallsD Tryz.prog 31 #[.pointer (some p)] .returning w fun e u' w' => e = .returned (.tuple #[]) ∧ u' = .returning ∧ w' = w.setCell p (.bool false) := by
  refine callsD_of_wpS Tryz.func31 rfl fun c₀ cs hu => ?_
  apply wpS_region
  simp [wpOpsS, go_sem, recoverD, hu, Tryz.ntmps31, hc, hz, bodyPostS, results, Tryz.results31]
  cases c₀
  simp_all

theorem Nums.none {t : TypeId} {k : IntKind} {B : Nat} {w : World} {v : Value} (h : Nums t k B w v []) : ∃ a c, v = .slice a 0 c := by
  obtain ⟨a, c, hv, _⟩ := h.row
  exact ⟨a, c, by simpa using hv⟩
theorem set_same {x : World} {b : Nat} {t : TypeId} (h : x.heap[b]? = some (.cells #[.bool false] t (0, 0))) : (x.setCell ⟨b, 0, none⟩ (.bool true)).cell? ⟨b, 0, none⟩ = some (.bool true) := by
  simp [World.setCell, World.cell?, Array.getElem?_modify, h]
set_option maxRecDepth 100000 in
set_option maxHeartbeats 1000000 in
theorem must_six (hi lo : Int) (w : World) : Calls Tryz.prog 15 #[.iface 46 (.agg #[.int .u64 hi, .int .u64 lo])] w fun e w' => e = .returned (.agg #[.int .u64 hi, .int .u64 lo]) ∧ Below w.heap.size w w' := by
  have hta := asP6
  go_enter Tryz.func15, Tryz.ntmps15
  go_wp2
  exact bodyPost_ret (v := .agg #[.int .u64 hi, .int .u64 lo]) (by simp [results, Tryz.results15, go_sem]) rfl ⟨rfl, (Below.refl _ _).alloc (Nat.le_refl _) _⟩

set_option maxRecDepth 100000 in
set_option maxHeartbeats 1000000 in
theorem panics_nil (w : World) : Calls Tryz.prog 14 #[.nilIface] w fun e w' => e = .returned (.bool true) ∧ Below w.heap.size w w' := by
  have hmf : ∀ (fn : Fn) (first cap : Array Value) (w : World), (Instr.makeFunc fn first cap).run Tryz.prog w = .ok (.func fn first cap) w := fun _ _ _ _ => rfl
  go_enter_defers Tryz.func14, Tryz.ntmps14
  go_wp2_with fail
  refine (must_nil _).mono ?_
  rintro e x1 ⟨⟨v, rfl⟩, hb1⟩
  go_wp2
  have hblk : x1.heap[w.heap.size]? = some (.cells #[.bool false] 4 (0, 0)) := (hb1.block _ (by simp)).trans (heap_alloc_new w _)
  have hbe : Below w.heap.size w x1 := ((Below.refl _ w).alloc (Nat.le_refl _) _).trans (hb1.mono (by simp))
  refine leaves_cons (f := 31) (args := #[.pointer (some ⟨w.heap.size, 0, none⟩)]) (by simp) (by simp [go_sem]) ?_
  refine (catch_panicking ⟨w.heap.size, 0, none⟩ false _ v [] _ (by simp [World.cell?, hblk]) (by simp [World.frozen?, hblk])).mono ?_
  rintro e u' w'' ⟨rfl, rfl, rfl⟩
  have hset : (x1.setCell ⟨w.heap.size, 0, none⟩ (.bool true)).cell? ⟨w.heap.size, 0, none⟩ = some (.bool true) := set_same hblk
  refine ⟨.bool true, ?_, rfl, hbe.setCell (Nat.le_refl _) _⟩
  simp [results, Tryz.results14, go_sem, hset]
set_option maxRecDepth 100000 in
set_option maxHeartbeats 1000000 in
theorem panics_four (n : Int) (w : World) : Calls Tryz.prog 14 #[.iface 31 (.int .u32 n)] w fun e w' => e = .returned (.bool true) ∧ Below w.heap.size w w' := by
  have hmf : ∀ (fn : Fn) (first cap : Array Value) (w : World), (Instr.makeFunc fn first cap).run Tryz.prog w = .ok (.func fn first cap) w := fun _ _ _ _ => rfl
  go_enter_defers Tryz.func14, Tryz.ntmps14
  go_wp2_with fail
  refine (must_four n _).mono ?_
  rintro e x1 ⟨⟨v, rfl⟩, hb1⟩
  go_wp2
  have hblk : x1.heap[w.heap.size]? = some (.cells #[.bool false] 4 (0, 0)) := (hb1.block _ (by simp)).trans (heap_alloc_new w _)
  have hbe : Below w.heap.size w x1 := ((Below.refl _ w).alloc (Nat.le_refl _) _).trans (hb1.mono (by simp))
  refine leaves_cons (f := 31) (args := #[.pointer (some ⟨w.heap.size, 0, none⟩)]) (by simp) (by simp [go_sem]) ?_
  refine (catch_panicking ⟨w.heap.size, 0, none⟩ false _ v [] _ (by simp [World.cell?, hblk]) (by simp [World.frozen?, hblk])).mono ?_
  rintro e u' w'' ⟨rfl, rfl, rfl⟩
  have hset : (x1.setCell ⟨w.heap.size, 0, none⟩ (.bool true)).cell? ⟨w.heap.size, 0, none⟩ = some (.bool true) := set_same hblk
  refine ⟨.bool true, ?_, rfl, hbe.setCell (Nat.le_refl _) _⟩
  simp [results, Tryz.results14, go_sem, hset]
set_option maxRecDepth 100000 in
set_option maxHeartbeats 1000000 in
theorem panics_six (hi lo : Int) (w : World) : Calls Tryz.prog 14 #[.iface 46 (.agg #[.int .u64 hi, .int .u64 lo])] w fun e w' => e = .returned (.bool false) ∧ Below w.heap.size w w' := by
  have hmf : ∀ (fn : Fn) (first cap : Array Value) (w : World), (Instr.makeFunc fn first cap).run Tryz.prog w = .ok (.func fn first cap) w := fun _ _ _ _ => rfl
  go_enter_defers Tryz.func14, Tryz.ntmps14
  go_wp2_with fail
  refine (must_six hi lo _).mono ?_
  rintro e x1 ⟨rfl, hb1⟩
  have hblk : x1.heap[w.heap.size]? = some (.cells #[.bool false] 4 (0, 0)) := (hb1.block _ (by simp)).trans (heap_alloc_new w _)
  have hcl : x1.cell? ⟨w.heap.size, 0, none⟩ = some (.bool false) := by simp [World.cell?, hblk]
  have hfz : x1.frozen? ⟨w.heap.size, 0, none⟩ = false := by simp [World.frozen?, hblk]
  have hbe : Below w.heap.size w x1 := ((Below.refl _ w).alloc (Nat.le_refl _) _).trans (hb1.mono (by simp))
  have hset : (x1.setCell ⟨w.heap.size, 0, none⟩ (.bool false)).heap[w.heap.size]? = some (.cells #[.bool false] 4 (0, 0)) := by simp [World.setCell, Array.getElem?_modify, hblk]
  clear hb1
  go_wp2
  refine leaves_cons (f := 31) (args := #[.pointer (some ⟨w.heap.size, 0, none⟩)]) (by simp) (by simp [go_sem]) ?_
  refine (catch_idle ⟨w.heap.size, 0, none⟩ false _ (by simp [World.cell?, hset]) (by simp [World.frozen?, hset])).mono ?_
  rintro e u' w'' ⟨rfl, rfl, rfl⟩
  refine ⟨.bool false, ?_, rfl, (hbe.setCell (Nat.le_refl _) _).setCell (Nat.le_refl _) _⟩
  simp [results, Tryz.results14, go_sem, World.setCell, World.cell?, Array.getElem?_modify, hblk]
end Go.Proofs.YtgmfgcpfpopboaaGreatDoor
