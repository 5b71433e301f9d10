/-
  Layer 6: addresses of both sorts: making, Four, rank, Parse.
-/
import Derived.Test.YtgmfgcpfpopboaaGreatDoorSixN
import Derived.Test.YtgmfgcpfpopboaaGreatDoorMgC
namespace Go.Proofs.YtgmfgcpfpopboaaGreatDoor
open Go.RowKit


/-- an address of either sort -/
inductive AZ where
  | four (n : Int)
  | six (hi lo : Int)
def AZ.val : AZ → Value
  | .four n => .iface 31 (.int .u32 n)
  | .six hi lo => .iface 46 (.agg #[.int .u64 hi, .int .u64 lo])
def AZ.Ok : AZ → Prop
  | .four n => 0 ≤ n ∧ n ≤ 4294967295
  | .six hi lo => (0 ≤ hi ∧ hi ≤ 18446744073709551615) ∧ (0 ≤ lo ∧ lo ≤ 18446744073709551615)
def AZ.make (is : Bool) (hi lo : Int) : AZ := if is then .six hi lo else .four (lo % 4294967296)

theorem as44 (v : Value) (w : World) : (Instr.typeAssert (.iface 31 v) 25 31 true).run Tryz.prog w = .ok (.tuple #[v, .bool true]) w := by kernel_rfl
theorem as64 (v : Value) (w : World) : (Instr.typeAssert (.iface 46 v) 25 31 true).run Tryz.prog w = .ok (.tuple #[.int .u32 0, .bool false]) w := by kernel_rfl
theorem asN4 (w : World) : (Instr.typeAssert .nilIface 25 31 true).run Tryz.prog w = .ok (.tuple #[.int .u32 0, .bool false]) w := by kernel_rfl
theorem as46 (v : Value) (w : World) : (Instr.typeAssert (.iface 31 v) 25 46 true).run Tryz.prog w = .ok (.tuple #[.agg #[.int .u64 0, .int .u64 0], .bool false]) w := by kernel_rfl
theorem as66 (v : Value) (w : World) : (Instr.typeAssert (.iface 46 v) 25 46 true).run Tryz.prog w = .ok (.tuple #[v, .bool true]) w := by kernel_rfl
theorem asN6 (w : World) : (Instr.typeAssert .nilIface 25 46 true).run Tryz.prog w = .ok (.tuple #[.agg #[.int .u64 0, .int .u64 0], .bool false]) w := by kernel_rfl

theorem u32_wrap (x : Int) : IntKind.u32.wrap x = x % 4294967296 := by rw [IntKind.wrap_u32]

set_option maxHeartbeats 1000000 in
theorem make6_any (is : Bool) (hi lo : Int) (w : World) :
    Calls Tryz.prog 5 #[.bool is, .int .u64 hi, .int .u64 lo] w fun e w' => e = .returned (AZ.make is hi lo).val ∧ w = w' := by
  cases is with
  | true =>
    go_enter Tryz.func5, Tryz.ntmps5
    go_wp2
    go_ret
    exact ⟨rfl, rfl⟩
  | false =>
    have hw := u32_wrap lo
    go_enter Tryz.func5, Tryz.ntmps5
    go_wp2
    go_ret
    exact ⟨rfl, rfl⟩

set_option maxRecDepth 100000 in
set_option maxHeartbeats 1000000 in
theorem fourA_four (n : Int) (w : World) :
    Calls Tryz.prog 8 #[.iface 31 (.int .u32 n)] w fun e w' => e = .returned (.tuple #[.int .u32 n, .bool true]) ∧ w = w' := by
  have hta := as44
  go_enter Tryz.func8, Tryz.ntmps8
  go_wp2
  go_ret2
  exact ⟨rfl, rfl⟩
set_option maxRecDepth 100000 in
set_option maxHeartbeats 1000000 in
theorem fourA_six (hi lo : Int) (w : World) :
    Calls Tryz.prog 8 #[.iface 46 (.agg #[.int .u64 hi, .int .u64 lo])] w fun e w' => e = .returned (.tuple #[.int .u32 0, .bool false]) ∧ w = w' := by
  have hta := as64
  go_enter Tryz.func8, Tryz.ntmps8
  go_wp2
  go_ret2
  exact ⟨rfl, rfl⟩
set_option maxRecDepth 100000 in
set_option maxHeartbeats 1000000 in
theorem fourA_nil (w : World) :
    Calls Tryz.prog 8 #[.nilIface] w fun e w' => e = .returned (.tuple #[.int .u32 0, .bool false]) ∧ w = w' := by
  have hta := asN4
  go_enter Tryz.func8, Tryz.ntmps8
  go_wp2
  go_ret2
  exact ⟨rfl, rfl⟩

set_option maxHeartbeats 1000000 in
theorem rank_four (n : Int) (w : World) :
    Calls Tryz.prog 25 #[.iface 31 (.int .u32 n)] w fun e w' => e = .returned (.int .i64 1) ∧ w = w' := by
  go_enter Tryz.func25, Tryz.ntmps25
  go_wp2_with fail
  refine (fourA_four n _).mono ?_
  rintro e w' ⟨rfl, rfl⟩
  go_wp2
  go_ret
  exact ⟨rfl, rfl⟩
set_option maxHeartbeats 1000000 in
theorem rank_six (hi lo : Int) (w : World) :
    Calls Tryz.prog 25 #[.iface 46 (.agg #[.int .u64 hi, .int .u64 lo])] w fun e w' => e = .returned (.int .i64 2) ∧ w = w' := by
  go_enter Tryz.func25, Tryz.ntmps25
  go_wp2_with fail
  refine (fourA_six hi lo _).mono ?_
  rintro e w' ⟨rfl, rfl⟩
  go_wp2
  go_ret
  exact ⟨rfl, rfl⟩
set_option maxHeartbeats 1000000 in
theorem rank_nil (w : World) :
    Calls Tryz.prog 25 #[.nilIface] w fun e w' => e = .returned (.int .i64 0) ∧ w = w' := by
  go_enter Tryz.func25, Tryz.ntmps25
  go_wp2
  go_ret
  exact ⟨rfl, rfl⟩

/-- what a text is -/
def addrZ (l : List UInt8) : Option AZ :=
  if (strictZ l).2 = true then some (.four (strictZ l).1) else if (sixZ l).2 = true then some (.six (sixZ l).1.1 (sixZ l).1.2) else none
def optV : Option AZ → Value
  | none => .nilIface
  | some a => a.val
theorem sixZ_ok (l : List UInt8) : (0 ≤ (sixZ l).1.1 ∧ (sixZ l).1.1 ≤ 18446744073709551615) ∧ (0 ≤ (sixZ l).1.2 ∧ (sixZ l).1.2 ≤ 18446744073709551615) := ⟨hi4_bounds (sixL_in l), lo4_bounds (sixL_in l)⟩
theorem addrZ_ok {l : List UInt8} {a : AZ} (h : addrZ l = some a) : a.Ok := by
  unfold addrZ at h
  split at h
  · cases h; exact strictZ_bounds l
  · split at h
    · cases h; exact sixZ_ok l
    · cases h

def RetAddrV (w : World) (x : Option AZ) (e : Ending) (w' : World) : Prop := e = .returned (.tuple #[optV x, .bool x.isSome]) ∧ Below w.heap.size w w'

set_option maxRecDepth 100000 in
set_option maxHeartbeats 1000000 in
theorem addrParse_any (s : ByteArray) (w : World) (hs : s.size ≤ 1073741824) (hmax : MaxVar w) :
    Calls Tryz.prog 7 #[.string s] w (RetAddrV w (addrZ s.data.toList)) := by
  have HX := Lib.hid hmax
  clear hmax
  obtain ⟨y, b4, hy⟩ : ∃ x b, strictZ s.data.toList = (x, b) := ⟨_, _, rfl⟩
  have HY := Lib.hid hy
  obtain ⟨h, l, b6, hz⟩ : ∃ h l b, sixZ s.data.toList = ((h, l), b) := ⟨_, _, _, rfl⟩
  have HZ := Lib.hid hz
  have HA : Hid (addrZ s.data.toList = if b4 = true then some (.four y) else if b6 = true then some (.six h l) else none) := by
    show addrZ s.data.toList = _
    unfold addrZ; rw [hy, hz]
  clear hy hz
  cases b4 with
  | true =>
    go_enter Tryz.func7, Tryz.ntmps7
    go_wp2_with fail
    refine (strict_any s _ hs).mono ?_
    rw [HY.out]
    rintro e w1 ⟨rfl, hb1⟩
    go_wp2
    go_ret2
    exact ⟨by rw [HA.out]; rfl, hb1⟩
  | false =>
    go_enter Tryz.func7, Tryz.ntmps7
    go_wp2_with fail
    refine (strict_any s _ hs).mono ?_
    rw [HY.out]
    rintro e w1 ⟨rfl, hb1⟩
    go_wp2_with fail
    refine (parse6_any s _ hs (maxVar_below HX.out hb1)).mono ?_
    rw [HZ.out]
    rintro e w2 ⟨rfl, hb2⟩
    have hc2 : Below w.heap.size w w2 := hb1.trans (hb2.mono hb1.size)
    cases b6 with
    | true =>
      go_wp2
      go_ret2
      exact ⟨by rw [HA.out]; rfl, hc2.alloc hc2.size _⟩
    | false =>
      go_wp2
      go_ret2
      exact ⟨by rw [HA.out]; rfl, hc2.alloc hc2.size _⟩
end Go.Proofs.YtgmfgcpfpopboaaGreatDoor
