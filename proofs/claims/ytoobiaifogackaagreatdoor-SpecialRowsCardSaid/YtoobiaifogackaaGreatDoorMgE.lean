/-
  Layer 6.
-/
import Derived.Test.YtoobiaifogackaaGreatDoorMgD
import Derived.Test.YtoobiaifogackaaGreatDoorMgC
import Derived.Deep.DeepCutAuto
import Derived.Defers
import Derived.Recover
import Derived.Deep.OwnRows
namespace Go.Proofs.YtoobiaifogackaaGreatDoor
section
open Go.RowKit


/-- an address of either sort -/
inductive AZ where
  | four (n : Int)
  | six (hi lo : Int)
def AZ.val : AZ → Value
  | .four n => .iface 92 (.int .u32 n)
  | .six hi lo => .iface 96 (.agg #[.int .u64 hi, .int .u64 lo])
def AZ.Ok : AZ → Prop
  | .four n => 0 ≤ n ∧ n ≤ 4294967295
  | .six hi lo => (0 ≤ hi ∧ hi ≤ 18446744073709551615) ∧ (0 ≤ lo ∧ lo ≤ 18446744073709551615)
def AZ.make (is : Bool) (hi lo : Int) : AZ := if is then .six hi lo else .four (lo % 4294967296)

theorem as44 (v : Value) (w : World) : (Instr.typeAssert (.iface 92 v) 25 92 true).run Tryz.prog w = .ok (.tuple #[v, .bool true]) w := by kernel_rfl
theorem as64 (v : Value) (w : World) : (Instr.typeAssert (.iface 96 v) 25 92 true).run Tryz.prog w = .ok (.tuple #[.int .u32 0, .bool false]) w := by kernel_rfl
theorem asN4 (w : World) : (Instr.typeAssert .nilIface 25 92 true).run Tryz.prog w = .ok (.tuple #[.int .u32 0, .bool false]) w := by kernel_rfl
theorem as46 (v : Value) (w : World) : (Instr.typeAssert (.iface 92 v) 25 96 true).run Tryz.prog w = .ok (.tuple #[.agg #[.int .u64 0, .int .u64 0], .bool false]) w := by kernel_rfl
theorem as66 (v : Value) (w : World) : (Instr.typeAssert (.iface 96 v) 25 96 true).run Tryz.prog w = .ok (.tuple #[v, .bool true]) w := by kernel_rfl
theorem asN6 (w : World) : (Instr.typeAssert .nilIface 25 96 true).run Tryz.prog w = .ok (.tuple #[.agg #[.int .u64 0, .int .u64 0], .bool false]) w := by kernel_rfl

theorem u32_wrap (x : Int) : IntKind.u32.wrap x = x % 4294967296 := by rw [IntKind.wrap_u32]

set_option maxHeartbeats 1000000 in
theorem make6_any (is : Bool) (hi lo : Int) (w : World) :
    Calls Tryz.prog 12 #[.bool is, .int .u64 hi, .int .u64 lo] w fun e w' => e = .returned (AZ.make is hi lo).val ∧ w = w' := by
  cases is with
  | true =>
    go_enter Tryz.func12, Tryz.ntmps12
    go_wp2
    go_ret
    exact ⟨rfl, rfl⟩
  | false =>
    have hw := u32_wrap lo
    go_enter Tryz.func12, Tryz.ntmps12
    go_wp2
    go_ret
    exact ⟨rfl, rfl⟩

set_option maxRecDepth 100000 in
set_option maxHeartbeats 1000000 in
theorem fourA_four (n : Int) (w : World) :
    Calls Tryz.prog 112 #[.iface 92 (.int .u32 n)] w fun e w' => e = .returned (.tuple #[.int .u32 n, .bool true]) ∧ w = w' := by
  have hta := as44
  go_enter Tryz.func112, Tryz.ntmps112
  go_wp2
  go_ret2
  exact ⟨rfl, rfl⟩
set_option maxRecDepth 100000 in
set_option maxHeartbeats 1000000 in
theorem fourA_six (hi lo : Int) (w : World) :
    Calls Tryz.prog 112 #[.iface 96 (.agg #[.int .u64 hi, .int .u64 lo])] w fun e w' => e = .returned (.tuple #[.int .u32 0, .bool false]) ∧ w = w' := by
  have hta := as64
  go_enter Tryz.func112, Tryz.ntmps112
  go_wp2
  go_ret2
  exact ⟨rfl, rfl⟩
set_option maxRecDepth 100000 in
set_option maxHeartbeats 1000000 in
theorem fourA_nil (w : World) :
    Calls Tryz.prog 112 #[.nilIface] w fun e w' => e = .returned (.tuple #[.int .u32 0, .bool false]) ∧ w = w' := by
  have hta := asN4
  go_enter Tryz.func112, Tryz.ntmps112
  go_wp2
  go_ret2
  exact ⟨rfl, rfl⟩

/-- what a text is -/
def addrZ (l : List UInt8) : Option AZ :=
  if (strictZ l).2 = true then some (.four (strictZ l).1) else if (sixZ l).2 = true then some (.six (sixZ l).1.1 (sixZ l).1.2) else none
def optV : Option AZ → Value
  | none => .nilIface
  | some a => a.val
theorem sixZ_ok (l : List UInt8) : (0 ≤ (sixZ l).1.1 ∧ (sixZ l).1.1 ≤ 18446744073709551615) ∧ (0 ≤ (sixZ l).1.2 ∧ (sixZ l).1.2 ≤ 18446744073709551615) := ⟨hi4_bounds (sixL_in l), lo4_bounds (sixL_in l)⟩
theorem addrZ_ok {l : List UInt8} {a : AZ} (h : addrZ l = some a) : a.Ok := by
  unfold addrZ at h
  split at h
  · cases h; exact strictZ_bounds l
  · split at h
    · cases h; exact sixZ_ok l
    · cases h

def RetAddrV (w : World) (x : Option AZ) (e : Ending) (w' : World) : Prop := e = .returned (.tuple #[optV x, .bool x.isSome]) ∧ Below w.heap.size w w'

set_option maxRecDepth 100000 in
set_option maxHeartbeats 1000000 in
theorem addrParse_any (s : ByteArray) (w : World) (hs : s.size ≤ 1073741824) (hmax : MaxVar w) :
    Calls Tryz.prog 107 #[.string s] w (RetAddrV w (addrZ s.data.toList)) := by
  have HX := Lib.hid hmax
  clear hmax
  obtain ⟨y, b4, hy⟩ : ∃ x b, strictZ s.data.toList = (x, b) := ⟨_, _, rfl⟩
  have HY := Lib.hid hy
  obtain ⟨h, l, b6, hz⟩ : ∃ h l b, sixZ s.data.toList = ((h, l), b) := ⟨_, _, _, rfl⟩
  have HZ := Lib.hid hz
  have HA : Hid (addrZ s.data.toList = if b4 = true then some (.four y) else if b6 = true then some (.six h l) else none) := by
    show addrZ s.data.toList = _
    unfold addrZ; rw [hy, hz]
  clear hy hz
  cases b4 with
  | true =>
    go_enter Tryz.func107, Tryz.ntmps107
    go_wp2_with fail
    refine (strict_any s _ hs).mono ?_
    rw [HY.out]
    rintro e w1 ⟨rfl, hb1⟩
    go_wp2
    go_ret2
    exact ⟨by rw [HA.out]; rfl, hb1⟩
  | false =>
    go_enter Tryz.func107, Tryz.ntmps107
    go_wp2_with fail
    refine (strict_any s _ hs).mono ?_
    rw [HY.out]
    rintro e w1 ⟨rfl, hb1⟩
    go_wp2_with fail
    refine (parse6_any s _ hs (maxVar_below HX.out hb1)).mono ?_
    rw [HZ.out]
    rintro e w2 ⟨rfl, hb2⟩
    have hc2 : Below w.heap.size w w2 := hb1.trans (hb2.mono hb1.size)
    cases b6 with
    | true =>
      go_wp2
      go_ret2
      exact ⟨by rw [HA.out]; rfl, hc2.alloc hc2.size _⟩
    | false =>
      go_wp2
      go_ret2
      exact ⟨by rw [HA.out]; rfl, hc2.alloc hc2.size _⟩
end

section
open Go.RowKit


def inA (hi th lw : Int) : List Int := if hi = 0 ∧ th = 65535 then [lw] else []
def inCo (hi th lw : Int) : List Int := if hi = 0 ∧ th = 0 ∧ 1 < lw then [lw] else []
def inC (hi th lw : Int) : List Int := if hi = 28428538856079360 ∧ th = 0 then [lw] else []
def inD (hi : Int) : List Int := if hi / 281474976710656 = 8194 then [hi / 65536 % 4294967296] else []
def inE (hi lw : Int) : List Int := if hi / 4294967296 = 536936448 then [hi % 4294967296, 4294967295 - lw] else []
def inF (th lw : Int) : List Int := if th = 24318 ∨ th = 33578750 then [lw] else []
def innerZ (hi lo : Int) : List Int :=
  inA hi (lo / 4294967296) (lo % 4294967296) ++ inCo hi (lo / 4294967296) (lo % 4294967296) ++ inC hi (lo / 4294967296) (lo % 4294967296) ++ inD hi ++ inE hi (lo % 4294967296) ++ inF (lo / 4294967296) (lo % 4294967296)

theorem Tryz.infoFour : (Tryz.prog.info? 92).map (fun i => (i.zero, i.size, i.bytes)) = some (some (.int .u32 0), 1, 4) := by kernel_rfl

theorem xor32 (n : Int) (h0 : 0 ≤ n) (h1 : n ≤ 4294967295) : bits .xor .u32 (if IntKind.u32.signed = true then -1 else IntKind.u32.max) n = 4294967295 - n := by
  obtain ⟨a, rfl⟩ := Int.eq_ofNat_of_zero_le h0
  have ha : a < 2 ^ 32 := by omega
  have e1 : BitVec.ofInt 32 4294967295 = BitVec.allOnes 32 := by decide
  show IntKind.u32.wrap (((BitVec.ofInt 32 4294967295) ^^^ (BitVec.ofInt 32 (a : Int))).toNat : Int) = _
  rw [e1, BitVec.allOnes_xor, BitVec.toNat_not, BitVec.ofInt_natCast, BitVec.toNat_ofNat, Nat.mod_eq_of_lt ha, IntKind.wrap_u32]
  omega

def RetFours (w : World) (l : List Int) (e : Ending) (w' : World) : Prop := ∃ v, e = .returned v ∧ Nums 92 .u32 w.heap.size w' v l ∧ Below w.heap.size w w'

set_option maxRecDepth 100000 in
set_option maxHeartbeats 1000000 in
theorem inner_four (n : Int) (w : World) :
    Calls Tryz.prog 44 #[.iface 92 (.int .u32 n)] w (RetFours w []) := by
  have hta := as46
  go_enter Tryz.func44, Tryz.ntmps44
  go_wp2
  go_ret
  exact ⟨_, rfl, Nums.nil _ _ _ _, (Below.refl _ _).alloc (Nat.le_refl _) _⟩
set_option maxRecDepth 100000 in
set_option maxHeartbeats 1000000 in
theorem inner_nil (w : World) :
    Calls Tryz.prog 44 #[.nilIface] w (RetFours w []) := by
  have hta := asN6
  go_enter Tryz.func44, Tryz.ntmps44
  go_wp2
  go_ret
  exact ⟨_, rfl, Nums.nil _ _ _ _, (Below.refl _ _).alloc (Nat.le_refl _) _⟩
end

section
open Go.RowKit


set_option maxRecDepth 100000 in
set_option maxHeartbeats 2000000 in
theorem inner_zero_ffff (hi lo th lw : Int) (w : World) (hbd : (0 ≤ hi ∧ hi ≤ 18446744073709551615) ∧ (0 ≤ lo ∧ lo ≤ 18446744073709551615)) (hth : lo / 4294967296 = th) (hlw2 : lo % 4294967296 = lw) (hh : hi = 0) (hk : th = 65535) :
    Calls Tryz.prog 44 #[.iface 96 (.agg #[.int .u64 hi, .int .u64 lo])] w (RetFours w (innerZ hi lo)) := by
  obtain ⟨⟨h0, h1⟩, l0, l1⟩ := hbd
  obtain ⟨i0, hi0, hz0, hz1, hz2⟩ := info_parts Tryz.infoFour
  have hta := as66
  have hwl : IntKind.u32.wrap lo = lw := by rw [u32_wrap]; exact hlw2
  have hwd : IntKind.u32.wrap (hi / 65536) = hi / 65536 % 4294967296 := u32_wrap _
  have hwe : IntKind.u32.wrap hi = hi % 4294967296 := u32_wrap _
  have hA : inA hi th lw = [lw] := if_pos (by omega)
  have hB : inCo hi th lw = [] := if_neg (by omega)
  have hC : inC hi th lw = [] := if_neg (by omega)
  have hD : inD hi = [] := if_neg (by omega)
  have hE : inE hi lw = [] := if_neg (by omega)
  have hF : inF th lw = [] := if_neg (by omega)
  have HZ : Hid (innerZ hi lo = [lw]) := by show innerZ hi lo = _; rw [innerZ, hth, hlw2, hA, hB, hC, hD, hE, hF]; rfl
  clear hA hB hC hD hE hF
  have ht0 : 0 ≤ th := by omega
  have ht1 : th ≤ 4294967295 := by omega
  have hw0 : 0 ≤ lw := by omega
  have hw1 : lw ≤ 4294967295 := by omega
  have q1 : ((hi) == (0 : Int)) = true := by rw [beq_iff_eq]; omega
  have q2 : ((th) == (65535 : Int)) = true := by rw [beq_iff_eq]; omega
  have q3 : ((th) == (0 : Int)) = false := by rw [beq_eq_false_iff_ne]; omega
  have q5 : ((hi) == (28428538856079360 : Int)) = false := by rw [beq_eq_false_iff_ne]; omega
  have q6 : ((hi / 281474976710656) == (8194 : Int)) = false := by rw [beq_eq_false_iff_ne]; omega
  have q7 : ((hi / 4294967296) == (536936448 : Int)) = false := by rw [beq_eq_false_iff_ne]; omega
  have q8 : ((th) == (24318 : Int)) = false := by rw [beq_eq_false_iff_ne]; omega
  have q9 : ((th) == (33578750 : Int)) = false := by rw [beq_eq_false_iff_ne]; omega
  clear hlw2 hh hk
  have hc1 : Below w.heap.size w (w.alloc (.cells #[.int .u64 hi, .int .u64 lo] 96)) := (Below.refl _ w).alloc (Nat.le_refl _) _
  go_enter Tryz.func44, Tryz.ntmps44
  go_wp2_with fail
  refine (wide6_any hi lo _).mono ?_
  rintro e x1 ⟨rfl, hb1⟩
  have hc : Below w.heap.size w x1 := hc1.trans (hb1.mono hc1.size)
  have hsz := hc.size
  clear hb1 hc1 hta
  have hown0 := World.ownsRow_nil x1 w.heap.size 92 1
  go_wp2_with (first
    | (at_builtin; refine wp_append1 _ rfl _ _ 89 rfl w.heap.size 92 i0 (.int .u32 0) 4 Tryz.underlying89 hi0 hz0 hz1 hz2 rfl _ 0 _ rfl hown0 (.int .u32 lw) rfl rfl (by decide) (by decide) hsz ?_; intro v1 y1 hown1 hk1))
  go_ret
  exact ⟨_, rfl, by rw [HZ.out]; exact hown1, (hc.trans hk1)⟩
set_option maxRecDepth 100000 in
set_option maxHeartbeats 2000000 in
theorem inner_zero_zero_lw (hi lo th lw : Int) (w : World) (hbd : (0 ≤ hi ∧ hi ≤ 18446744073709551615) ∧ (0 ≤ lo ∧ lo ≤ 18446744073709551615)) (hth : lo / 4294967296 = th) (hlw2 : lo % 4294967296 = lw) (hh : hi = 0) (hk : th = 0) (hlw : 1 < lw) :
    Calls Tryz.prog 44 #[.iface 96 (.agg #[.int .u64 hi, .int .u64 lo])] w (RetFours w (innerZ hi lo)) := by
  obtain ⟨⟨h0, h1⟩, l0, l1⟩ := hbd
  obtain ⟨i0, hi0, hz0, hz1, hz2⟩ := info_parts Tryz.infoFour
  have hta := as66
  have hwl : IntKind.u32.wrap lo = lw := by rw [u32_wrap]; exact hlw2
  have hwd : IntKind.u32.wrap (hi / 65536) = hi / 65536 % 4294967296 := u32_wrap _
  have hwe : IntKind.u32.wrap hi = hi % 4294967296 := u32_wrap _
  have hA : inA hi th lw = [] := if_neg (by omega)
  have hB : inCo hi th lw = [lw] := if_pos (by omega)
  have hC : inC hi th lw = [] := if_neg (by omega)
  have hD : inD hi = [] := if_neg (by omega)
  have hE : inE hi lw = [] := if_neg (by omega)
  have hF : inF th lw = [] := if_neg (by omega)
  have HZ : Hid (innerZ hi lo = [lw]) := by show innerZ hi lo = _; rw [innerZ, hth, hlw2, hA, hB, hC, hD, hE, hF]; rfl
  clear hA hB hC hD hE hF
  have ht0 : 0 ≤ th := by omega
  have ht1 : th ≤ 4294967295 := by omega
  have hw0 : 0 ≤ lw := by omega
  have hw1 : lw ≤ 4294967295 := by omega
  have q1 : ((hi) == (0 : Int)) = true := by rw [beq_iff_eq]; omega
  have q2 : ((th) == (65535 : Int)) = false := by rw [beq_eq_false_iff_ne]; omega
  have q3 : ((th) == (0 : Int)) = true := by rw [beq_iff_eq]; omega
  have q5 : ((hi) == (28428538856079360 : Int)) = false := by rw [beq_eq_false_iff_ne]; omega
  have q6 : ((hi / 281474976710656) == (8194 : Int)) = false := by rw [beq_eq_false_iff_ne]; omega
  have q7 : ((hi / 4294967296) == (536936448 : Int)) = false := by rw [beq_eq_false_iff_ne]; omega
  have q8 : ((th) == (24318 : Int)) = false := by rw [beq_eq_false_iff_ne]; omega
  have q9 : ((th) == (33578750 : Int)) = false := by rw [beq_eq_false_iff_ne]; omega
  have q4 : decide ((1 : Int) < lw) = true := decide_eq_true (by omega)
  clear hlw2 hh hk
  have hc1 : Below w.heap.size w (w.alloc (.cells #[.int .u64 hi, .int .u64 lo] 96)) := (Below.refl _ w).alloc (Nat.le_refl _) _
  go_enter Tryz.func44, Tryz.ntmps44
  go_wp2_with fail
  refine (wide6_any hi lo _).mono ?_
  rintro e x1 ⟨rfl, hb1⟩
  have hc : Below w.heap.size w x1 := hc1.trans (hb1.mono hc1.size)
  have hsz := hc.size
  clear hb1 hc1 hta
  have hown0 := World.ownsRow_nil x1 w.heap.size 92 1
  go_wp2_with (first
    | (at_builtin; refine wp_append1 _ rfl _ _ 89 rfl w.heap.size 92 i0 (.int .u32 0) 4 Tryz.underlying89 hi0 hz0 hz1 hz2 rfl _ 0 _ rfl hown0 (.int .u32 lw) rfl rfl (by decide) (by decide) hsz ?_; intro v1 y1 hown1 hk1))
  go_ret
  exact ⟨_, rfl, by rw [HZ.out]; exact hown1, (hc.trans hk1)⟩
set_option maxRecDepth 100000 in
set_option maxHeartbeats 2000000 in
theorem inner_zero_zero (hi lo th lw : Int) (w : World) (hbd : (0 ≤ hi ∧ hi ≤ 18446744073709551615) ∧ (0 ≤ lo ∧ lo ≤ 18446744073709551615)) (hth : lo / 4294967296 = th) (hlw2 : lo % 4294967296 = lw) (hh : hi = 0) (hk : th = 0) (hlw : lw ≤ 1) :
    Calls Tryz.prog 44 #[.iface 96 (.agg #[.int .u64 hi, .int .u64 lo])] w (RetFours w (innerZ hi lo)) := by
  obtain ⟨⟨h0, h1⟩, l0, l1⟩ := hbd
  obtain ⟨i0, hi0, hz0, hz1, hz2⟩ := info_parts Tryz.infoFour
  have hta := as66
  have hwl : IntKind.u32.wrap lo = lw := by rw [u32_wrap]; exact hlw2
  have hwd : IntKind.u32.wrap (hi / 65536) = hi / 65536 % 4294967296 := u32_wrap _
  have hwe : IntKind.u32.wrap hi = hi % 4294967296 := u32_wrap _
  have hA : inA hi th lw = [] := if_neg (by omega)
  have hB : inCo hi th lw = [] := if_neg (by omega)
  have hC : inC hi th lw = [] := if_neg (by omega)
  have hD : inD hi = [] := if_neg (by omega)
  have hE : inE hi lw = [] := if_neg (by omega)
  have hF : inF th lw = [] := if_neg (by omega)
  have HZ : Hid (innerZ hi lo = []) := by show innerZ hi lo = _; rw [innerZ, hth, hlw2, hA, hB, hC, hD, hE, hF]; rfl
  clear hA hB hC hD hE hF
  have ht0 : 0 ≤ th := by omega
  have ht1 : th ≤ 4294967295 := by omega
  have hw0 : 0 ≤ lw := by omega
  have hw1 : lw ≤ 4294967295 := by omega
  have q1 : ((hi) == (0 : Int)) = true := by rw [beq_iff_eq]; omega
  have q2 : ((th) == (65535 : Int)) = false := by rw [beq_eq_false_iff_ne]; omega
  have q3 : ((th) == (0 : Int)) = true := by rw [beq_iff_eq]; omega
  have q5 : ((hi) == (28428538856079360 : Int)) = false := by rw [beq_eq_false_iff_ne]; omega
  have q6 : ((hi / 281474976710656) == (8194 : Int)) = false := by rw [beq_eq_false_iff_ne]; omega
  have q7 : ((hi / 4294967296) == (536936448 : Int)) = false := by rw [beq_eq_false_iff_ne]; omega
  have q8 : ((th) == (24318 : Int)) = false := by rw [beq_eq_false_iff_ne]; omega
  have q9 : ((th) == (33578750 : Int)) = false := by rw [beq_eq_false_iff_ne]; omega
  have q4 : decide ((1 : Int) < lw) = false := decide_eq_false (by omega)
  clear hlw2 hh hk
  have hc1 : Below w.heap.size w (w.alloc (.cells #[.int .u64 hi, .int .u64 lo] 96)) := (Below.refl _ w).alloc (Nat.le_refl _) _
  go_enter Tryz.func44, Tryz.ntmps44
  go_wp2_with fail
  refine (wide6_any hi lo _).mono ?_
  rintro e x1 ⟨rfl, hb1⟩
  have hc : Below w.heap.size w x1 := hc1.trans (hb1.mono hc1.size)
  have hsz := hc.size
  clear hb1 hc1 hta
  have hown0 := World.ownsRow_nil x1 w.heap.size 92 1
  go_wp2
  go_ret
  exact ⟨_, rfl, by rw [HZ.out]; exact Nums.nil _ _ _ _, hc⟩
set_option maxRecDepth 100000 in
set_option maxHeartbeats 2000000 in
theorem inner_zero_i1 (hi lo th lw : Int) (w : World) (hbd : (0 ≤ hi ∧ hi ≤ 18446744073709551615) ∧ (0 ≤ lo ∧ lo ≤ 18446744073709551615)) (hth : lo / 4294967296 = th) (hlw2 : lo % 4294967296 = lw) (hh : hi = 0) (hk : th = 24318) :
    Calls Tryz.prog 44 #[.iface 96 (.agg #[.int .u64 hi, .int .u64 lo])] w (RetFours w (innerZ hi lo)) := by
  obtain ⟨⟨h0, h1⟩, l0, l1⟩ := hbd
  obtain ⟨i0, hi0, hz0, hz1, hz2⟩ := info_parts Tryz.infoFour
  have hta := as66
  have hwl : IntKind.u32.wrap lo = lw := by rw [u32_wrap]; exact hlw2
  have hwd : IntKind.u32.wrap (hi / 65536) = hi / 65536 % 4294967296 := u32_wrap _
  have hwe : IntKind.u32.wrap hi = hi % 4294967296 := u32_wrap _
  have hA : inA hi th lw = [] := if_neg (by omega)
  have hB : inCo hi th lw = [] := if_neg (by omega)
  have hC : inC hi th lw = [] := if_neg (by omega)
  have hD : inD hi = [] := if_neg (by omega)
  have hE : inE hi lw = [] := if_neg (by omega)
  have hF : inF th lw = [lw] := if_pos (by omega)
  have HZ : Hid (innerZ hi lo = [lw]) := by show innerZ hi lo = _; rw [innerZ, hth, hlw2, hA, hB, hC, hD, hE, hF]; rfl
  clear hA hB hC hD hE hF
  have ht0 : 0 ≤ th := by omega
  have ht1 : th ≤ 4294967295 := by omega
  have hw0 : 0 ≤ lw := by omega
  have hw1 : lw ≤ 4294967295 := by omega
  have q1 : ((hi) == (0 : Int)) = true := by rw [beq_iff_eq]; omega
  have q2 : ((th) == (65535 : Int)) = false := by rw [beq_eq_false_iff_ne]; omega
  have q3 : ((th) == (0 : Int)) = false := by rw [beq_eq_false_iff_ne]; omega
  have q5 : ((hi) == (28428538856079360 : Int)) = false := by rw [beq_eq_false_iff_ne]; omega
  have q6 : ((hi / 281474976710656) == (8194 : Int)) = false := by rw [beq_eq_false_iff_ne]; omega
  have q7 : ((hi / 4294967296) == (536936448 : Int)) = false := by rw [beq_eq_false_iff_ne]; omega
  have q8 : ((th) == (24318 : Int)) = true := by rw [beq_iff_eq]; omega
  have q9 : ((th) == (33578750 : Int)) = false := by rw [beq_eq_false_iff_ne]; omega
  clear hlw2 hh hk
  have hc1 : Below w.heap.size w (w.alloc (.cells #[.int .u64 hi, .int .u64 lo] 96)) := (Below.refl _ w).alloc (Nat.le_refl _) _
  go_enter Tryz.func44, Tryz.ntmps44
  go_wp2_with fail
  refine (wide6_any hi lo _).mono ?_
  rintro e x1 ⟨rfl, hb1⟩
  have hc : Below w.heap.size w x1 := hc1.trans (hb1.mono hc1.size)
  have hsz := hc.size
  clear hb1 hc1 hta
  have hown0 := World.ownsRow_nil x1 w.heap.size 92 1
  go_wp2_with (first
    | (at_builtin; refine wp_append1 _ rfl _ _ 89 rfl w.heap.size 92 i0 (.int .u32 0) 4 Tryz.underlying89 hi0 hz0 hz1 hz2 rfl _ 0 _ rfl hown0 (.int .u32 lw) rfl rfl (by decide) (by decide) hsz ?_; intro v1 y1 hown1 hk1))
  go_ret
  exact ⟨_, rfl, by rw [HZ.out]; exact hown1, (hc.trans hk1)⟩
set_option maxRecDepth 100000 in
set_option maxHeartbeats 2000000 in
theorem inner_zero_i2 (hi lo th lw : Int) (w : World) (hbd : (0 ≤ hi ∧ hi ≤ 18446744073709551615) ∧ (0 ≤ lo ∧ lo ≤ 18446744073709551615)) (hth : lo / 4294967296 = th) (hlw2 : lo % 4294967296 = lw) (hh : hi = 0) (hk : th = 33578750) :
    Calls Tryz.prog 44 #[.iface 96 (.agg #[.int .u64 hi, .int .u64 lo])] w (RetFours w (innerZ hi lo)) := by
  obtain ⟨⟨h0, h1⟩, l0, l1⟩ := hbd
  obtain ⟨i0, hi0, hz0, hz1, hz2⟩ := info_parts Tryz.infoFour
  have hta := as66
  have hwl : IntKind.u32.wrap lo = lw := by rw [u32_wrap]; exact hlw2
  have hwd : IntKind.u32.wrap (hi / 65536) = hi / 65536 % 4294967296 := u32_wrap _
  have hwe : IntKind.u32.wrap hi = hi % 4294967296 := u32_wrap _
  have hA : inA hi th lw = [] := if_neg (by omega)
  have hB : inCo hi th lw = [] := if_neg (by omega)
  have hC : inC hi th lw = [] := if_neg (by omega)
  have hD : inD hi = [] := if_neg (by omega)
  have hE : inE hi lw = [] := if_neg (by omega)
  have hF : inF th lw = [lw] := if_pos (by omega)
  have HZ : Hid (innerZ hi lo = [lw]) := by show innerZ hi lo = _; rw [innerZ, hth, hlw2, hA, hB, hC, hD, hE, hF]; rfl
  clear hA hB hC hD hE hF
  have ht0 : 0 ≤ th := by omega
  have ht1 : th ≤ 4294967295 := by omega
  have hw0 : 0 ≤ lw := by omega
  have hw1 : lw ≤ 4294967295 := by omega
  have q1 : ((hi) == (0 : Int)) = true := by rw [beq_iff_eq]; omega
  have q2 : ((th) == (65535 : Int)) = false := by rw [beq_eq_false_iff_ne]; omega
  have q3 : ((th) == (0 : Int)) = false := by rw [beq_eq_false_iff_ne]; omega
  have q5 : ((hi) == (28428538856079360 : Int)) = false := by rw [beq_eq_false_iff_ne]; omega
  have q6 : ((hi / 281474976710656) == (8194 : Int)) = false := by rw [beq_eq_false_iff_ne]; omega
  have q7 : ((hi / 4294967296) == (536936448 : Int)) = false := by rw [beq_eq_false_iff_ne]; omega
  have q8 : ((th) == (24318 : Int)) = false := by rw [beq_eq_false_iff_ne]; omega
  have q9 : ((th) == (33578750 : Int)) = true := by rw [beq_iff_eq]; omega
  clear hlw2 hh hk
  have hc1 : Below w.heap.size w (w.alloc (.cells #[.int .u64 hi, .int .u64 lo] 96)) := (Below.refl _ w).alloc (Nat.le_refl _) _
  go_enter Tryz.func44, Tryz.ntmps44
  go_wp2_with fail
  refine (wide6_any hi lo _).mono ?_
  rintro e x1 ⟨rfl, hb1⟩
  have hc : Below w.heap.size w x1 := hc1.trans (hb1.mono hc1.size)
  have hsz := hc.size
  clear hb1 hc1 hta
  have hown0 := World.ownsRow_nil x1 w.heap.size 92 1
  go_wp2_with (first
    | (at_builtin; refine wp_append1 _ rfl _ _ 89 rfl w.heap.size 92 i0 (.int .u32 0) 4 Tryz.underlying89 hi0 hz0 hz1 hz2 rfl _ 0 _ rfl hown0 (.int .u32 lw) rfl rfl (by decide) (by decide) hsz ?_; intro v1 y1 hown1 hk1))
  go_ret
  exact ⟨_, rfl, by rw [HZ.out]; exact hown1, (hc.trans hk1)⟩
set_option maxRecDepth 100000 in
set_option maxHeartbeats 2000000 in
theorem inner_zero_oth (hi lo th lw : Int) (w : World) (hbd : (0 ≤ hi ∧ hi ≤ 18446744073709551615) ∧ (0 ≤ lo ∧ lo ≤ 18446744073709551615)) (hth : lo / 4294967296 = th) (hlw2 : lo % 4294967296 = lw) (hh : hi = 0) (hk : th ≠ 65535 ∧ th ≠ 0 ∧ th ≠ 24318 ∧ th ≠ 33578750) :
    Calls Tryz.prog 44 #[.iface 96 (.agg #[.int .u64 hi, .int .u64 lo])] w (RetFours w (innerZ hi lo)) := by
  obtain ⟨⟨h0, h1⟩, l0, l1⟩ := hbd
  obtain ⟨i0, hi0, hz0, hz1, hz2⟩ := info_parts Tryz.infoFour
  have hta := as66
  have hwl : IntKind.u32.wrap lo = lw := by rw [u32_wrap]; exact hlw2
  have hwd : IntKind.u32.wrap (hi / 65536) = hi / 65536 % 4294967296 := u32_wrap _
  have hwe : IntKind.u32.wrap hi = hi % 4294967296 := u32_wrap _
  have hA : inA hi th lw = [] := if_neg (by omega)
  have hB : inCo hi th lw = [] := if_neg (by omega)
  have hC : inC hi th lw = [] := if_neg (by omega)
  have hD : inD hi = [] := if_neg (by omega)
  have hE : inE hi lw = [] := if_neg (by omega)
  have hF : inF th lw = [] := if_neg (by omega)
  have HZ : Hid (innerZ hi lo = []) := by show innerZ hi lo = _; rw [innerZ, hth, hlw2, hA, hB, hC, hD, hE, hF]; rfl
  clear hA hB hC hD hE hF
  have ht0 : 0 ≤ th := by omega
  have ht1 : th ≤ 4294967295 := by omega
  have hw0 : 0 ≤ lw := by omega
  have hw1 : lw ≤ 4294967295 := by omega
  have q1 : ((hi) == (0 : Int)) = true := by rw [beq_iff_eq]; omega
  have q2 : ((th) == (65535 : Int)) = false := by rw [beq_eq_false_iff_ne]; omega
  have q3 : ((th) == (0 : Int)) = false := by rw [beq_eq_false_iff_ne]; omega
  have q5 : ((hi) == (28428538856079360 : Int)) = false := by rw [beq_eq_false_iff_ne]; omega
  have q6 : ((hi / 281474976710656) == (8194 : Int)) = false := by rw [beq_eq_false_iff_ne]; omega
  have q7 : ((hi / 4294967296) == (536936448 : Int)) = false := by rw [beq_eq_false_iff_ne]; omega
  have q8 : ((th) == (24318 : Int)) = false := by rw [beq_eq_false_iff_ne]; omega
  have q9 : ((th) == (33578750 : Int)) = false := by rw [beq_eq_false_iff_ne]; omega
  clear hlw2 hh hk
  have hc1 : Below w.heap.size w (w.alloc (.cells #[.int .u64 hi, .int .u64 lo] 96)) := (Below.refl _ w).alloc (Nat.le_refl _) _
  go_enter Tryz.func44, Tryz.ntmps44
  go_wp2_with fail
  refine (wide6_any hi lo _).mono ?_
  rintro e x1 ⟨rfl, hb1⟩
  have hc : Below w.heap.size w x1 := hc1.trans (hb1.mono hc1.size)
  have hsz := hc.size
  clear hb1 hc1 hta
  have hown0 := World.ownsRow_nil x1 w.heap.size 92 1
  go_wp2
  go_ret
  exact ⟨_, rfl, by rw [HZ.out]; exact Nums.nil _ _ _ _, hc⟩
set_option maxRecDepth 100000 in
set_option maxHeartbeats 2000000 in
theorem inner_tr_ffff (hi lo th lw : Int) (w : World) (hbd : (0 ≤ hi ∧ hi ≤ 18446744073709551615) ∧ (0 ≤ lo ∧ lo ≤ 18446744073709551615)) (hth : lo / 4294967296 = th) (hlw2 : lo % 4294967296 = lw) (hh : hi = 28428538856079360) (hk : th = 65535) :
    Calls Tryz.prog 44 #[.iface 96 (.agg #[.int .u64 hi, .int .u64 lo])] w (RetFours w (innerZ hi lo)) := by
  obtain ⟨⟨h0, h1⟩, l0, l1⟩ := hbd
  obtain ⟨i0, hi0, hz0, hz1, hz2⟩ := info_parts Tryz.infoFour
  have hta := as66
  have hwl : IntKind.u32.wrap lo = lw := by rw [u32_wrap]; exact hlw2
  have hwd : IntKind.u32.wrap (hi / 65536) = hi / 65536 % 4294967296 := u32_wrap _
  have hwe : IntKind.u32.wrap hi = hi % 4294967296 := u32_wrap _
  have hA : inA hi th lw = [] := if_neg (by omega)
  have hB : inCo hi th lw = [] := if_neg (by omega)
  have hC : inC hi th lw = [] := if_neg (by omega)
  have hD : inD hi = [] := if_neg (by omega)
  have hE : inE hi lw = [] := if_neg (by omega)
  have hF : inF th lw = [] := if_neg (by omega)
  have HZ : Hid (innerZ hi lo = []) := by show innerZ hi lo = _; rw [innerZ, hth, hlw2, hA, hB, hC, hD, hE, hF]; rfl
  clear hA hB hC hD hE hF
  have ht0 : 0 ≤ th := by omega
  have ht1 : th ≤ 4294967295 := by omega
  have hw0 : 0 ≤ lw := by omega
  have hw1 : lw ≤ 4294967295 := by omega
  have q1 : ((hi) == (0 : Int)) = false := by rw [beq_eq_false_iff_ne]; omega
  have q2 : ((th) == (65535 : Int)) = true := by rw [beq_iff_eq]; omega
  have q3 : ((th) == (0 : Int)) = false := by rw [beq_eq_false_iff_ne]; omega
  have q5 : ((hi) == (28428538856079360 : Int)) = true := by rw [beq_iff_eq]; omega
  have q6 : ((hi / 281474976710656) == (8194 : Int)) = false := by rw [beq_eq_false_iff_ne]; omega
  have q7 : ((hi / 4294967296) == (536936448 : Int)) = false := by rw [beq_eq_false_iff_ne]; omega
  have q8 : ((th) == (24318 : Int)) = false := by rw [beq_eq_false_iff_ne]; omega
  have q9 : ((th) == (33578750 : Int)) = false := by rw [beq_eq_false_iff_ne]; omega
  clear hlw2 hh hk
  have hc1 : Below w.heap.size w (w.alloc (.cells #[.int .u64 hi, .int .u64 lo] 96)) := (Below.refl _ w).alloc (Nat.le_refl _) _
  go_enter Tryz.func44, Tryz.ntmps44
  go_wp2_with fail
  refine (wide6_any hi lo _).mono ?_
  rintro e x1 ⟨rfl, hb1⟩
  have hc : Below w.heap.size w x1 := hc1.trans (hb1.mono hc1.size)
  have hsz := hc.size
  clear hb1 hc1 hta
  have hown0 := World.ownsRow_nil x1 w.heap.size 92 1
  go_wp2
  go_ret
  exact ⟨_, rfl, by rw [HZ.out]; exact Nums.nil _ _ _ _, hc⟩
set_option maxRecDepth 100000 in
set_option maxHeartbeats 2000000 in
theorem inner_tr_zero (hi lo th lw : Int) (w : World) (hbd : (0 ≤ hi ∧ hi ≤ 18446744073709551615) ∧ (0 ≤ lo ∧ lo ≤ 18446744073709551615)) (hth : lo / 4294967296 = th) (hlw2 : lo % 4294967296 = lw) (hh : hi = 28428538856079360) (hk : th = 0) :
    Calls Tryz.prog 44 #[.iface 96 (.agg #[.int .u64 hi, .int .u64 lo])] w (RetFours w (innerZ hi lo)) := by
  obtain ⟨⟨h0, h1⟩, l0, l1⟩ := hbd
  obtain ⟨i0, hi0, hz0, hz1, hz2⟩ := info_parts Tryz.infoFour
  have hta := as66
  have hwl : IntKind.u32.wrap lo = lw := by rw [u32_wrap]; exact hlw2
  have hwd : IntKind.u32.wrap (hi / 65536) = hi / 65536 % 4294967296 := u32_wrap _
  have hwe : IntKind.u32.wrap hi = hi % 4294967296 := u32_wrap _
  have hA : inA hi th lw = [] := if_neg (by omega)
  have hB : inCo hi th lw = [] := if_neg (by omega)
  have hC : inC hi th lw = [lw] := if_pos (by omega)
  have hD : inD hi = [] := if_neg (by omega)
  have hE : inE hi lw = [] := if_neg (by omega)
  have hF : inF th lw = [] := if_neg (by omega)
  have HZ : Hid (innerZ hi lo = [lw]) := by show innerZ hi lo = _; rw [innerZ, hth, hlw2, hA, hB, hC, hD, hE, hF]; rfl
  clear hA hB hC hD hE hF
  have ht0 : 0 ≤ th := by omega
  have ht1 : th ≤ 4294967295 := by omega
  have hw0 : 0 ≤ lw := by omega
  have hw1 : lw ≤ 4294967295 := by omega
  have q1 : ((hi) == (0 : Int)) = false := by rw [beq_eq_false_iff_ne]; omega
  have q2 : ((th) == (65535 : Int)) = false := by rw [beq_eq_false_iff_ne]; omega
  have q3 : ((th) == (0 : Int)) = true := by rw [beq_iff_eq]; omega
  have q5 : ((hi) == (28428538856079360 : Int)) = true := by rw [beq_iff_eq]; omega
  have q6 : ((hi / 281474976710656) == (8194 : Int)) = false := by rw [beq_eq_false_iff_ne]; omega
  have q7 : ((hi / 4294967296) == (536936448 : Int)) = false := by rw [beq_eq_false_iff_ne]; omega
  have q8 : ((th) == (24318 : Int)) = false := by rw [beq_eq_false_iff_ne]; omega
  have q9 : ((th) == (33578750 : Int)) = false := by rw [beq_eq_false_iff_ne]; omega
  clear hlw2 hh hk
  have hc1 : Below w.heap.size w (w.alloc (.cells #[.int .u64 hi, .int .u64 lo] 96)) := (Below.refl _ w).alloc (Nat.le_refl _) _
  go_enter Tryz.func44, Tryz.ntmps44
  go_wp2_with fail
  refine (wide6_any hi lo _).mono ?_
  rintro e x1 ⟨rfl, hb1⟩
  have hc : Below w.heap.size w x1 := hc1.trans (hb1.mono hc1.size)
  have hsz := hc.size
  clear hb1 hc1 hta
  have hown0 := World.ownsRow_nil x1 w.heap.size 92 1
  go_wp2_with (first
    | (at_builtin; refine wp_append1 _ rfl _ _ 89 rfl w.heap.size 92 i0 (.int .u32 0) 4 Tryz.underlying89 hi0 hz0 hz1 hz2 rfl _ 0 _ rfl hown0 (.int .u32 lw) rfl rfl (by decide) (by decide) hsz ?_; intro v1 y1 hown1 hk1))
  go_ret
  exact ⟨_, rfl, by rw [HZ.out]; exact hown1, (hc.trans hk1)⟩
set_option maxRecDepth 100000 in
set_option maxHeartbeats 2000000 in
theorem inner_tr_i1 (hi lo th lw : Int) (w : World) (hbd : (0 ≤ hi ∧ hi ≤ 18446744073709551615) ∧ (0 ≤ lo ∧ lo ≤ 18446744073709551615)) (hth : lo / 4294967296 = th) (hlw2 : lo % 4294967296 = lw) (hh : hi = 28428538856079360) (hk : th = 24318) :
    Calls Tryz.prog 44 #[.iface 96 (.agg #[.int .u64 hi, .int .u64 lo])] w (RetFours w (innerZ hi lo)) := by
  obtain ⟨⟨h0, h1⟩, l0, l1⟩ := hbd
  obtain ⟨i0, hi0, hz0, hz1, hz2⟩ := info_parts Tryz.infoFour
  have hta := as66
  have hwl : IntKind.u32.wrap lo = lw := by rw [u32_wrap]; exact hlw2
  have hwd : IntKind.u32.wrap (hi / 65536) = hi / 65536 % 4294967296 := u32_wrap _
  have hwe : IntKind.u32.wrap hi = hi % 4294967296 := u32_wrap _
  have hA : inA hi th lw = [] := if_neg (by omega)
  have hB : inCo hi th lw = [] := if_neg (by omega)
  have hC : inC hi th lw = [] := if_neg (by omega)
  have hD : inD hi = [] := if_neg (by omega)
  have hE : inE hi lw = [] := if_neg (by omega)
  have hF : inF th lw = [lw] := if_pos (by omega)
  have HZ : Hid (innerZ hi lo = [lw]) := by show innerZ hi lo = _; rw [innerZ, hth, hlw2, hA, hB, hC, hD, hE, hF]; rfl
  clear hA hB hC hD hE hF
  have ht0 : 0 ≤ th := by omega
  have ht1 : th ≤ 4294967295 := by omega
  have hw0 : 0 ≤ lw := by omega
  have hw1 : lw ≤ 4294967295 := by omega
  have q1 : ((hi) == (0 : Int)) = false := by rw [beq_eq_false_iff_ne]; omega
  have q2 : ((th) == (65535 : Int)) = false := by rw [beq_eq_false_iff_ne]; omega
  have q3 : ((th) == (0 : Int)) = false := by rw [beq_eq_false_iff_ne]; omega
  have q5 : ((hi) == (28428538856079360 : Int)) = true := by rw [beq_iff_eq]; omega
  have q6 : ((hi / 281474976710656) == (8194 : Int)) = false := by rw [beq_eq_false_iff_ne]; omega
  have q7 : ((hi / 4294967296) == (536936448 : Int)) = false := by rw [beq_eq_false_iff_ne]; omega
  have q8 : ((th) == (24318 : Int)) = true := by rw [beq_iff_eq]; omega
  have q9 : ((th) == (33578750 : Int)) = false := by rw [beq_eq_false_iff_ne]; omega
  clear hlw2 hh hk
  have hc1 : Below w.heap.size w (w.alloc (.cells #[.int .u64 hi, .int .u64 lo] 96)) := (Below.refl _ w).alloc (Nat.le_refl _) _
  go_enter Tryz.func44, Tryz.ntmps44
  go_wp2_with fail
  refine (wide6_any hi lo _).mono ?_
  rintro e x1 ⟨rfl, hb1⟩
  have hc : Below w.heap.size w x1 := hc1.trans (hb1.mono hc1.size)
  have hsz := hc.size
  clear hb1 hc1 hta
  have hown0 := World.ownsRow_nil x1 w.heap.size 92 1
  go_wp2_with (first
    | (at_builtin; refine wp_append1 _ rfl _ _ 89 rfl w.heap.size 92 i0 (.int .u32 0) 4 Tryz.underlying89 hi0 hz0 hz1 hz2 rfl _ 0 _ rfl hown0 (.int .u32 lw) rfl rfl (by decide) (by decide) hsz ?_; intro v1 y1 hown1 hk1))
  go_ret
  exact ⟨_, rfl, by rw [HZ.out]; exact hown1, (hc.trans hk1)⟩
set_option maxRecDepth 100000 in
set_option maxHeartbeats 2000000 in
theorem inner_tr_i2 (hi lo th lw : Int) (w : World) (hbd : (0 ≤ hi ∧ hi ≤ 18446744073709551615) ∧ (0 ≤ lo ∧ lo ≤ 18446744073709551615)) (hth : lo / 4294967296 = th) (hlw2 : lo % 4294967296 = lw) (hh : hi = 28428538856079360) (hk : th = 33578750) :
    Calls Tryz.prog 44 #[.iface 96 (.agg #[.int .u64 hi, .int .u64 lo])] w (RetFours w (innerZ hi lo)) := by
  obtain ⟨⟨h0, h1⟩, l0, l1⟩ := hbd
  obtain ⟨i0, hi0, hz0, hz1, hz2⟩ := info_parts Tryz.infoFour
  have hta := as66
  have hwl : IntKind.u32.wrap lo = lw := by rw [u32_wrap]; exact hlw2
  have hwd : IntKind.u32.wrap (hi / 65536) = hi / 65536 % 4294967296 := u32_wrap _
  have hwe : IntKind.u32.wrap hi = hi % 4294967296 := u32_wrap _
  have hA : inA hi th lw = [] := if_neg (by omega)
  have hB : inCo hi th lw = [] := if_neg (by omega)
  have hC : inC hi th lw = [] := if_neg (by omega)
  have hD : inD hi = [] := if_neg (by omega)
  have hE : inE hi lw = [] := if_neg (by omega)
  have hF : inF th lw = [lw] := if_pos (by omega)
  have HZ : Hid (innerZ hi lo = [lw]) := by show innerZ hi lo = _; rw [innerZ, hth, hlw2, hA, hB, hC, hD, hE, hF]; rfl
  clear hA hB hC hD hE hF
  have ht0 : 0 ≤ th := by omega
  have ht1 : th ≤ 4294967295 := by omega
  have hw0 : 0 ≤ lw := by omega
  have hw1 : lw ≤ 4294967295 := by omega
  have q1 : ((hi) == (0 : Int)) = false := by rw [beq_eq_false_iff_ne]; omega
  have q2 : ((th) == (65535 : Int)) = false := by rw [beq_eq_false_iff_ne]; omega
  have q3 : ((th) == (0 : Int)) = false := by rw [beq_eq_false_iff_ne]; omega
  have q5 : ((hi) == (28428538856079360 : Int)) = true := by rw [beq_iff_eq]; omega
  have q6 : ((hi / 281474976710656) == (8194 : Int)) = false := by rw [beq_eq_false_iff_ne]; omega
  have q7 : ((hi / 4294967296) == (536936448 : Int)) = false := by rw [beq_eq_false_iff_ne]; omega
  have q8 : ((th) == (24318 : Int)) = false := by rw [beq_eq_false_iff_ne]; omega
  have q9 : ((th) == (33578750 : Int)) = true := by rw [beq_iff_eq]; omega
  clear hlw2 hh hk
  have hc1 : Below w.heap.size w (w.alloc (.cells #[.int .u64 hi, .int .u64 lo] 96)) := (Below.refl _ w).alloc (Nat.le_refl _) _
  go_enter Tryz.func44, Tryz.ntmps44
  go_wp2_with fail
  refine (wide6_any hi lo _).mono ?_
  rintro e x1 ⟨rfl, hb1⟩
  have hc : Below w.heap.size w x1 := hc1.trans (hb1.mono hc1.size)
  have hsz := hc.size
  clear hb1 hc1 hta
  have hown0 := World.ownsRow_nil x1 w.heap.size 92 1
  go_wp2_with (first
    | (at_builtin; refine wp_append1 _ rfl _ _ 89 rfl w.heap.size 92 i0 (.int .u32 0) 4 Tryz.underlying89 hi0 hz0 hz1 hz2 rfl _ 0 _ rfl hown0 (.int .u32 lw) rfl rfl (by decide) (by decide) hsz ?_; intro v1 y1 hown1 hk1))
  go_ret
  exact ⟨_, rfl, by rw [HZ.out]; exact hown1, (hc.trans hk1)⟩
set_option maxRecDepth 100000 in
set_option maxHeartbeats 2000000 in
theorem inner_tr_oth (hi lo th lw : Int) (w : World) (hbd : (0 ≤ hi ∧ hi ≤ 18446744073709551615) ∧ (0 ≤ lo ∧ lo ≤ 18446744073709551615)) (hth : lo / 4294967296 = th) (hlw2 : lo % 4294967296 = lw) (hh : hi = 28428538856079360) (hk : th ≠ 65535 ∧ th ≠ 0 ∧ th ≠ 24318 ∧ th ≠ 33578750) :
    Calls Tryz.prog 44 #[.iface 96 (.agg #[.int .u64 hi, .int .u64 lo])] w (RetFours w (innerZ hi lo)) := by
  obtain ⟨⟨h0, h1⟩, l0, l1⟩ := hbd
  obtain ⟨i0, hi0, hz0, hz1, hz2⟩ := info_parts Tryz.infoFour
  have hta := as66
  have hwl : IntKind.u32.wrap lo = lw := by rw [u32_wrap]; exact hlw2
  have hwd : IntKind.u32.wrap (hi / 65536) = hi / 65536 % 4294967296 := u32_wrap _
  have hwe : IntKind.u32.wrap hi = hi % 4294967296 := u32_wrap _
  have hA : inA hi th lw = [] := if_neg (by omega)
  have hB : inCo hi th lw = [] := if_neg (by omega)
  have hC : inC hi th lw = [] := if_neg (by omega)
  have hD : inD hi = [] := if_neg (by omega)
  have hE : inE hi lw = [] := if_neg (by omega)
  have hF : inF th lw = [] := if_neg (by omega)
  have HZ : Hid (innerZ hi lo = []) := by show innerZ hi lo = _; rw [innerZ, hth, hlw2, hA, hB, hC, hD, hE, hF]; rfl
  clear hA hB hC hD hE hF
  have ht0 : 0 ≤ th := by omega
  have ht1 : th ≤ 4294967295 := by omega
  have hw0 : 0 ≤ lw := by omega
  have hw1 : lw ≤ 4294967295 := by omega
  have q1 : ((hi) == (0 : Int)) = false := by rw [beq_eq_false_iff_ne]; omega
  have q2 : ((th) == (65535 : Int)) = false := by rw [beq_eq_false_iff_ne]; omega
  have q3 : ((th) == (0 : Int)) = false := by rw [beq_eq_false_iff_ne]; omega
  have q5 : ((hi) == (28428538856079360 : Int)) = true := by rw [beq_iff_eq]; omega
  have q6 : ((hi / 281474976710656) == (8194 : Int)) = false := by rw [beq_eq_false_iff_ne]; omega
  have q7 : ((hi / 4294967296) == (536936448 : Int)) = false := by rw [beq_eq_false_iff_ne]; omega
  have q8 : ((th) == (24318 : Int)) = false := by rw [beq_eq_false_iff_ne]; omega
  have q9 : ((th) == (33578750 : Int)) = false := by rw [beq_eq_false_iff_ne]; omega
  clear hlw2 hh hk
  have hc1 : Below w.heap.size w (w.alloc (.cells #[.int .u64 hi, .int .u64 lo] 96)) := (Below.refl _ w).alloc (Nat.le_refl _) _
  go_enter Tryz.func44, Tryz.ntmps44
  go_wp2_with fail
  refine (wide6_any hi lo _).mono ?_
  rintro e x1 ⟨rfl, hb1⟩
  have hc : Below w.heap.size w x1 := hc1.trans (hb1.mono hc1.size)
  have hsz := hc.size
  clear hb1 hc1 hta
  have hown0 := World.ownsRow_nil x1 w.heap.size 92 1
  go_wp2
  go_ret
  exact ⟨_, rfl, by rw [HZ.out]; exact Nums.nil _ _ _ _, hc⟩
set_option maxRecDepth 100000 in
set_option maxHeartbeats 2000000 in
theorem inner_d_ffff (hi lo th lw : Int) (w : World) (hbd : (0 ≤ hi ∧ hi ≤ 18446744073709551615) ∧ (0 ≤ lo ∧ lo ≤ 18446744073709551615)) (hth : lo / 4294967296 = th) (hlw2 : lo % 4294967296 = lw) (hh : hi / 281474976710656 = 8194) (hk : th = 65535) :
    Calls Tryz.prog 44 #[.iface 96 (.agg #[.int .u64 hi, .int .u64 lo])] w (RetFours w (innerZ hi lo)) := by
  obtain ⟨⟨h0, h1⟩, l0, l1⟩ := hbd
  obtain ⟨i0, hi0, hz0, hz1, hz2⟩ := info_parts Tryz.infoFour
  have hta := as66
  have hwl : IntKind.u32.wrap lo = lw := by rw [u32_wrap]; exact hlw2
  have hwd : IntKind.u32.wrap (hi / 65536) = hi / 65536 % 4294967296 := u32_wrap _
  have hwe : IntKind.u32.wrap hi = hi % 4294967296 := u32_wrap _
  have hA : inA hi th lw = [] := if_neg (by omega)
  have hB : inCo hi th lw = [] := if_neg (by omega)
  have hC : inC hi th lw = [] := if_neg (by omega)
  have hD : inD hi = [hi / 65536 % 4294967296] := if_pos (by omega)
  have hE : inE hi lw = [] := if_neg (by omega)
  have hF : inF th lw = [] := if_neg (by omega)
  have HZ : Hid (innerZ hi lo = [hi / 65536 % 4294967296]) := by show innerZ hi lo = _; rw [innerZ, hth, hlw2, hA, hB, hC, hD, hE, hF]; rfl
  clear hA hB hC hD hE hF
  have ht0 : 0 ≤ th := by omega
  have ht1 : th ≤ 4294967295 := by omega
  have hw0 : 0 ≤ lw := by omega
  have hw1 : lw ≤ 4294967295 := by omega
  have q1 : ((hi) == (0 : Int)) = false := by rw [beq_eq_false_iff_ne]; omega
  have q2 : ((th) == (65535 : Int)) = true := by rw [beq_iff_eq]; omega
  have q3 : ((th) == (0 : Int)) = false := by rw [beq_eq_false_iff_ne]; omega
  have q5 : ((hi) == (28428538856079360 : Int)) = false := by rw [beq_eq_false_iff_ne]; omega
  have q6 : ((hi / 281474976710656) == (8194 : Int)) = true := by rw [beq_iff_eq]; omega
  have q7 : ((hi / 4294967296) == (536936448 : Int)) = false := by rw [beq_eq_false_iff_ne]; omega
  have q8 : ((th) == (24318 : Int)) = false := by rw [beq_eq_false_iff_ne]; omega
  have q9 : ((th) == (33578750 : Int)) = false := by rw [beq_eq_false_iff_ne]; omega
  clear hlw2 hh hk
  have hc1 : Below w.heap.size w (w.alloc (.cells #[.int .u64 hi, .int .u64 lo] 96)) := (Below.refl _ w).alloc (Nat.le_refl _) _
  go_enter Tryz.func44, Tryz.ntmps44
  go_wp2_with fail
  refine (wide6_any hi lo _).mono ?_
  rintro e x1 ⟨rfl, hb1⟩
  have hc : Below w.heap.size w x1 := hc1.trans (hb1.mono hc1.size)
  have hsz := hc.size
  clear hb1 hc1 hta
  have hown0 := World.ownsRow_nil x1 w.heap.size 92 1
  go_wp2_with (first
    | (at_builtin; refine wp_append1 _ rfl _ _ 89 rfl w.heap.size 92 i0 (.int .u32 0) 4 Tryz.underlying89 hi0 hz0 hz1 hz2 rfl _ 0 _ rfl hown0 (.int .u32 (hi / 65536 % 4294967296)) rfl rfl (by decide) (by decide) hsz ?_; intro v1 y1 hown1 hk1))
  go_ret
  exact ⟨_, rfl, by rw [HZ.out]; exact hown1, (hc.trans hk1)⟩
set_option maxRecDepth 100000 in
set_option maxHeartbeats 2000000 in
theorem inner_d_zero (hi lo th lw : Int) (w : World) (hbd : (0 ≤ hi ∧ hi ≤ 18446744073709551615) ∧ (0 ≤ lo ∧ lo ≤ 18446744073709551615)) (hth : lo / 4294967296 = th) (hlw2 : lo % 4294967296 = lw) (hh : hi / 281474976710656 = 8194) (hk : th = 0) :
    Calls Tryz.prog 44 #[.iface 96 (.agg #[.int .u64 hi, .int .u64 lo])] w (RetFours w (innerZ hi lo)) := by
  obtain ⟨⟨h0, h1⟩, l0, l1⟩ := hbd
  obtain ⟨i0, hi0, hz0, hz1, hz2⟩ := info_parts Tryz.infoFour
  have hta := as66
  have hwl : IntKind.u32.wrap lo = lw := by rw [u32_wrap]; exact hlw2
  have hwd : IntKind.u32.wrap (hi / 65536) = hi / 65536 % 4294967296 := u32_wrap _
  have hwe : IntKind.u32.wrap hi = hi % 4294967296 := u32_wrap _
  have hA : inA hi th lw = [] := if_neg (by omega)
  have hB : inCo hi th lw = [] := if_neg (by omega)
  have hC : inC hi th lw = [] := if_neg (by omega)
  have hD : inD hi = [hi / 65536 % 4294967296] := if_pos (by omega)
  have hE : inE hi lw = [] := if_neg (by omega)
  have hF : inF th lw = [] := if_neg (by omega)
  have HZ : Hid (innerZ hi lo = [hi / 65536 % 4294967296]) := by show innerZ hi lo = _; rw [innerZ, hth, hlw2, hA, hB, hC, hD, hE, hF]; rfl
  clear hA hB hC hD hE hF
  have ht0 : 0 ≤ th := by omega
  have ht1 : th ≤ 4294967295 := by omega
  have hw0 : 0 ≤ lw := by omega
  have hw1 : lw ≤ 4294967295 := by omega
  have q1 : ((hi) == (0 : Int)) = false := by rw [beq_eq_false_iff_ne]; omega
  have q2 : ((th) == (65535 : Int)) = false := by rw [beq_eq_false_iff_ne]; omega
  have q3 : ((th) == (0 : Int)) = true := by rw [beq_iff_eq]; omega
  have q5 : ((hi) == (28428538856079360 : Int)) = false := by rw [beq_eq_false_iff_ne]; omega
  have q6 : ((hi / 281474976710656) == (8194 : Int)) = true := by rw [beq_iff_eq]; omega
  have q7 : ((hi / 4294967296) == (536936448 : Int)) = false := by rw [beq_eq_false_iff_ne]; omega
  have q8 : ((th) == (24318 : Int)) = false := by rw [beq_eq_false_iff_ne]; omega
  have q9 : ((th) == (33578750 : Int)) = false := by rw [beq_eq_false_iff_ne]; omega
  clear hlw2 hh hk
  have hc1 : Below w.heap.size w (w.alloc (.cells #[.int .u64 hi, .int .u64 lo] 96)) := (Below.refl _ w).alloc (Nat.le_refl _) _
  go_enter Tryz.func44, Tryz.ntmps44
  go_wp2_with fail
  refine (wide6_any hi lo _).mono ?_
  rintro e x1 ⟨rfl, hb1⟩
  have hc : Below w.heap.size w x1 := hc1.trans (hb1.mono hc1.size)
  have hsz := hc.size
  clear hb1 hc1 hta
  have hown0 := World.ownsRow_nil x1 w.heap.size 92 1
  go_wp2_with (first
    | (at_builtin; refine wp_append1 _ rfl _ _ 89 rfl w.heap.size 92 i0 (.int .u32 0) 4 Tryz.underlying89 hi0 hz0 hz1 hz2 rfl _ 0 _ rfl hown0 (.int .u32 (hi / 65536 % 4294967296)) rfl rfl (by decide) (by decide) hsz ?_; intro v1 y1 hown1 hk1))
  go_ret
  exact ⟨_, rfl, by rw [HZ.out]; exact hown1, (hc.trans hk1)⟩
set_option maxRecDepth 100000 in
set_option maxHeartbeats 2000000 in
theorem inner_d_i1 (hi lo th lw : Int) (w : World) (hbd : (0 ≤ hi ∧ hi ≤ 18446744073709551615) ∧ (0 ≤ lo ∧ lo ≤ 18446744073709551615)) (hth : lo / 4294967296 = th) (hlw2 : lo % 4294967296 = lw) (hh : hi / 281474976710656 = 8194) (hk : th = 24318) :
    Calls Tryz.prog 44 #[.iface 96 (.agg #[.int .u64 hi, .int .u64 lo])] w (RetFours w (innerZ hi lo)) := by
  obtain ⟨⟨h0, h1⟩, l0, l1⟩ := hbd
  obtain ⟨i0, hi0, hz0, hz1, hz2⟩ := info_parts Tryz.infoFour
  have hta := as66
  have hwl : IntKind.u32.wrap lo = lw := by rw [u32_wrap]; exact hlw2
  have hwd : IntKind.u32.wrap (hi / 65536) = hi / 65536 % 4294967296 := u32_wrap _
  have hwe : IntKind.u32.wrap hi = hi % 4294967296 := u32_wrap _
  have hA : inA hi th lw = [] := if_neg (by omega)
  have hB : inCo hi th lw = [] := if_neg (by omega)
  have hC : inC hi th lw = [] := if_neg (by omega)
  have hD : inD hi = [hi / 65536 % 4294967296] := if_pos (by omega)
  have hE : inE hi lw = [] := if_neg (by omega)
  have hF : inF th lw = [lw] := if_pos (by omega)
  have HZ : Hid (innerZ hi lo = [hi / 65536 % 4294967296, lw]) := by show innerZ hi lo = _; rw [innerZ, hth, hlw2, hA, hB, hC, hD, hE, hF]; rfl
  clear hA hB hC hD hE hF
  have ht0 : 0 ≤ th := by omega
  have ht1 : th ≤ 4294967295 := by omega
  have hw0 : 0 ≤ lw := by omega
  have hw1 : lw ≤ 4294967295 := by omega
  have q1 : ((hi) == (0 : Int)) = false := by rw [beq_eq_false_iff_ne]; omega
  have q2 : ((th) == (65535 : Int)) = false := by rw [beq_eq_false_iff_ne]; omega
  have q3 : ((th) == (0 : Int)) = false := by rw [beq_eq_false_iff_ne]; omega
  have q5 : ((hi) == (28428538856079360 : Int)) = false := by rw [beq_eq_false_iff_ne]; omega
  have q6 : ((hi / 281474976710656) == (8194 : Int)) = true := by rw [beq_iff_eq]; omega
  have q7 : ((hi / 4294967296) == (536936448 : Int)) = false := by rw [beq_eq_false_iff_ne]; omega
  have q8 : ((th) == (24318 : Int)) = true := by rw [beq_iff_eq]; omega
  have q9 : ((th) == (33578750 : Int)) = false := by rw [beq_eq_false_iff_ne]; omega
  clear hlw2 hh hk
  have hc1 : Below w.heap.size w (w.alloc (.cells #[.int .u64 hi, .int .u64 lo] 96)) := (Below.refl _ w).alloc (Nat.le_refl _) _
  go_enter Tryz.func44, Tryz.ntmps44
  go_wp2_with fail
  refine (wide6_any hi lo _).mono ?_
  rintro e x1 ⟨rfl, hb1⟩
  have hc : Below w.heap.size w x1 := hc1.trans (hb1.mono hc1.size)
  have hsz := hc.size
  clear hb1 hc1 hta
  have hown0 := World.ownsRow_nil x1 w.heap.size 92 1
  go_wp2_with (first
    | (at_builtin; refine wp_append1 _ rfl _ _ 89 rfl w.heap.size 92 i0 (.int .u32 0) 4 Tryz.underlying89 hi0 hz0 hz1 hz2 rfl _ 0 _ rfl hown0 (.int .u32 (hi / 65536 % 4294967296)) rfl rfl (by decide) (by decide) hsz ?_; intro v1 y1 hown1 hk1)
    | (at_builtin; refine wp_append1 _ rfl _ _ 89 rfl w.heap.size 92 i0 (.int .u32 0) 4 Tryz.underlying89 hi0 hz0 hz1 hz2 rfl _ 1 _ rfl hown1 (.int .u32 lw) rfl rfl (by decide) (by decide) (hc.trans hk1).size ?_; intro v2 y2 hown2 hk2))
  go_ret
  exact ⟨_, rfl, by rw [HZ.out]; exact hown2, ((hc.trans hk1).trans hk2)⟩
set_option maxRecDepth 100000 in
set_option maxHeartbeats 2000000 in
theorem inner_d_i2 (hi lo th lw : Int) (w : World) (hbd : (0 ≤ hi ∧ hi ≤ 18446744073709551615) ∧ (0 ≤ lo ∧ lo ≤ 18446744073709551615)) (hth : lo / 4294967296 = th) (hlw2 : lo % 4294967296 = lw) (hh : hi / 281474976710656 = 8194) (hk : th = 33578750) :
    Calls Tryz.prog 44 #[.iface 96 (.agg #[.int .u64 hi, .int .u64 lo])] w (RetFours w (innerZ hi lo)) := by
  obtain ⟨⟨h0, h1⟩, l0, l1⟩ := hbd
  obtain ⟨i0, hi0, hz0, hz1, hz2⟩ := info_parts Tryz.infoFour
  have hta := as66
  have hwl : IntKind.u32.wrap lo = lw := by rw [u32_wrap]; exact hlw2
  have hwd : IntKind.u32.wrap (hi / 65536) = hi / 65536 % 4294967296 := u32_wrap _
  have hwe : IntKind.u32.wrap hi = hi % 4294967296 := u32_wrap _
  have hA : inA hi th lw = [] := if_neg (by omega)
  have hB : inCo hi th lw = [] := if_neg (by omega)
  have hC : inC hi th lw = [] := if_neg (by omega)
  have hD : inD hi = [hi / 65536 % 4294967296] := if_pos (by omega)
  have hE : inE hi lw = [] := if_neg (by omega)
  have hF : inF th lw = [lw] := if_pos (by omega)
  have HZ : Hid (innerZ hi lo = [hi / 65536 % 4294967296, lw]) := by show innerZ hi lo = _; rw [innerZ, hth, hlw2, hA, hB, hC, hD, hE, hF]; rfl
  clear hA hB hC hD hE hF
  have ht0 : 0 ≤ th := by omega
  have ht1 : th ≤ 4294967295 := by omega
  have hw0 : 0 ≤ lw := by omega
  have hw1 : lw ≤ 4294967295 := by omega
  have q1 : ((hi) == (0 : Int)) = false := by rw [beq_eq_false_iff_ne]; omega
  have q2 : ((th) == (65535 : Int)) = false := by rw [beq_eq_false_iff_ne]; omega
  have q3 : ((th) == (0 : Int)) = false := by rw [beq_eq_false_iff_ne]; omega
  have q5 : ((hi) == (28428538856079360 : Int)) = false := by rw [beq_eq_false_iff_ne]; omega
  have q6 : ((hi / 281474976710656) == (8194 : Int)) = true := by rw [beq_iff_eq]; omega
  have q7 : ((hi / 4294967296) == (536936448 : Int)) = false := by rw [beq_eq_false_iff_ne]; omega
  have q8 : ((th) == (24318 : Int)) = false := by rw [beq_eq_false_iff_ne]; omega
  have q9 : ((th) == (33578750 : Int)) = true := by rw [beq_iff_eq]; omega
  clear hlw2 hh hk
  have hc1 : Below w.heap.size w (w.alloc (.cells #[.int .u64 hi, .int .u64 lo] 96)) := (Below.refl _ w).alloc (Nat.le_refl _) _
  go_enter Tryz.func44, Tryz.ntmps44
  go_wp2_with fail
  refine (wide6_any hi lo _).mono ?_
  rintro e x1 ⟨rfl, hb1⟩
  have hc : Below w.heap.size w x1 := hc1.trans (hb1.mono hc1.size)
  have hsz := hc.size
  clear hb1 hc1 hta
  have hown0 := World.ownsRow_nil x1 w.heap.size 92 1
  go_wp2_with (first
    | (at_builtin; refine wp_append1 _ rfl _ _ 89 rfl w.heap.size 92 i0 (.int .u32 0) 4 Tryz.underlying89 hi0 hz0 hz1 hz2 rfl _ 0 _ rfl hown0 (.int .u32 (hi / 65536 % 4294967296)) rfl rfl (by decide) (by decide) hsz ?_; intro v1 y1 hown1 hk1)
    | (at_builtin; refine wp_append1 _ rfl _ _ 89 rfl w.heap.size 92 i0 (.int .u32 0) 4 Tryz.underlying89 hi0 hz0 hz1 hz2 rfl _ 1 _ rfl hown1 (.int .u32 lw) rfl rfl (by decide) (by decide) (hc.trans hk1).size ?_; intro v2 y2 hown2 hk2))
  go_ret
  exact ⟨_, rfl, by rw [HZ.out]; exact hown2, ((hc.trans hk1).trans hk2)⟩
set_option maxRecDepth 100000 in
set_option maxHeartbeats 2000000 in
theorem inner_d_oth (hi lo th lw : Int) (w : World) (hbd : (0 ≤ hi ∧ hi ≤ 18446744073709551615) ∧ (0 ≤ lo ∧ lo ≤ 18446744073709551615)) (hth : lo / 4294967296 = th) (hlw2 : lo % 4294967296 = lw) (hh : hi / 281474976710656 = 8194) (hk : th ≠ 65535 ∧ th ≠ 0 ∧ th ≠ 24318 ∧ th ≠ 33578750) :
    Calls Tryz.prog 44 #[.iface 96 (.agg #[.int .u64 hi, .int .u64 lo])] w (RetFours w (innerZ hi lo)) := by
  obtain ⟨⟨h0, h1⟩, l0, l1⟩ := hbd
  obtain ⟨i0, hi0, hz0, hz1, hz2⟩ := info_parts Tryz.infoFour
  have hta := as66
  have hwl : IntKind.u32.wrap lo = lw := by rw [u32_wrap]; exact hlw2
  have hwd : IntKind.u32.wrap (hi / 65536) = hi / 65536 % 4294967296 := u32_wrap _
  have hwe : IntKind.u32.wrap hi = hi % 4294967296 := u32_wrap _
  have hA : inA hi th lw = [] := if_neg (by omega)
  have hB : inCo hi th lw = [] := if_neg (by omega)
  have hC : inC hi th lw = [] := if_neg (by omega)
  have hD : inD hi = [hi / 65536 % 4294967296] := if_pos (by omega)
  have hE : inE hi lw = [] := if_neg (by omega)
  have hF : inF th lw = [] := if_neg (by omega)
  have HZ : Hid (innerZ hi lo = [hi / 65536 % 4294967296]) := by show innerZ hi lo = _; rw [innerZ, hth, hlw2, hA, hB, hC, hD, hE, hF]; rfl
  clear hA hB hC hD hE hF
  have ht0 : 0 ≤ th := by omega
  have ht1 : th ≤ 4294967295 := by omega
  have hw0 : 0 ≤ lw := by omega
  have hw1 : lw ≤ 4294967295 := by omega
  have q1 : ((hi) == (0 : Int)) = false := by rw [beq_eq_false_iff_ne]; omega
  have q2 : ((th) == (65535 : Int)) = false := by rw [beq_eq_false_iff_ne]; omega
  have q3 : ((th) == (0 : Int)) = false := by rw [beq_eq_false_iff_ne]; omega
  have q5 : ((hi) == (28428538856079360 : Int)) = false := by rw [beq_eq_false_iff_ne]; omega
  have q6 : ((hi / 281474976710656) == (8194 : Int)) = true := by rw [beq_iff_eq]; omega
  have q7 : ((hi / 4294967296) == (536936448 : Int)) = false := by rw [beq_eq_false_iff_ne]; omega
  have q8 : ((th) == (24318 : Int)) = false := by rw [beq_eq_false_iff_ne]; omega
  have q9 : ((th) == (33578750 : Int)) = false := by rw [beq_eq_false_iff_ne]; omega
  clear hlw2 hh hk
  have hc1 : Below w.heap.size w (w.alloc (.cells #[.int .u64 hi, .int .u64 lo] 96)) := (Below.refl _ w).alloc (Nat.le_refl _) _
  go_enter Tryz.func44, Tryz.ntmps44
  go_wp2_with fail
  refine (wide6_any hi lo _).mono ?_
  rintro e x1 ⟨rfl, hb1⟩
  have hc : Below w.heap.size w x1 := hc1.trans (hb1.mono hc1.size)
  have hsz := hc.size
  clear hb1 hc1 hta
  have hown0 := World.ownsRow_nil x1 w.heap.size 92 1
  go_wp2_with (first
    | (at_builtin; refine wp_append1 _ rfl _ _ 89 rfl w.heap.size 92 i0 (.int .u32 0) 4 Tryz.underlying89 hi0 hz0 hz1 hz2 rfl _ 0 _ rfl hown0 (.int .u32 (hi / 65536 % 4294967296)) rfl rfl (by decide) (by decide) hsz ?_; intro v1 y1 hown1 hk1))
  go_ret
  exact ⟨_, rfl, by rw [HZ.out]; exact hown1, (hc.trans hk1)⟩
set_option maxRecDepth 100000 in
set_option maxHeartbeats 2000000 in
theorem inner_e_ffff (hi lo th lw : Int) (w : World) (hbd : (0 ≤ hi ∧ hi ≤ 18446744073709551615) ∧ (0 ≤ lo ∧ lo ≤ 18446744073709551615)) (hth : lo / 4294967296 = th) (hlw2 : lo % 4294967296 = lw) (hh : hi / 4294967296 = 536936448) (hk : th = 65535) :
    Calls Tryz.prog 44 #[.iface 96 (.agg #[.int .u64 hi, .int .u64 lo])] w (RetFours w (innerZ hi lo)) := by
  obtain ⟨⟨h0, h1⟩, l0, l1⟩ := hbd
  obtain ⟨i0, hi0, hz0, hz1, hz2⟩ := info_parts Tryz.infoFour
  have hta := as66
  have hwl : IntKind.u32.wrap lo = lw := by rw [u32_wrap]; exact hlw2
  have hwd : IntKind.u32.wrap (hi / 65536) = hi / 65536 % 4294967296 := u32_wrap _
  have hwe : IntKind.u32.wrap hi = hi % 4294967296 := u32_wrap _
  have hA : inA hi th lw = [] := if_neg (by omega)
  have hB : inCo hi th lw = [] := if_neg (by omega)
  have hC : inC hi th lw = [] := if_neg (by omega)
  have hD : inD hi = [] := if_neg (by omega)
  have hE : inE hi lw = [hi % 4294967296, 4294967295 - lw] := if_pos (by omega)
  have hF : inF th lw = [] := if_neg (by omega)
  have HZ : Hid (innerZ hi lo = [hi % 4294967296, 4294967295 - lw]) := by show innerZ hi lo = _; rw [innerZ, hth, hlw2, hA, hB, hC, hD, hE, hF]; rfl
  clear hA hB hC hD hE hF
  have ht0 : 0 ≤ th := by omega
  have ht1 : th ≤ 4294967295 := by omega
  have hw0 : 0 ≤ lw := by omega
  have hw1 : lw ≤ 4294967295 := by omega
  have q1 : ((hi) == (0 : Int)) = false := by rw [beq_eq_false_iff_ne]; omega
  have q2 : ((th) == (65535 : Int)) = true := by rw [beq_iff_eq]; omega
  have q3 : ((th) == (0 : Int)) = false := by rw [beq_eq_false_iff_ne]; omega
  have q5 : ((hi) == (28428538856079360 : Int)) = false := by rw [beq_eq_false_iff_ne]; omega
  have q6 : ((hi / 281474976710656) == (8194 : Int)) = false := by rw [beq_eq_false_iff_ne]; omega
  have q7 : ((hi / 4294967296) == (536936448 : Int)) = true := by rw [beq_iff_eq]; omega
  have q8 : ((th) == (24318 : Int)) = false := by rw [beq_eq_false_iff_ne]; omega
  have q9 : ((th) == (33578750 : Int)) = false := by rw [beq_eq_false_iff_ne]; omega
  have hxor := xor32 lw hw0 hw1
  clear hlw2 hh hk
  have hc1 : Below w.heap.size w (w.alloc (.cells #[.int .u64 hi, .int .u64 lo] 96)) := (Below.refl _ w).alloc (Nat.le_refl _) _
  go_enter Tryz.func44, Tryz.ntmps44
  go_wp2_with fail
  refine (wide6_any hi lo _).mono ?_
  rintro e x1 ⟨rfl, hb1⟩
  have hc : Below w.heap.size w x1 := hc1.trans (hb1.mono hc1.size)
  have hsz := hc.size
  clear hb1 hc1 hta
  have hown0 := World.ownsRow_nil x1 w.heap.size 92 1
  go_wp2_with (first
    | (at_builtin; refine wp_append2 _ rfl _ _ 89 rfl w.heap.size 92 i0 (.int .u32 0) 4 Tryz.underlying89 hi0 hz0 hz1 hz2 rfl _ 0 _ rfl hown0 (.int .u32 (hi % 4294967296)) (.int .u32 (4294967295 - lw)) rfl rfl rfl (by unfold maxLen; omega) (by omega) hsz ?_; intro v1 y1 hown1 hk1))
  go_ret
  exact ⟨_, rfl, by rw [HZ.out]; exact hown1, (hc.trans hk1)⟩
set_option maxRecDepth 100000 in
set_option maxHeartbeats 2000000 in
theorem inner_e_zero (hi lo th lw : Int) (w : World) (hbd : (0 ≤ hi ∧ hi ≤ 18446744073709551615) ∧ (0 ≤ lo ∧ lo ≤ 18446744073709551615)) (hth : lo / 4294967296 = th) (hlw2 : lo % 4294967296 = lw) (hh : hi / 4294967296 = 536936448) (hk : th = 0) :
    Calls Tryz.prog 44 #[.iface 96 (.agg #[.int .u64 hi, .int .u64 lo])] w (RetFours w (innerZ hi lo)) := by
  obtain ⟨⟨h0, h1⟩, l0, l1⟩ := hbd
  obtain ⟨i0, hi0, hz0, hz1, hz2⟩ := info_parts Tryz.infoFour
  have hta := as66
  have hwl : IntKind.u32.wrap lo = lw := by rw [u32_wrap]; exact hlw2
  have hwd : IntKind.u32.wrap (hi / 65536) = hi / 65536 % 4294967296 := u32_wrap _
  have hwe : IntKind.u32.wrap hi = hi % 4294967296 := u32_wrap _
  have hA : inA hi th lw = [] := if_neg (by omega)
  have hB : inCo hi th lw = [] := if_neg (by omega)
  have hC : inC hi th lw = [] := if_neg (by omega)
  have hD : inD hi = [] := if_neg (by omega)
  have hE : inE hi lw = [hi % 4294967296, 4294967295 - lw] := if_pos (by omega)
  have hF : inF th lw = [] := if_neg (by omega)
  have HZ : Hid (innerZ hi lo = [hi % 4294967296, 4294967295 - lw]) := by show innerZ hi lo = _; rw [innerZ, hth, hlw2, hA, hB, hC, hD, hE, hF]; rfl
  clear hA hB hC hD hE hF
  have ht0 : 0 ≤ th := by omega
  have ht1 : th ≤ 4294967295 := by omega
  have hw0 : 0 ≤ lw := by omega
  have hw1 : lw ≤ 4294967295 := by omega
  have q1 : ((hi) == (0 : Int)) = false := by rw [beq_eq_false_iff_ne]; omega
  have q2 : ((th) == (65535 : Int)) = false := by rw [beq_eq_false_iff_ne]; omega
  have q3 : ((th) == (0 : Int)) = true := by rw [beq_iff_eq]; omega
  have q5 : ((hi) == (28428538856079360 : Int)) = false := by rw [beq_eq_false_iff_ne]; omega
  have q6 : ((hi / 281474976710656) == (8194 : Int)) = false := by rw [beq_eq_false_iff_ne]; omega
  have q7 : ((hi / 4294967296) == (536936448 : Int)) = true := by rw [beq_iff_eq]; omega
  have q8 : ((th) == (24318 : Int)) = false := by rw [beq_eq_false_iff_ne]; omega
  have q9 : ((th) == (33578750 : Int)) = false := by rw [beq_eq_false_iff_ne]; omega
  have hxor := xor32 lw hw0 hw1
  clear hlw2 hh hk
  have hc1 : Below w.heap.size w (w.alloc (.cells #[.int .u64 hi, .int .u64 lo] 96)) := (Below.refl _ w).alloc (Nat.le_refl _) _
  go_enter Tryz.func44, Tryz.ntmps44
  go_wp2_with fail
  refine (wide6_any hi lo _).mono ?_
  rintro e x1 ⟨rfl, hb1⟩
  have hc : Below w.heap.size w x1 := hc1.trans (hb1.mono hc1.size)
  have hsz := hc.size
  clear hb1 hc1 hta
  have hown0 := World.ownsRow_nil x1 w.heap.size 92 1
  go_wp2_with (first
    | (at_builtin; refine wp_append2 _ rfl _ _ 89 rfl w.heap.size 92 i0 (.int .u32 0) 4 Tryz.underlying89 hi0 hz0 hz1 hz2 rfl _ 0 _ rfl hown0 (.int .u32 (hi % 4294967296)) (.int .u32 (4294967295 - lw)) rfl rfl rfl (by unfold maxLen; omega) (by omega) hsz ?_; intro v1 y1 hown1 hk1))
  go_ret
  exact ⟨_, rfl, by rw [HZ.out]; exact hown1, (hc.trans hk1)⟩
set_option maxRecDepth 100000 in
set_option maxHeartbeats 2000000 in
theorem inner_e_i1 (hi lo th lw : Int) (w : World) (hbd : (0 ≤ hi ∧ hi ≤ 18446744073709551615) ∧ (0 ≤ lo ∧ lo ≤ 18446744073709551615)) (hth : lo / 4294967296 = th) (hlw2 : lo % 4294967296 = lw) (hh : hi / 4294967296 = 536936448) (hk : th = 24318) :
    Calls Tryz.prog 44 #[.iface 96 (.agg #[.int .u64 hi, .int .u64 lo])] w (RetFours w (innerZ hi lo)) := by
  obtain ⟨⟨h0, h1⟩, l0, l1⟩ := hbd
  obtain ⟨i0, hi0, hz0, hz1, hz2⟩ := info_parts Tryz.infoFour
  have hta := as66
  have hwl : IntKind.u32.wrap lo = lw := by rw [u32_wrap]; exact hlw2
  have hwd : IntKind.u32.wrap (hi / 65536) = hi / 65536 % 4294967296 := u32_wrap _
  have hwe : IntKind.u32.wrap hi = hi % 4294967296 := u32_wrap _
  have hA : inA hi th lw = [] := if_neg (by omega)
  have hB : inCo hi th lw = [] := if_neg (by omega)
  have hC : inC hi th lw = [] := if_neg (by omega)
  have hD : inD hi = [] := if_neg (by omega)
  have hE : inE hi lw = [hi % 4294967296, 4294967295 - lw] := if_pos (by omega)
  have hF : inF th lw = [lw] := if_pos (by omega)
  have HZ : Hid (innerZ hi lo = [hi % 4294967296, 4294967295 - lw, lw]) := by show innerZ hi lo = _; rw [innerZ, hth, hlw2, hA, hB, hC, hD, hE, hF]; rfl
  clear hA hB hC hD hE hF
  have ht0 : 0 ≤ th := by omega
  have ht1 : th ≤ 4294967295 := by omega
  have hw0 : 0 ≤ lw := by omega
  have hw1 : lw ≤ 4294967295 := by omega
  have q1 : ((hi) == (0 : Int)) = false := by rw [beq_eq_false_iff_ne]; omega
  have q2 : ((th) == (65535 : Int)) = false := by rw [beq_eq_false_iff_ne]; omega
  have q3 : ((th) == (0 : Int)) = false := by rw [beq_eq_false_iff_ne]; omega
  have q5 : ((hi) == (28428538856079360 : Int)) = false := by rw [beq_eq_false_iff_ne]; omega
  have q6 : ((hi / 281474976710656) == (8194 : Int)) = false := by rw [beq_eq_false_iff_ne]; omega
  have q7 : ((hi / 4294967296) == (536936448 : Int)) = true := by rw [beq_iff_eq]; omega
  have q8 : ((th) == (24318 : Int)) = true := by rw [beq_iff_eq]; omega
  have q9 : ((th) == (33578750 : Int)) = false := by rw [beq_eq_false_iff_ne]; omega
  have hxor := xor32 lw hw0 hw1
  clear hlw2 hh hk
  have hc1 : Below w.heap.size w (w.alloc (.cells #[.int .u64 hi, .int .u64 lo] 96)) := (Below.refl _ w).alloc (Nat.le_refl _) _
  go_enter Tryz.func44, Tryz.ntmps44
  go_wp2_with fail
  refine (wide6_any hi lo _).mono ?_
  rintro e x1 ⟨rfl, hb1⟩
  have hc : Below w.heap.size w x1 := hc1.trans (hb1.mono hc1.size)
  have hsz := hc.size
  clear hb1 hc1 hta
  have hown0 := World.ownsRow_nil x1 w.heap.size 92 1
  go_wp2_with (first
    | (at_builtin; refine wp_append2 _ rfl _ _ 89 rfl w.heap.size 92 i0 (.int .u32 0) 4 Tryz.underlying89 hi0 hz0 hz1 hz2 rfl _ 0 _ rfl hown0 (.int .u32 (hi % 4294967296)) (.int .u32 (4294967295 - lw)) rfl rfl rfl (by unfold maxLen; omega) (by omega) hsz ?_; intro v1 y1 hown1 hk1)
    | (at_builtin; refine wp_append1 _ rfl _ _ 89 rfl w.heap.size 92 i0 (.int .u32 0) 4 Tryz.underlying89 hi0 hz0 hz1 hz2 rfl _ 2 _ rfl hown1 (.int .u32 lw) rfl rfl (by decide) (by decide) (hc.trans hk1).size ?_; intro v2 y2 hown2 hk2))
  go_ret
  exact ⟨_, rfl, by rw [HZ.out]; exact hown2, ((hc.trans hk1).trans hk2)⟩
set_option maxRecDepth 100000 in
set_option maxHeartbeats 2000000 in
theorem inner_e_i2 (hi lo th lw : Int) (w : World) (hbd : (0 ≤ hi ∧ hi ≤ 18446744073709551615) ∧ (0 ≤ lo ∧ lo ≤ 18446744073709551615)) (hth : lo / 4294967296 = th) (hlw2 : lo % 4294967296 = lw) (hh : hi / 4294967296 = 536936448) (hk : th = 33578750) :
    Calls Tryz.prog 44 #[.iface 96 (.agg #[.int .u64 hi, .int .u64 lo])] w (RetFours w (innerZ hi lo)) := by
  obtain ⟨⟨h0, h1⟩, l0, l1⟩ := hbd
  obtain ⟨i0, hi0, hz0, hz1, hz2⟩ := info_parts Tryz.infoFour
  have hta := as66
  have hwl : IntKind.u32.wrap lo = lw := by rw [u32_wrap]; exact hlw2
  have hwd : IntKind.u32.wrap (hi / 65536) = hi / 65536 % 4294967296 := u32_wrap _
  have hwe : IntKind.u32.wrap hi = hi % 4294967296 := u32_wrap _
  have hA : inA hi th lw = [] := if_neg (by omega)
  have hB : inCo hi th lw = [] := if_neg (by omega)
  have hC : inC hi th lw = [] := if_neg (by omega)
  have hD : inD hi = [] := if_neg (by omega)
  have hE : inE hi lw = [hi % 4294967296, 4294967295 - lw] := if_pos (by omega)
  have hF : inF th lw = [lw] := if_pos (by omega)
  have HZ : Hid (innerZ hi lo = [hi % 4294967296, 4294967295 - lw, lw]) := by show innerZ hi lo = _; rw [innerZ, hth, hlw2, hA, hB, hC, hD, hE, hF]; rfl
  clear hA hB hC hD hE hF
  have ht0 : 0 ≤ th := by omega
  have ht1 : th ≤ 4294967295 := by omega
  have hw0 : 0 ≤ lw := by omega
  have hw1 : lw ≤ 4294967295 := by omega
  have q1 : ((hi) == (0 : Int)) = false := by rw [beq_eq_false_iff_ne]; omega
  have q2 : ((th) == (65535 : Int)) = false := by rw [beq_eq_false_iff_ne]; omega
  have q3 : ((th) == (0 : Int)) = false := by rw [beq_eq_false_iff_ne]; omega
  have q5 : ((hi) == (28428538856079360 : Int)) = false := by rw [beq_eq_false_iff_ne]; omega
  have q6 : ((hi / 281474976710656) == (8194 : Int)) = false := by rw [beq_eq_false_iff_ne]; omega
  have q7 : ((hi / 4294967296) == (536936448 : Int)) = true := by rw [beq_iff_eq]; omega
  have q8 : ((th) == (24318 : Int)) = false := by rw [beq_eq_false_iff_ne]; omega
  have q9 : ((th) == (33578750 : Int)) = true := by rw [beq_iff_eq]; omega
  have hxor := xor32 lw hw0 hw1
  clear hlw2 hh hk
  have hc1 : Below w.heap.size w (w.alloc (.cells #[.int .u64 hi, .int .u64 lo] 96)) := (Below.refl _ w).alloc (Nat.le_refl _) _
  go_enter Tryz.func44, Tryz.ntmps44
  go_wp2_with fail
  refine (wide6_any hi lo _).mono ?_
  rintro e x1 ⟨rfl, hb1⟩
  have hc : Below w.heap.size w x1 := hc1.trans (hb1.mono hc1.size)
  have hsz := hc.size
  clear hb1 hc1 hta
  have hown0 := World.ownsRow_nil x1 w.heap.size 92 1
  go_wp2_with (first
    | (at_builtin; refine wp_append2 _ rfl _ _ 89 rfl w.heap.size 92 i0 (.int .u32 0) 4 Tryz.underlying89 hi0 hz0 hz1 hz2 rfl _ 0 _ rfl hown0 (.int .u32 (hi % 4294967296)) (.int .u32 (4294967295 - lw)) rfl rfl rfl (by unfold maxLen; omega) (by omega) hsz ?_; intro v1 y1 hown1 hk1)
    | (at_builtin; refine wp_append1 _ rfl _ _ 89 rfl w.heap.size 92 i0 (.int .u32 0) 4 Tryz.underlying89 hi0 hz0 hz1 hz2 rfl _ 2 _ rfl hown1 (.int .u32 lw) rfl rfl (by decide) (by decide) (hc.trans hk1).size ?_; intro v2 y2 hown2 hk2))
  go_ret
  exact ⟨_, rfl, by rw [HZ.out]; exact hown2, ((hc.trans hk1).trans hk2)⟩
set_option maxRecDepth 100000 in
set_option maxHeartbeats 2000000 in
theorem inner_e_oth (hi lo th lw : Int) (w : World) (hbd : (0 ≤ hi ∧ hi ≤ 18446744073709551615) ∧ (0 ≤ lo ∧ lo ≤ 18446744073709551615)) (hth : lo / 4294967296 = th) (hlw2 : lo % 4294967296 = lw) (hh : hi / 4294967296 = 536936448) (hk : th ≠ 65535 ∧ th ≠ 0 ∧ th ≠ 24318 ∧ th ≠ 33578750) :
    Calls Tryz.prog 44 #[.iface 96 (.agg #[.int .u64 hi, .int .u64 lo])] w (RetFours w (innerZ hi lo)) := by
  obtain ⟨⟨h0, h1⟩, l0, l1⟩ := hbd
  obtain ⟨i0, hi0, hz0, hz1, hz2⟩ := info_parts Tryz.infoFour
  have hta := as66
  have hwl : IntKind.u32.wrap lo = lw := by rw [u32_wrap]; exact hlw2
  have hwd : IntKind.u32.wrap (hi / 65536) = hi / 65536 % 4294967296 := u32_wrap _
  have hwe : IntKind.u32.wrap hi = hi % 4294967296 := u32_wrap _
  have hA : inA hi th lw = [] := if_neg (by omega)
  have hB : inCo hi th lw = [] := if_neg (by omega)
  have hC : inC hi th lw = [] := if_neg (by omega)
  have hD : inD hi = [] := if_neg (by omega)
  have hE : inE hi lw = [hi % 4294967296, 4294967295 - lw] := if_pos (by omega)
  have hF : inF th lw = [] := if_neg (by omega)
  have HZ : Hid (innerZ hi lo = [hi % 4294967296, 4294967295 - lw]) := by show innerZ hi lo = _; rw [innerZ, hth, hlw2, hA, hB, hC, hD, hE, hF]; rfl
  clear hA hB hC hD hE hF
  have ht0 : 0 ≤ th := by omega
  have ht1 : th ≤ 4294967295 := by omega
  have hw0 : 0 ≤ lw := by omega
  have hw1 : lw ≤ 4294967295 := by omega
  have q1 : ((hi) == (0 : Int)) = false := by rw [beq_eq_false_iff_ne]; omega
  have q2 : ((th) == (65535 : Int)) = false := by rw [beq_eq_false_iff_ne]; omega
  have q3 : ((th) == (0 : Int)) = false := by rw [beq_eq_false_iff_ne]; omega
  have q5 : ((hi) == (28428538856079360 : Int)) = false := by rw [beq_eq_false_iff_ne]; omega
  have q6 : ((hi / 281474976710656) == (8194 : Int)) = false := by rw [beq_eq_false_iff_ne]; omega
  have q7 : ((hi / 4294967296) == (536936448 : Int)) = true := by rw [beq_iff_eq]; omega
  have q8 : ((th) == (24318 : Int)) = false := by rw [beq_eq_false_iff_ne]; omega
  have q9 : ((th) == (33578750 : Int)) = false := by rw [beq_eq_false_iff_ne]; omega
  have hxor := xor32 lw hw0 hw1
  clear hlw2 hh hk
  have hc1 : Below w.heap.size w (w.alloc (.cells #[.int .u64 hi, .int .u64 lo] 96)) := (Below.refl _ w).alloc (Nat.le_refl _) _
  go_enter Tryz.func44, Tryz.ntmps44
  go_wp2_with fail
  refine (wide6_any hi lo _).mono ?_
  rintro e x1 ⟨rfl, hb1⟩
  have hc : Below w.heap.size w x1 := hc1.trans (hb1.mono hc1.size)
  have hsz := hc.size
  clear hb1 hc1 hta
  have hown0 := World.ownsRow_nil x1 w.heap.size 92 1
  go_wp2_with (first
    | (at_builtin; refine wp_append2 _ rfl _ _ 89 rfl w.heap.size 92 i0 (.int .u32 0) 4 Tryz.underlying89 hi0 hz0 hz1 hz2 rfl _ 0 _ rfl hown0 (.int .u32 (hi % 4294967296)) (.int .u32 (4294967295 - lw)) rfl rfl rfl (by unfold maxLen; omega) (by omega) hsz ?_; intro v1 y1 hown1 hk1))
  go_ret
  exact ⟨_, rfl, by rw [HZ.out]; exact hown1, (hc.trans hk1)⟩
set_option maxRecDepth 100000 in
set_option maxHeartbeats 2000000 in
theorem inner_oth_ffff (hi lo th lw : Int) (w : World) (hbd : (0 ≤ hi ∧ hi ≤ 18446744073709551615) ∧ (0 ≤ lo ∧ lo ≤ 18446744073709551615)) (hth : lo / 4294967296 = th) (hlw2 : lo % 4294967296 = lw) (hh : hi ≠ 0 ∧ hi ≠ 28428538856079360 ∧ hi / 281474976710656 ≠ 8194 ∧ hi / 4294967296 ≠ 536936448) (hk : th = 65535) :
    Calls Tryz.prog 44 #[.iface 96 (.agg #[.int .u64 hi, .int .u64 lo])] w (RetFours w (innerZ hi lo)) := by
  obtain ⟨⟨h0, h1⟩, l0, l1⟩ := hbd
  obtain ⟨i0, hi0, hz0, hz1, hz2⟩ := info_parts Tryz.infoFour
  have hta := as66
  have hwl : IntKind.u32.wrap lo = lw := by rw [u32_wrap]; exact hlw2
  have hwd : IntKind.u32.wrap (hi / 65536) = hi / 65536 % 4294967296 := u32_wrap _
  have hwe : IntKind.u32.wrap hi = hi % 4294967296 := u32_wrap _
  have hA : inA hi th lw = [] := if_neg (by omega)
  have hB : inCo hi th lw = [] := if_neg (by omega)
  have hC : inC hi th lw = [] := if_neg (by omega)
  have hD : inD hi = [] := if_neg (by omega)
  have hE : inE hi lw = [] := if_neg (by omega)
  have hF : inF th lw = [] := if_neg (by omega)
  have HZ : Hid (innerZ hi lo = []) := by show innerZ hi lo = _; rw [innerZ, hth, hlw2, hA, hB, hC, hD, hE, hF]; rfl
  clear hA hB hC hD hE hF
  have ht0 : 0 ≤ th := by omega
  have ht1 : th ≤ 4294967295 := by omega
  have hw0 : 0 ≤ lw := by omega
  have hw1 : lw ≤ 4294967295 := by omega
  have q1 : ((hi) == (0 : Int)) = false := by rw [beq_eq_false_iff_ne]; omega
  have q2 : ((th) == (65535 : Int)) = true := by rw [beq_iff_eq]; omega
  have q3 : ((th) == (0 : Int)) = false := by rw [beq_eq_false_iff_ne]; omega
  have q5 : ((hi) == (28428538856079360 : Int)) = false := by rw [beq_eq_false_iff_ne]; omega
  have q6 : ((hi / 281474976710656) == (8194 : Int)) = false := by rw [beq_eq_false_iff_ne]; omega
  have q7 : ((hi / 4294967296) == (536936448 : Int)) = false := by rw [beq_eq_false_iff_ne]; omega
  have q8 : ((th) == (24318 : Int)) = false := by rw [beq_eq_false_iff_ne]; omega
  have q9 : ((th) == (33578750 : Int)) = false := by rw [beq_eq_false_iff_ne]; omega
  clear hlw2 hh hk
  have hc1 : Below w.heap.size w (w.alloc (.cells #[.int .u64 hi, .int .u64 lo] 96)) := (Below.refl _ w).alloc (Nat.le_refl _) _
  go_enter Tryz.func44, Tryz.ntmps44
  go_wp2_with fail
  refine (wide6_any hi lo _).mono ?_
  rintro e x1 ⟨rfl, hb1⟩
  have hc : Below w.heap.size w x1 := hc1.trans (hb1.mono hc1.size)
  have hsz := hc.size
  clear hb1 hc1 hta
  have hown0 := World.ownsRow_nil x1 w.heap.size 92 1
  go_wp2
  go_ret
  exact ⟨_, rfl, by rw [HZ.out]; exact Nums.nil _ _ _ _, hc⟩
set_option maxRecDepth 100000 in
set_option maxHeartbeats 2000000 in
theorem inner_oth_zero (hi lo th lw : Int) (w : World) (hbd : (0 ≤ hi ∧ hi ≤ 18446744073709551615) ∧ (0 ≤ lo ∧ lo ≤ 18446744073709551615)) (hth : lo / 4294967296 = th) (hlw2 : lo % 4294967296 = lw) (hh : hi ≠ 0 ∧ hi ≠ 28428538856079360 ∧ hi / 281474976710656 ≠ 8194 ∧ hi / 4294967296 ≠ 536936448) (hk : th = 0) :
    Calls Tryz.prog 44 #[.iface 96 (.agg #[.int .u64 hi, .int .u64 lo])] w (RetFours w (innerZ hi lo)) := by
  obtain ⟨⟨h0, h1⟩, l0, l1⟩ := hbd
  obtain ⟨i0, hi0, hz0, hz1, hz2⟩ := info_parts Tryz.infoFour
  have hta := as66
  have hwl : IntKind.u32.wrap lo = lw := by rw [u32_wrap]; exact hlw2
  have hwd : IntKind.u32.wrap (hi / 65536) = hi / 65536 % 4294967296 := u32_wrap _
  have hwe : IntKind.u32.wrap hi = hi % 4294967296 := u32_wrap _
  have hA : inA hi th lw = [] := if_neg (by omega)
  have hB : inCo hi th lw = [] := if_neg (by omega)
  have hC : inC hi th lw = [] := if_neg (by omega)
  have hD : inD hi = [] := if_neg (by omega)
  have hE : inE hi lw = [] := if_neg (by omega)
  have hF : inF th lw = [] := if_neg (by omega)
  have HZ : Hid (innerZ hi lo = []) := by show innerZ hi lo = _; rw [innerZ, hth, hlw2, hA, hB, hC, hD, hE, hF]; rfl
  clear hA hB hC hD hE hF
  have ht0 : 0 ≤ th := by omega
  have ht1 : th ≤ 4294967295 := by omega
  have hw0 : 0 ≤ lw := by omega
  have hw1 : lw ≤ 4294967295 := by omega
  have q1 : ((hi) == (0 : Int)) = false := by rw [beq_eq_false_iff_ne]; omega
  have q2 : ((th) == (65535 : Int)) = false := by rw [beq_eq_false_iff_ne]; omega
  have q3 : ((th) == (0 : Int)) = true := by rw [beq_iff_eq]; omega
  have q5 : ((hi) == (28428538856079360 : Int)) = false := by rw [beq_eq_false_iff_ne]; omega
  have q6 : ((hi / 281474976710656) == (8194 : Int)) = false := by rw [beq_eq_false_iff_ne]; omega
  have q7 : ((hi / 4294967296) == (536936448 : Int)) = false := by rw [beq_eq_false_iff_ne]; omega
  have q8 : ((th) == (24318 : Int)) = false := by rw [beq_eq_false_iff_ne]; omega
  have q9 : ((th) == (33578750 : Int)) = false := by rw [beq_eq_false_iff_ne]; omega
  clear hlw2 hh hk
  have hc1 : Below w.heap.size w (w.alloc (.cells #[.int .u64 hi, .int .u64 lo] 96)) := (Below.refl _ w).alloc (Nat.le_refl _) _
  go_enter Tryz.func44, Tryz.ntmps44
  go_wp2_with fail
  refine (wide6_any hi lo _).mono ?_
  rintro e x1 ⟨rfl, hb1⟩
  have hc : Below w.heap.size w x1 := hc1.trans (hb1.mono hc1.size)
  have hsz := hc.size
  clear hb1 hc1 hta
  have hown0 := World.ownsRow_nil x1 w.heap.size 92 1
  go_wp2
  go_ret
  exact ⟨_, rfl, by rw [HZ.out]; exact Nums.nil _ _ _ _, hc⟩
set_option maxRecDepth 100000 in
set_option maxHeartbeats 2000000 in
theorem inner_oth_i1 (hi lo th lw : Int) (w : World) (hbd : (0 ≤ hi ∧ hi ≤ 18446744073709551615) ∧ (0 ≤ lo ∧ lo ≤ 18446744073709551615)) (hth : lo / 4294967296 = th) (hlw2 : lo % 4294967296 = lw) (hh : hi ≠ 0 ∧ hi ≠ 28428538856079360 ∧ hi / 281474976710656 ≠ 8194 ∧ hi / 4294967296 ≠ 536936448) (hk : th = 24318) :
    Calls Tryz.prog 44 #[.iface 96 (.agg #[.int .u64 hi, .int .u64 lo])] w (RetFours w (innerZ hi lo)) := by
  obtain ⟨⟨h0, h1⟩, l0, l1⟩ := hbd
  obtain ⟨i0, hi0, hz0, hz1, hz2⟩ := info_parts Tryz.infoFour
  have hta := as66
  have hwl : IntKind.u32.wrap lo = lw := by rw [u32_wrap]; exact hlw2
  have hwd : IntKind.u32.wrap (hi / 65536) = hi / 65536 % 4294967296 := u32_wrap _
  have hwe : IntKind.u32.wrap hi = hi % 4294967296 := u32_wrap _
  have hA : inA hi th lw = [] := if_neg (by omega)
  have hB : inCo hi th lw = [] := if_neg (by omega)
  have hC : inC hi th lw = [] := if_neg (by omega)
  have hD : inD hi = [] := if_neg (by omega)
  have hE : inE hi lw = [] := if_neg (by omega)
  have hF : inF th lw = [lw] := if_pos (by omega)
  have HZ : Hid (innerZ hi lo = [lw]) := by show innerZ hi lo = _; rw [innerZ, hth, hlw2, hA, hB, hC, hD, hE, hF]; rfl
  clear hA hB hC hD hE hF
  have ht0 : 0 ≤ th := by omega
  have ht1 : th ≤ 4294967295 := by omega
  have hw0 : 0 ≤ lw := by omega
  have hw1 : lw ≤ 4294967295 := by omega
  have q1 : ((hi) == (0 : Int)) = false := by rw [beq_eq_false_iff_ne]; omega
  have q2 : ((th) == (65535 : Int)) = false := by rw [beq_eq_false_iff_ne]; omega
  have q3 : ((th) == (0 : Int)) = false := by rw [beq_eq_false_iff_ne]; omega
  have q5 : ((hi) == (28428538856079360 : Int)) = false := by rw [beq_eq_false_iff_ne]; omega
  have q6 : ((hi / 281474976710656) == (8194 : Int)) = false := by rw [beq_eq_false_iff_ne]; omega
  have q7 : ((hi / 4294967296) == (536936448 : Int)) = false := by rw [beq_eq_false_iff_ne]; omega
  have q8 : ((th) == (24318 : Int)) = true := by rw [beq_iff_eq]; omega
  have q9 : ((th) == (33578750 : Int)) = false := by rw [beq_eq_false_iff_ne]; omega
  clear hlw2 hh hk
  have hc1 : Below w.heap.size w (w.alloc (.cells #[.int .u64 hi, .int .u64 lo] 96)) := (Below.refl _ w).alloc (Nat.le_refl _) _
  go_enter Tryz.func44, Tryz.ntmps44
  go_wp2_with fail
  refine (wide6_any hi lo _).mono ?_
  rintro e x1 ⟨rfl, hb1⟩
  have hc : Below w.heap.size w x1 := hc1.trans (hb1.mono hc1.size)
  have hsz := hc.size
  clear hb1 hc1 hta
  have hown0 := World.ownsRow_nil x1 w.heap.size 92 1
  go_wp2_with (first
    | (at_builtin; refine wp_append1 _ rfl _ _ 89 rfl w.heap.size 92 i0 (.int .u32 0) 4 Tryz.underlying89 hi0 hz0 hz1 hz2 rfl _ 0 _ rfl hown0 (.int .u32 lw) rfl rfl (by decide) (by decide) hsz ?_; intro v1 y1 hown1 hk1))
  go_ret
  exact ⟨_, rfl, by rw [HZ.out]; exact hown1, (hc.trans hk1)⟩
set_option maxRecDepth 100000 in
set_option maxHeartbeats 2000000 in
theorem inner_oth_i2 (hi lo th lw : Int) (w : World) (hbd : (0 ≤ hi ∧ hi ≤ 18446744073709551615) ∧ (0 ≤ lo ∧ lo ≤ 18446744073709551615)) (hth : lo / 4294967296 = th) (hlw2 : lo % 4294967296 = lw) (hh : hi ≠ 0 ∧ hi ≠ 28428538856079360 ∧ hi / 281474976710656 ≠ 8194 ∧ hi / 4294967296 ≠ 536936448) (hk : th = 33578750) :
    Calls Tryz.prog 44 #[.iface 96 (.agg #[.int .u64 hi, .int .u64 lo])] w (RetFours w (innerZ hi lo)) := by
  obtain ⟨⟨h0, h1⟩, l0, l1⟩ := hbd
  obtain ⟨i0, hi0, hz0, hz1, hz2⟩ := info_parts Tryz.infoFour
  have hta := as66
  have hwl : IntKind.u32.wrap lo = lw := by rw [u32_wrap]; exact hlw2
  have hwd : IntKind.u32.wrap (hi / 65536) = hi / 65536 % 4294967296 := u32_wrap _
  have hwe : IntKind.u32.wrap hi = hi % 4294967296 := u32_wrap _
  have hA : inA hi th lw = [] := if_neg (by omega)
  have hB : inCo hi th lw = [] := if_neg (by omega)
  have hC : inC hi th lw = [] := if_neg (by omega)
  have hD : inD hi = [] := if_neg (by omega)
  have hE : inE hi lw = [] := if_neg (by omega)
  have hF : inF th lw = [lw] := if_pos (by omega)
  have HZ : Hid (innerZ hi lo = [lw]) := by show innerZ hi lo = _; rw [innerZ, hth, hlw2, hA, hB, hC, hD, hE, hF]; rfl
  clear hA hB hC hD hE hF
  have ht0 : 0 ≤ th := by omega
  have ht1 : th ≤ 4294967295 := by omega
  have hw0 : 0 ≤ lw := by omega
  have hw1 : lw ≤ 4294967295 := by omega
  have q1 : ((hi) == (0 : Int)) = false := by rw [beq_eq_false_iff_ne]; omega
  have q2 : ((th) == (65535 : Int)) = false := by rw [beq_eq_false_iff_ne]; omega
  have q3 : ((th) == (0 : Int)) = false := by rw [beq_eq_false_iff_ne]; omega
  have q5 : ((hi) == (28428538856079360 : Int)) = false := by rw [beq_eq_false_iff_ne]; omega
  have q6 : ((hi / 281474976710656) == (8194 : Int)) = false := by rw [beq_eq_false_iff_ne]; omega
  have q7 : ((hi / 4294967296) == (536936448 : Int)) = false := by rw [beq_eq_false_iff_ne]; omega
  have q8 : ((th) == (24318 : Int)) = false := by rw [beq_eq_false_iff_ne]; omega
  have q9 : ((th) == (33578750 : Int)) = true := by rw [beq_iff_eq]; omega
  clear hlw2 hh hk
  have hc1 : Below w.heap.size w (w.alloc (.cells #[.int .u64 hi, .int .u64 lo] 96)) := (Below.refl _ w).alloc (Nat.le_refl _) _
  go_enter Tryz.func44, Tryz.ntmps44
  go_wp2_with fail
  refine (wide6_any hi lo _).mono ?_
  rintro e x1 ⟨rfl, hb1⟩
  have hc : Below w.heap.size w x1 := hc1.trans (hb1.mono hc1.size)
  have hsz := hc.size
  clear hb1 hc1 hta
  have hown0 := World.ownsRow_nil x1 w.heap.size 92 1
  go_wp2_with (first
    | (at_builtin; refine wp_append1 _ rfl _ _ 89 rfl w.heap.size 92 i0 (.int .u32 0) 4 Tryz.underlying89 hi0 hz0 hz1 hz2 rfl _ 0 _ rfl hown0 (.int .u32 lw) rfl rfl (by decide) (by decide) hsz ?_; intro v1 y1 hown1 hk1))
  go_ret
  exact ⟨_, rfl, by rw [HZ.out]; exact hown1, (hc.trans hk1)⟩
set_option maxRecDepth 100000 in
set_option maxHeartbeats 2000000 in
theorem inner_oth_oth (hi lo th lw : Int) (w : World) (hbd : (0 ≤ hi ∧ hi ≤ 18446744073709551615) ∧ (0 ≤ lo ∧ lo ≤ 18446744073709551615)) (hth : lo / 4294967296 = th) (hlw2 : lo % 4294967296 = lw) (hh : hi ≠ 0 ∧ hi ≠ 28428538856079360 ∧ hi / 281474976710656 ≠ 8194 ∧ hi / 4294967296 ≠ 536936448) (hk : th ≠ 65535 ∧ th ≠ 0 ∧ th ≠ 24318 ∧ th ≠ 33578750) :
    Calls Tryz.prog 44 #[.iface 96 (.agg #[.int .u64 hi, .int .u64 lo])] w (RetFours w (innerZ hi lo)) := by
  obtain ⟨⟨h0, h1⟩, l0, l1⟩ := hbd
  obtain ⟨i0, hi0, hz0, hz1, hz2⟩ := info_parts Tryz.infoFour
  have hta := as66
  have hwl : IntKind.u32.wrap lo = lw := by rw [u32_wrap]; exact hlw2
  have hwd : IntKind.u32.wrap (hi / 65536) = hi / 65536 % 4294967296 := u32_wrap _
  have hwe : IntKind.u32.wrap hi = hi % 4294967296 := u32_wrap _
  have hA : inA hi th lw = [] := if_neg (by omega)
  have hB : inCo hi th lw = [] := if_neg (by omega)
  have hC : inC hi th lw = [] := if_neg (by omega)
  have hD : inD hi = [] := if_neg (by omega)
  have hE : inE hi lw = [] := if_neg (by omega)
  have hF : inF th lw = [] := if_neg (by omega)
  have HZ : Hid (innerZ hi lo = []) := by show innerZ hi lo = _; rw [innerZ, hth, hlw2, hA, hB, hC, hD, hE, hF]; rfl
  clear hA hB hC hD hE hF
  have ht0 : 0 ≤ th := by omega
  have ht1 : th ≤ 4294967295 := by omega
  have hw0 : 0 ≤ lw := by omega
  have hw1 : lw ≤ 4294967295 := by omega
  have q1 : ((hi) == (0 : Int)) = false := by rw [beq_eq_false_iff_ne]; omega
  have q2 : ((th) == (65535 : Int)) = false := by rw [beq_eq_false_iff_ne]; omega
  have q3 : ((th) == (0 : Int)) = false := by rw [beq_eq_false_iff_ne]; omega
  have q5 : ((hi) == (28428538856079360 : Int)) = false := by rw [beq_eq_false_iff_ne]; omega
  have q6 : ((hi / 281474976710656) == (8194 : Int)) = false := by rw [beq_eq_false_iff_ne]; omega
  have q7 : ((hi / 4294967296) == (536936448 : Int)) = false := by rw [beq_eq_false_iff_ne]; omega
  have q8 : ((th) == (24318 : Int)) = false := by rw [beq_eq_false_iff_ne]; omega
  have q9 : ((th) == (33578750 : Int)) = false := by rw [beq_eq_false_iff_ne]; omega
  clear hlw2 hh hk
  have hc1 : Below w.heap.size w (w.alloc (.cells #[.int .u64 hi, .int .u64 lo] 96)) := (Below.refl _ w).alloc (Nat.le_refl _) _
  go_enter Tryz.func44, Tryz.ntmps44
  go_wp2_with fail
  refine (wide6_any hi lo _).mono ?_
  rintro e x1 ⟨rfl, hb1⟩
  have hc : Below w.heap.size w x1 := hc1.trans (hb1.mono hc1.size)
  have hsz := hc.size
  clear hb1 hc1 hta
  have hown0 := World.ownsRow_nil x1 w.heap.size 92 1
  go_wp2
  go_ret
  exact ⟨_, rfl, by rw [HZ.out]; exact Nums.nil _ _ _ _, hc⟩

theorem inner_six (hi lo : Int) (w : World) (h0 : 0 ≤ hi) (h1 : hi ≤ 18446744073709551615) (l0 : 0 ≤ lo) (l1 : lo ≤ 18446744073709551615) :
    Calls Tryz.prog 44 #[.iface 96 (.agg #[.int .u64 hi, .int .u64 lo])] w (RetFours w (innerZ hi lo)) := by
  obtain ⟨th, hth⟩ : ∃ th, lo / 4294967296 = th := ⟨_, rfl⟩
  obtain ⟨lw, hlw⟩ : ∃ lw, lo % 4294967296 = lw := ⟨_, rfl⟩
  rcases (show hi = 0 ∨ hi = 28428538856079360 ∨ hi / 281474976710656 = 8194 ∨ hi / 4294967296 = 536936448 ∨ (hi ≠ 0 ∧ hi ≠ 28428538856079360 ∧ hi / 281474976710656 ≠ 8194 ∧ hi / 4294967296 ≠ 536936448) from by omega) with hh | hh | hh | hh | hh
  · rcases (show th = 65535 ∨ th = 0 ∨ th = 24318 ∨ th = 33578750 ∨ (th ≠ 65535 ∧ th ≠ 0 ∧ th ≠ 24318 ∧ th ≠ 33578750) from by omega) with hk | hk | hk | hk | hk
    · exact inner_zero_ffff hi lo th lw w ⟨⟨h0, h1⟩, l0, l1⟩ hth hlw hh hk
    · by_cases hl : 1 < lw
      · exact inner_zero_zero_lw hi lo th lw w ⟨⟨h0, h1⟩, l0, l1⟩ hth hlw hh hk hl
      · exact inner_zero_zero hi lo th lw w ⟨⟨h0, h1⟩, l0, l1⟩ hth hlw hh hk (by omega)
    · exact inner_zero_i1 hi lo th lw w ⟨⟨h0, h1⟩, l0, l1⟩ hth hlw hh hk
    · exact inner_zero_i2 hi lo th lw w ⟨⟨h0, h1⟩, l0, l1⟩ hth hlw hh hk
    · exact inner_zero_oth hi lo th lw w ⟨⟨h0, h1⟩, l0, l1⟩ hth hlw hh hk
  · rcases (show th = 65535 ∨ th = 0 ∨ th = 24318 ∨ th = 33578750 ∨ (th ≠ 65535 ∧ th ≠ 0 ∧ th ≠ 24318 ∧ th ≠ 33578750) from by omega) with hk | hk | hk | hk | hk
    · exact inner_tr_ffff hi lo th lw w ⟨⟨h0, h1⟩, l0, l1⟩ hth hlw hh hk
    · exact inner_tr_zero hi lo th lw w ⟨⟨h0, h1⟩, l0, l1⟩ hth hlw hh hk
    · exact inner_tr_i1 hi lo th lw w ⟨⟨h0, h1⟩, l0, l1⟩ hth hlw hh hk
    · exact inner_tr_i2 hi lo th lw w ⟨⟨h0, h1⟩, l0, l1⟩ hth hlw hh hk
    · exact inner_tr_oth hi lo th lw w ⟨⟨h0, h1⟩, l0, l1⟩ hth hlw hh hk
  · rcases (show th = 65535 ∨ th = 0 ∨ th = 24318 ∨ th = 33578750 ∨ (th ≠ 65535 ∧ th ≠ 0 ∧ th ≠ 24318 ∧ th ≠ 33578750) from by omega) with hk | hk | hk | hk | hk
    · exact inner_d_ffff hi lo th lw w ⟨⟨h0, h1⟩, l0, l1⟩ hth hlw hh hk
    · exact inner_d_zero hi lo th lw w ⟨⟨h0, h1⟩, l0, l1⟩ hth hlw hh hk
    · exact inner_d_i1 hi lo th lw w ⟨⟨h0, h1⟩, l0, l1⟩ hth hlw hh hk
    · exact inner_d_i2 hi lo th lw w ⟨⟨h0, h1⟩, l0, l1⟩ hth hlw hh hk
    · exact inner_d_oth hi lo th lw w ⟨⟨h0, h1⟩, l0, l1⟩ hth hlw hh hk
  · rcases (show th = 65535 ∨ th = 0 ∨ th = 24318 ∨ th = 33578750 ∨ (th ≠ 65535 ∧ th ≠ 0 ∧ th ≠ 24318 ∧ th ≠ 33578750) from by omega) with hk | hk | hk | hk | hk
    · exact inner_e_ffff hi lo th lw w ⟨⟨h0, h1⟩, l0, l1⟩ hth hlw hh hk
    · exact inner_e_zero hi lo th lw w ⟨⟨h0, h1⟩, l0, l1⟩ hth hlw hh hk
    · exact inner_e_i1 hi lo th lw w ⟨⟨h0, h1⟩, l0, l1⟩ hth hlw hh hk
    · exact inner_e_i2 hi lo th lw w ⟨⟨h0, h1⟩, l0, l1⟩ hth hlw hh hk
    · exact inner_e_oth hi lo th lw w ⟨⟨h0, h1⟩, l0, l1⟩ hth hlw hh hk
  · rcases (show th = 65535 ∨ th = 0 ∨ th = 24318 ∨ th = 33578750 ∨ (th ≠ 65535 ∧ th ≠ 0 ∧ th ≠ 24318 ∧ th ≠ 33578750) from by omega) with hk | hk | hk | hk | hk
    · exact inner_oth_ffff hi lo th lw w ⟨⟨h0, h1⟩, l0, l1⟩ hth hlw hh hk
    · exact inner_oth_zero hi lo th lw w ⟨⟨h0, h1⟩, l0, l1⟩ hth hlw hh hk
    · exact inner_oth_i1 hi lo th lw w ⟨⟨h0, h1⟩, l0, l1⟩ hth hlw hh hk
    · exact inner_oth_i2 hi lo th lw w ⟨⟨h0, h1⟩, l0, l1⟩ hth hlw hh hk
    · exact inner_oth_oth hi lo th lw w ⟨⟨h0, h1⟩, l0, l1⟩ hth hlw hh hk
end

section
open Go.RowKit


set_option maxRecDepth 100000 in
set_option maxHeartbeats 1000000 in
theorem equalF_any (v1 v2 : Value) (l1 l2 : List Int) (w : World) (h1 : RowR w v1 (l1.map (Value.int .u32))) (h2 : RowR w v2 (l2.map (Value.int .u32)))
    (hl1 : l1.length ≤ 1073741824) :
    Calls Tryz.prog 176 #[v1, v2] w fun e w' => e = .returned (.bool (decide (l1 = l2))) ∧ ∃ n, w' = w.drewN n := by
  obtain ⟨a1, c1, rfl, hc1⟩ := h1
  obtain ⟨a2, c2, rfl, hc2⟩ := h2
  simp only [List.length_map]
  have HC1 := Lib.hid hc1
  have HC2 := Lib.hid hc2
  clear hc1 hc2
  by_cases hne : l1.length = l2.length
  · have HL := Lib.hid hne
    have hle1 : l1.length ≤ l2.length := by omega
    have hle2 : l2.length ≤ l1.length := by omega
    have hb : ((l1.length : Int) != (l2.length : Int)) = false := by simp [hne]
    clear hne
    go_enter Tryz.func176, Tryz.ntmps176
    go_wp2
    go_loopw [13] (fun i wr => ∃ k m : Nat, k ≤ l1.length ∧ i = .int .i64 k ∧ wr = w.drewN m ∧ Hid (l1.take k = l2.take k)) (fun i _ => l1.length - (intOf i).toNat)
    case atStart => exact ⟨0, 0, Nat.zero_le _, rfl, rfl, rfl⟩
    case round =>
      obtain ⟨k, m, hk, rfl, rfl, H⟩ := hrel
      by_cases hlt : k < l1.length
      · have hlt2 : k < l2.length := by omega
        obtain ⟨x, hx⟩ : ∃ x, x = l1[k] := ⟨_, rfl⟩
        obtain ⟨y, hy⟩ : ∃ y, y = l2[k] := ⟨_, rfl⟩
        obtain ⟨d1, rfl, hd1⟩ := HC1.out k (.int .u32 x) (by simp [hx, hlt])
        obtain ⟨d2, rfl, hd2⟩ := HC2.out k (.int .u32 y) (by simp [hy, hlt2])
        have HX := Lib.hid hx
        have HY := Lib.hid hy
        clear hx hy
        by_cases hxy : x = y
        · subst hxy
          go_wp2
          go_quiet (fail)
          go_wp2
          go_roundw
          case rel =>
            exact ⟨k + 1, _, by omega, by go_num, rfl, take_next H.out hlt hlt2 (HX.out.symm.trans HY.out)⟩
          case measure => simp [intOf]; omega
        · have hb1 : (x != y) = true := by simp [hxy]
          have hfin : decide (l1 = l2) = false := by
            refine decide_eq_false fun e => hxy ?_
            rw [HX.out, HY.out]
            simp only [e]
          have HF := Lib.hid hfin
          clear hfin
          go_wp2
          go_quiet (fail)
          go_wp2
          go_ret
          exact ⟨ret_bool HF.out.symm, _, World.drewN_drewN _ _ _⟩
      · have hfin : decide (l1 = l2) = true := by
          refine decide_eq_true ?_
          have := H.out
          rwa [List.take_of_length_le (by omega), List.take_of_length_le (by omega)] at this
        have HF := Lib.hid hfin
        clear hfin
        go_wp2
        go_ret
        exact ⟨ret_bool HF.out.symm, m, rfl⟩
  · have hb : ((l1.length : Int) != (l2.length : Int)) = true := by simp; omega
    have hfin : decide (l1 = l2) = false := decide_eq_false fun e => hne (by rw [e])
    have HF := Lib.hid hfin
    clear hfin
    go_enter Tryz.func176, Tryz.ntmps176
    go_wp2
    go_ret
    exact ⟨ret_bool HF.out.symm, 0, rfl⟩

theorem a6_a : addrZ [58, 58, 102, 102, 102, 102, 58, 55, 102, 48, 48, 58, 49] = some (.six 0 281472812449793) := by
  unfold addrZ
  rw [show strictZ [58, 58, 102, 102, 102, 102, 58, 55, 102, 48, 48, 58, 49] = (0, false) from by decide +kernel, show sixZ [58, 58, 102, 102, 102, 102, 58, 55, 102, 48, 48, 58, 49] = ((0, 281472812449793), true) from by decide +kernel]
  rfl
theorem a6_b : addrZ [50, 48, 48, 50, 58, 55, 102, 48, 48, 58, 49, 58, 58] = some (.six 2306545597143908352 0) := by
  unfold addrZ
  rw [show strictZ [50, 48, 48, 50, 58, 55, 102, 48, 48, 58, 49, 58, 58] = (0, false) from by decide +kernel, show sixZ [50, 48, 48, 50, 58, 55, 102, 48, 48, 58, 49, 58, 58] = ((2306545597143908352, 0), true) from by decide +kernel]
  rfl
theorem i6_a : innerZ 0 281472812449793 = [2130706433] := by decide +kernel
theorem i6_b : innerZ 2306545597143908352 0 = [2130706433] := by decide +kernel

set_option maxHeartbeats 1000000 in
theorem awake5_any (w : World) (hbru : BruTab w) (hmax : MaxVar w) :
    Calls Tryz.prog 175 #[] w fun e w' => e = .returned (.bool true) ∧ Below w.heap.size w w' := by
  have HT := Lib.hid hbru
  have HX := Lib.hid hmax
  clear hbru hmax
  go_enter Tryz.func175, Tryz.ntmps175
  go_wp2_with fail
  refine (awake05_any _ HT.out HX.out).mono ?_
  rintro e w1 ⟨rfl, hb1⟩
  go_wp2
  go_ret
  exact ⟨rfl, hb1⟩

theorem lit_row (x : World) (n : Int) : RowR (x.alloc (.cells #[.int .u32 n] 92)) (.slice (some ⟨x.heap.size, 0, none⟩) 1 1) ([n].map (Value.int .u32)) := by
  refine ⟨some ⟨x.heap.size, 0, none⟩, 1, rfl, fun j u hj => ⟨_, rfl, ?_⟩⟩
  rw [Lib.add_plain, Nat.zero_add, cell_of_row _ _ j _ _ _ (heap_alloc_new x _)]
  simpa using hj

set_option maxRecDepth 100000 in
set_option maxHeartbeats 4000000 in
theorem awake06_any (w : World) (hbru : BruTab w) (hmax : MaxVar w) :
    Calls Tryz.prog 168 #[] w fun e w' => e = .returned (.bool true) ∧ Below w.heap.size w w' := by
  have HT := Lib.hid hbru
  have HX := Lib.hid hmax
  clear hbru hmax
  go_enter Tryz.func168, Tryz.ntmps168
  go_wp2_with fail
  refine (addrParse_any _ _ (by decide) HX.out).mono ?_
  rw [show addrZ (ByteArray.mk #[58, 58, 102, 102, 102, 102, 58, 55, 102, 48, 48, 58, 49]).data.toList = some (.six 0 281472812449793) from a6_a]
  rintro e x1 ⟨rfl, hb1⟩
  simp only [optV, AZ.val, Option.isSome]
  go_wp2_with fail
  refine (addrParse_any _ _ (by decide) (maxVar_below HX.out hb1)).mono ?_
  rw [show addrZ (ByteArray.mk #[50, 48, 48, 50, 58, 55, 102, 48, 48, 58, 49, 58, 58]).data.toList = some (.six 2306545597143908352 0) from a6_b]
  rintro e x2 ⟨rfl, hb2⟩
  simp only [optV, AZ.val, Option.isSome]
  have hc2 : Below w.heap.size w x2 := hb1.trans (hb2.mono hb1.size)
  clear hb1 hb2
  go_wp2_with fail
  refine (awake5_any _ (bruTab_below HT.out hc2) (maxVar_below HX.out hc2)).mono ?_
  rintro e x3 ⟨rfl, hb3⟩
  have hc3 : Below w.heap.size w x3 := hc2.trans (hb3.mono hc2.size)
  clear hb3 hc2
  go_wp2_with fail
  refine (inner_six 0 281472812449793 _ (by decide) (by decide) (by decide) (by decide)).mono ?_
  rw [i6_a]
  rintro e x4 ⟨v4, rfl, hn4, hb4⟩
  have hc4 : Below w.heap.size w x4 := hc3.trans (hb4.mono hc3.size)
  have hc5 : Below w.heap.size w (x4.alloc (.cells #[.int .u32 2130706433] 92)) := hc4.alloc hc4.size _
  have HR4 := Lib.hid ((hn4.below ((Below.refl _ x4).alloc (Nat.le_refl _) (.cells #[.int .u32 2130706433] 92))).row)
  have HL4 := Lib.hid (lit_row x4 2130706433)
  clear hb4 hc3 hn4 hc4
  go_wp2_with fail
  generalize x4.alloc (.cells #[.int .u32 2130706433] 92) = x5 at *
  refine (equalF_any _ _ [2130706433] [2130706433] _ HR4.out HL4.out (by decide)).mono ?_
  rintro e x6 ⟨rfl, m6, rfl⟩
  have hc6 : Below w.heap.size w (x5.drewN m6) := below_drewN hc5 m6
  generalize x5.drewN m6 = x6 at *
  rw [decide_eq_true (rfl : ([2130706433] : List Int) = [2130706433])]
  go_wp2_with fail
  refine (inner_six 2306545597143908352 0 _ (by decide) (by decide) (by decide) (by decide)).mono ?_
  rw [i6_b]
  rintro e x7 ⟨v7, rfl, hn7, hb7⟩
  have hc7 : Below w.heap.size w x7 := hc6.trans (hb7.mono hc6.size)
  have hc8 : Below w.heap.size w (x7.alloc (.cells #[.int .u32 2130706433] 92)) := hc7.alloc hc7.size _
  have HR7 := Lib.hid ((hn7.below ((Below.refl _ x7).alloc (Nat.le_refl _) (.cells #[.int .u32 2130706433] 92))).row)
  have HL7 := Lib.hid (lit_row x7 2130706433)
  clear hb7 hn7 hc7
  go_wp2_with fail
  generalize x7.alloc (.cells #[.int .u32 2130706433] 92) = x8 at *
  refine (equalF_any _ _ [2130706433] [2130706433] _ HR7.out HL7.out (by decide)).mono ?_
  rintro e x9 ⟨rfl, m9, rfl⟩
  rw [decide_eq_true (rfl : ([2130706433] : List Int) = [2130706433])]
  go_wp2
  go_ret
  exact ⟨by first | rfl | exact ret_bool (by simp), below_drewN hc8 m9⟩

/-- an address as the document's -/
def refA : Option AZ → Bool × Int × Int
  | none => (false, 0, 0)
  | some (.four n) => (false, 0, 281470681743360 + n)
  | some (.six hi lo) => (true, hi, lo)
def refV (x : Bool × Int × Int) : Value := .agg #[.bool x.1, .int .u64 x.2.1, .int .u64 x.2.2]

set_option maxRecDepth 100000 in
set_option maxHeartbeats 1000000 in
theorem refFour_any (n : Int) (w : World) (h0 : 0 ≤ n) (h1 : n ≤ 4294967295) :
    Calls Tryz.prog 50 #[.int .u32 n] w fun e w' => e = .returned (.agg #[.bool false, .int .u64 0, .int .u64 (281470681743360 + n)]) ∧ Below w.heap.size w w' := by
  go_enter Tryz.func50, Tryz.ntmps50
  go_wp2
  exact bodyPost_ret (v := .agg #[.bool false, .int .u64 0, .int .u64 (281470681743360 + n)]) (by simp [results, Tryz.results50, go_sem]) rfl ⟨rfl, (Below.refl _ _).alloc (Nat.le_refl _) _⟩
end

section
open Go.RowKit


set_option maxRecDepth 100000 in
set_option maxHeartbeats 1000000 in
theorem lawOf_four (n : Int) (w : World) (h0 : 0 ≤ n) (h1 : n ≤ 4294967295) :
    Calls Tryz.prog 15 #[.iface 92 (.int .u32 n)] w fun e w' => e = .returned (.agg #[.bool false, .int .u64 0, .int .u64 (281470681743360 + n)]) ∧ Below w.heap.size w w' := by
  have hta := as44
  have hB : (w.alloc (.cells #[.bool false, .int .u64 0, .int .u64 0] 31)).heap[w.heap.size]? = some (.cells #[.bool false, .int .u64 0, .int .u64 0] 31 (0, 0)) := heap_alloc_new w _
  have hg : w.heap.size < (w.alloc (.cells #[.bool false, .int .u64 0, .int .u64 0] 31)).heap.size := by simp
  have hb : Below w.heap.size w (w.alloc (.cells #[.bool false, .int .u64 0, .int .u64 0] 31)) := (Below.refl _ w).alloc (Nat.le_refl _) _
  have HB := Lib.hid hB
  clear hB
  go_enter Tryz.func15, Tryz.ntmps15
  go_wp2_with fail
  generalize w.alloc (.cells #[.bool false, .int .u64 0, .int .u64 0] 31) = x1 at *
  refine (refFour_any n _ h0 h1).mono ?_
  rintro e x2 ⟨rfl, hb2⟩
  have HB2 : Hid (x2.heap[w.heap.size]? = some (.cells #[.bool false, .int .u64 0, .int .u64 0] 31 (0, 0))) := (hb2.block w.heap.size hg).trans HB.out
  have k0 : x2.cell? ⟨w.heap.size, 0, none⟩ = some (.bool false) := by rw [cell_of_row x2 _ 0 _ _ _ HB2.out]; rfl
  have k1 : x2.cell? ⟨w.heap.size, 1, none⟩ = some (.int .u64 0) := by rw [cell_of_row x2 _ 1 _ _ _ HB2.out]; rfl
  have k2 : x2.cell? ⟨w.heap.size, 2, none⟩ = some (.int .u64 0) := by rw [cell_of_row x2 _ 2 _ _ _ HB2.out]; rfl
  have f0 := row_frozen0 HB2.out 0
  have f1 := row_frozen0 HB2.out 1
  have f2 := row_frozen0 HB2.out 2
  have hc2 : Below w.heap.size w x2 := hb.trans (hb2.mono hb.size)
  clear hb2 hta
  go_wp2
  exact bodyPost_ret (v := .agg #[.bool false, .int .u64 0, .int .u64 (281470681743360 + n)]) (by simp [results, Tryz.results15, go_sem, k0, k1, k2]) rfl ⟨rfl, ((hc2.setCell (Nat.le_refl _) _).setCell (Nat.le_refl _) _).setCell (Nat.le_refl _) _⟩

set_option maxRecDepth 100000 in
set_option maxHeartbeats 1000000 in
theorem lawOf_six (hi lo : Int) (w : World) :
    Calls Tryz.prog 15 #[.iface 96 (.agg #[.int .u64 hi, .int .u64 lo])] w fun e w' => e = .returned (.agg #[.bool true, .int .u64 hi, .int .u64 lo]) ∧ Below w.heap.size w w' := by
  have hta := as64
  have htb := as66
  go_enter Tryz.func15, Tryz.ntmps15
  go_wp2
  exact bodyPost_ret (v := .agg #[.bool true, .int .u64 hi, .int .u64 lo]) (by simp [results, Tryz.results15, go_sem]) rfl ⟨rfl, by first | exact (((((Below.refl _ w).alloc (Nat.le_refl _) _).alloc (by simp) _).setCell (Nat.le_refl _) _).setCell (Nat.le_refl _) _).setCell (Nat.le_refl _) _ | exact ((Below.refl _ w).alloc (Nat.le_refl _) _).alloc (by simp) _⟩
set_option maxRecDepth 100000 in
set_option maxHeartbeats 1000000 in
theorem lawOf_nil (w : World) :
    Calls Tryz.prog 15 #[.nilIface] w fun e w' => e = .returned (.agg #[.bool false, .int .u64 0, .int .u64 0]) ∧ Below w.heap.size w w' := by
  have hta := asN4
  have htb := asN6
  go_enter Tryz.func15, Tryz.ntmps15
  go_wp2
  exact bodyPost_ret (v := .agg #[.bool false, .int .u64 0, .int .u64 0]) (by simp [results, Tryz.results15, go_sem]) rfl ⟨rfl, by first | exact (((((Below.refl _ w).alloc (Nat.le_refl _) _).alloc (by simp) _).setCell (Nat.le_refl _) _).setCell (Nat.le_refl _) _).setCell (Nat.le_refl _) _ | exact ((Below.refl _ w).alloc (Nat.le_refl _) _).alloc (by simp) _⟩

theorem lawOf_any (x : Option AZ) (w : World) (h : ∀ a, x = some a → a.Ok) :
    Calls Tryz.prog 15 #[optV x] w fun e w' => e = .returned (refV (refA x)) ∧ Below w.heap.size w w' := by
  match x with
  | none => exact lawOf_nil w
  | some (.four n) => exact lawOf_four n w (h _ rfl).1 (h _ rfl).2
  | some (.six hi lo) => exact lawOf_six hi lo w

def RetRef6 (w : World) (x : Option AZ) (e : Ending) (w' : World) : Prop := e = .returned (.tuple #[refV (refA x), .bool x.isSome]) ∧ Below w.heap.size w w'

set_option maxRecDepth 100000 in
set_option maxHeartbeats 2000000 in
theorem refAddrParse_any (s : ByteArray) (w : World) (hs : s.size ≤ 1073741824) :
    Calls Tryz.prog 119 #[.string s] w (RetRef6 w (addrZ s.data.toList)) := by
  obtain ⟨y, b4, hy⟩ : ∃ x b, strictZ s.data.toList = (x, b) := ⟨_, _, rfl⟩
  have hyb : 0 ≤ y ∧ y ≤ 4294967295 := by have := strictZ_bounds s.data.toList; rw [hy] at this; exact this
  have HY := Lib.hid hy
  obtain ⟨h, l, b6, hz⟩ : ∃ h l b, sixZ s.data.toList = ((h, l), b) := ⟨_, _, _, rfl⟩
  have HZ := Lib.hid hz
  have HA : Hid (addrZ s.data.toList = if b4 = true then some (.four y) else if b6 = true then some (.six h l) else none) := by
    show addrZ s.data.toList = _
    unfold addrZ; rw [hy, hz]
  clear hy hz
  have hB : (w.alloc (.cells #[.bool false, .int .u64 0, .int .u64 0] 31)).heap[w.heap.size]? = some (.cells #[.bool false, .int .u64 0, .int .u64 0] 31 (0, 0)) := heap_alloc_new w _
  have hg : w.heap.size < (w.alloc (.cells #[.bool false, .int .u64 0, .int .u64 0] 31)).heap.size := by simp
  have hb : Below w.heap.size w (w.alloc (.cells #[.bool false, .int .u64 0, .int .u64 0] 31)) := (Below.refl _ w).alloc (Nat.le_refl _) _
  have HB := Lib.hid hB
  clear hB
  go_enter Tryz.func119, Tryz.ntmps119
  go_wp2_with fail
  generalize w.alloc (.cells #[.bool false, .int .u64 0, .int .u64 0] 31) = x1 at *
  refine (refStrict_any s _ hs).mono ?_
  rw [HY.out]
  rintro e x2 ⟨rfl, hb2⟩
  have HB2 : Hid (x2.heap[w.heap.size]? = some (.cells #[.bool false, .int .u64 0, .int .u64 0] 31 (0, 0))) := (hb2.block w.heap.size hg).trans HB.out
  have hg2 : w.heap.size < x2.heap.size := Nat.lt_of_lt_of_le hg hb2.size
  have hc2 : Below w.heap.size w x2 := hb.trans (hb2.mono hb.size)
  clear hb2 hg
  cases b4 with
  | true =>
    go_wp2_with fail
    refine (refFour_any y _ hyb.1 hyb.2).mono ?_
    rintro e x3 ⟨rfl, hb3⟩
    have HB3 : Hid (x3.heap[w.heap.size]? = some (.cells #[.bool false, .int .u64 0, .int .u64 0] 31 (0, 0))) := (hb3.block w.heap.size hg2).trans HB2.out
    have k0 : x3.cell? ⟨w.heap.size, 0, none⟩ = some (.bool false) := by rw [cell_of_row x3 _ 0 _ _ _ HB3.out]; rfl
    have k1 : x3.cell? ⟨w.heap.size, 1, none⟩ = some (.int .u64 0) := by rw [cell_of_row x3 _ 1 _ _ _ HB3.out]; rfl
    have k2 : x3.cell? ⟨w.heap.size, 2, none⟩ = some (.int .u64 0) := by rw [cell_of_row x3 _ 2 _ _ _ HB3.out]; rfl
    have f0 := row_frozen0 HB3.out 0
    have f1 := row_frozen0 HB3.out 1
    have f2 := row_frozen0 HB3.out 2
    have hc3 : Below w.heap.size w x3 := hc2.trans (hb3.mono hc2.size)
    clear hb3
    go_wp2
    exact bodyPost_ret (v := .tuple #[.agg #[.bool false, .int .u64 0, .int .u64 (281470681743360 + y)], .bool true]) (by simp [results, Tryz.results119, go_sem, k0, k1, k2]) rfl ⟨by rw [HA.out]; rfl, ((hc3.setCell (Nat.le_refl _) _).setCell (Nat.le_refl _) _).setCell (Nat.le_refl _) _⟩
  | false =>
    go_wp2_with fail
    refine (refParse6_any s _ hs).mono ?_
    rw [HZ.out]
    rintro e x3 ⟨rfl, hb3⟩
    have HB3 : Hid (x3.heap[w.heap.size]? = some (.cells #[.bool false, .int .u64 0, .int .u64 0] 31 (0, 0))) := (hb3.block w.heap.size hg2).trans HB2.out
    have k0 : x3.cell? ⟨w.heap.size, 0, none⟩ = some (.bool false) := by rw [cell_of_row x3 _ 0 _ _ _ HB3.out]; rfl
    have k1 : x3.cell? ⟨w.heap.size, 1, none⟩ = some (.int .u64 0) := by rw [cell_of_row x3 _ 1 _ _ _ HB3.out]; rfl
    have k2 : x3.cell? ⟨w.heap.size, 2, none⟩ = some (.int .u64 0) := by rw [cell_of_row x3 _ 2 _ _ _ HB3.out]; rfl
    have f0 := row_frozen0 HB3.out 0
    have f1 := row_frozen0 HB3.out 1
    have f2 := row_frozen0 HB3.out 2
    have hc3 : Below w.heap.size w x3 := hc2.trans (hb3.mono hc2.size)
    clear hb3
    cases b6 with
    | true =>
      go_wp2
      exact bodyPost_ret (v := .tuple #[.agg #[.bool true, .int .u64 h, .int .u64 l], .bool true]) (by simp [results, Tryz.results119, go_sem, k0, k1, k2]) rfl ⟨by rw [HA.out]; rfl, ((hc3.setCell (Nat.le_refl _) _).setCell (Nat.le_refl _) _).setCell (Nat.le_refl _) _⟩
    | false =>
      go_wp2
      exact bodyPost_ret (v := .tuple #[.agg #[.bool false, .int .u64 0, .int .u64 0], .bool false]) (by simp [results, Tryz.results119, go_sem, k0, k1, k2]) rfl ⟨by rw [HA.out]; rfl, ((hc3.setCell (Nat.le_refl _) _).setCell (Nat.le_refl _) _).setCell (Nat.le_refl _) _⟩
end

section
open Go.RowKit


/-- the forms that the chapter names, built of n -/
def embL (n r : Int) : List (Int × Int) :=
  [(0, 281470681743360 + n), (0, n), (28428538856079360, n), (2306405959167115264 + n * 65536 + r % 65536, r), (2306124484190404608 + n, r),
   (2306124484190404608 + r % 4294967296, r * 4294967296 % 18446744073709551616 + (4294967295 - n)), (r, 104445014704128 + n), (r, 144219633090560000 + n)]
theorem emb_0 (n : Int) (h0 : 0 ≤ n) (h1 : n ≤ 4294967295) : n ∈ innerZ 0 (281470681743360 + n) := by
  unfold innerZ
  rw [show (281470681743360 + n) / 4294967296 = 65535 from by omega, show (281470681743360 + n) % 4294967296 = n from by omega]
  simp [inA]
theorem emb_1 (n : Int) (h0 : 1 < n) (h1 : n ≤ 4294967295) : n ∈ innerZ 0 n := by
  unfold innerZ
  rw [show n / 4294967296 = 0 from by omega, show n % 4294967296 = n from by omega]
  simp [inCo, h0]
theorem emb_2 (n : Int) (h0 : 0 ≤ n) (h1 : n ≤ 4294967295) : n ∈ innerZ 28428538856079360 n := by
  unfold innerZ
  rw [show n / 4294967296 = 0 from by omega, show n % 4294967296 = n from by omega]
  simp [inC]
theorem emb_3 (n r lo : Int) (h0 : 0 ≤ n) (h1 : n ≤ 4294967295) : n ∈ innerZ (2306405959167115264 + n * 65536 + r % 65536) lo := by
  unfold innerZ inD
  rw [if_pos (show (2306405959167115264 + n * 65536 + r % 65536) / 281474976710656 = 8194 from by omega), show (2306405959167115264 + n * 65536 + r % 65536) / 65536 % 4294967296 = n from by omega]
  simp
theorem emb_4 (n lo : Int) (h0 : 0 ≤ n) (h1 : n ≤ 4294967295) : n ∈ innerZ (2306124484190404608 + n) lo := by
  unfold innerZ inE
  rw [if_pos (show (2306124484190404608 + n) / 4294967296 = 536936448 from by omega), show (2306124484190404608 + n) % 4294967296 = n from by omega]
  simp
theorem emb_5 (n r : Int) (h0 : 0 ≤ n) (h1 : n ≤ 4294967295) : n ∈ innerZ (2306124484190404608 + r % 4294967296) (r * 4294967296 % 18446744073709551616 + (4294967295 - n)) := by
  unfold innerZ inE
  rw [if_pos (show (2306124484190404608 + r % 4294967296) / 4294967296 = 536936448 from by omega), show (r * 4294967296 % 18446744073709551616 + (4294967295 - n)) % 4294967296 = 4294967295 - n from by omega, show (4294967295 : Int) - (4294967295 - n) = n from by omega]
  simp
theorem emb_6 (n hi : Int) (h0 : 0 ≤ n) (h1 : n ≤ 4294967295) : n ∈ innerZ hi (104445014704128 + n) := by
  unfold innerZ
  rw [show (104445014704128 + n) / 4294967296 = 24318 from by omega, show (104445014704128 + n) % 4294967296 = n from by omega]
  simp [inF]
theorem emb_7 (n hi : Int) (h0 : 0 ≤ n) (h1 : n ≤ 4294967295) : n ∈ innerZ hi (144219633090560000 + n) := by
  unfold innerZ
  rw [show (144219633090560000 + n) / 4294967296 = 33578750 from by omega, show (144219633090560000 + n) % 4294967296 = n from by omega]
  simp [inF]
theorem inner_two (n : Int) (h0 : 0 ≤ n) (h1 : n ≤ 1) : innerZ 0 n = [] := by
  rcases (show n = 0 ∨ n = 1 from by omega) with rfl | rfl <;> decide +kernel

theorem and_low (i : Nat) (x m : Int) (h0 : 0 ≤ x) (h1 : x ≤ 18446744073709551615) (hi : i ≤ 64) (hm : m = 2 ^ i - 1) : bits .and .u64 x m = x % 2 ^ i := by
  obtain ⟨a, rfl⟩ := Int.eq_ofNat_of_zero_le h0
  subst hm
  have ha : a < 2 ^ 64 := by omega
  have hp : (2 ^ i : Nat) ≤ 2 ^ 64 := Nat.pow_le_pow_right (by decide) hi
  have hp0 : 0 < 2 ^ i := Nat.pow_pos (by decide)
  have e2 : ((2 : Int) ^ i - 1) = ((2 ^ i - 1 : Nat) : Int) := by
    rw [Int.ofNat_sub hp0]; simp
  rw [e2]
  show IntKind.u64.wrap (((BitVec.ofInt 64 (a : Int)) &&& (BitVec.ofInt 64 ((2 ^ i - 1 : Nat) : Int))).toNat : Int) = _
  rw [BitVec.toNat_and, BitVec.ofInt_natCast, BitVec.ofInt_natCast, BitVec.toNat_ofNat, BitVec.toNat_ofNat, Nat.mod_eq_of_lt ha, Nat.mod_eq_of_lt (by omega), Nat.and_two_pow_sub_one_eq_mod, IntKind.wrap_u64]
  have hlt : a % 2 ^ i < 2 ^ i := Nat.mod_lt _ hp0
  have e3 : ((a % 2 ^ i : Nat) : Int) = (a : Int) % 2 ^ i := by simp
  rw [← e3]
  omega
theorem xor64 (n : Int) (h0 : 0 ≤ n) (h1 : n ≤ 18446744073709551615) : bits .xor .u64 (if IntKind.u64.signed = true then -1 else IntKind.u64.max) n = 18446744073709551615 - n := by
  obtain ⟨a, rfl⟩ := Int.eq_ofNat_of_zero_le h0
  have ha : a < 2 ^ 64 := by omega
  have e1 : BitVec.ofInt 64 18446744073709551615 = BitVec.allOnes 64 := by decide
  show IntKind.u64.wrap (((BitVec.ofInt 64 18446744073709551615) ^^^ (BitVec.ofInt 64 (a : Int))).toNat : Int) = _
  rw [e1, BitVec.allOnes_xor, BitVec.toNat_not, BitVec.ofInt_natCast, BitVec.toNat_ofNat, Nat.mod_eq_of_lt ha, IntKind.wrap_u64]
  omega

/-- the order -/
def cmpI (x y : Int) : Int := if x < y then -1 else if y < x then 1 else 0
def AZ.hi : AZ → Int
  | .four _ => 0
  | .six hi _ => hi
def AZ.lo : AZ → Int
  | .four n => 281470681743360 + n
  | .six _ lo => lo
def AZ.rk : AZ → Int
  | .four _ => 1
  | .six _ _ => 2
def cmpZ (a b : AZ) : Int := if a.hi ≠ b.hi then cmpI a.hi b.hi else if a.lo ≠ b.lo then cmpI a.lo b.lo else cmpI a.rk b.rk
theorem cmpI_pos (x y : Int) : 0 < cmpI x y ↔ y < x := by unfold cmpI; split <;> (try split) <;> omega
theorem cmpI_neg (x y : Int) : cmpI x y < 0 ↔ x < y := by unfold cmpI; split <;> (try split) <;> omega
theorem cmpI_zero (x y : Int) : cmpI x y = 0 ↔ x = y := by unfold cmpI; split <;> (try split) <;> omega
theorem cmpI_swap (x y : Int) : cmpI x y = - cmpI y x := by unfold cmpI; split <;> (try split) <;> (try split) <;> omega
theorem cmpI_in (x y : Int) : -1 ≤ cmpI x y ∧ cmpI x y ≤ 1 := by unfold cmpI; split <;> (try split) <;> omega
theorem cmpZ_in (a b : AZ) : -1 ≤ cmpZ a b ∧ cmpZ a b ≤ 1 := by
  unfold cmpZ; split
  · exact cmpI_in _ _
  · split <;> exact cmpI_in _ _
theorem cmpZ_swap (a b : AZ) : cmpZ a b = - cmpZ b a := by
  unfold cmpZ
  by_cases h1 : a.hi = b.hi
  · by_cases h2 : a.lo = b.lo
    · rw [if_neg (fun h => h h1), if_neg (fun h => h h2), if_neg (fun h => h h1.symm), if_neg (fun h => h h2.symm)]; exact cmpI_swap _ _
    · rw [if_neg (fun h => h h1), if_pos h2, if_neg (fun h => h h1.symm), if_pos (Ne.symm h2)]; exact cmpI_swap _ _
  · rw [if_pos h1, if_pos (Ne.symm h1)]; exact cmpI_swap _ _
theorem cmpZ_pos (a b : AZ) : 0 < cmpZ a b ↔ b.hi < a.hi ∨ a.hi = b.hi ∧ (b.lo < a.lo ∨ a.lo = b.lo ∧ b.rk < a.rk) := by
  unfold cmpZ
  have e1 := cmpI_pos a.hi b.hi
  have e2 := cmpI_pos a.lo b.lo
  have e3 := cmpI_pos a.rk b.rk
  by_cases h1 : a.hi = b.hi
  · by_cases h2 : a.lo = b.lo
    · rw [if_neg (fun h => h h1), if_neg (fun h => h h2)]; omega
    · rw [if_neg (fun h => h h1), if_pos h2]; omega
  · rw [if_pos h1]; omega
theorem cmpZ_zero (a b : AZ) : cmpZ a b = 0 ↔ a = b := by
  unfold cmpZ
  have e1 := cmpI_zero a.hi b.hi
  have e2 := cmpI_zero a.lo b.lo
  have e3 := cmpI_zero a.rk b.rk
  constructor
  · intro h
    by_cases h1 : a.hi = b.hi
    · by_cases h2 : a.lo = b.lo
      · rw [if_neg (fun h => h h1), if_neg (fun h => h h2)] at h
        have h3 := e3.1 h
        cases a <;> cases b <;> simp only [AZ.hi, AZ.lo, AZ.rk] at h1 h2 h3
        · congr 1; omega
        · omega
        · omega
        · rw [h1, h2]
      · rw [if_neg (fun h => h h1), if_pos h2] at h
        exact absurd (e2.1 h) h2
    · rw [if_pos h1] at h
      exact absurd (e1.1 h) h1
  · rintro rfl
    simp [cmpI]
theorem cmpZ_trans (a b c : AZ) (h1 : 0 < cmpZ a b) (h2 : 0 < cmpZ b c) : 0 < cmpZ a c := by
  rw [cmpZ_pos] at *
  omega
end

section
open Go.RowKit


theorem cmpI_lt {x y : Int} (h : x < y) : cmpI x y = -1 := by unfold cmpI; rw [if_pos h]
theorem cmpI_gt {x y : Int} (h : y < x) : cmpI x y = 1 := by unfold cmpI; rw [if_neg (by omega), if_pos h]
theorem cmpI_eq (x : Int) : cmpI x x = 0 := by unfold cmpI; rw [if_neg (by omega), if_neg (by omega)]
theorem three_ways (x y : Int) : x < y ∨ y < x ∨ x = y := by omega
end

section
open Go.RowKit


theorem cmpZ_hi {a b : AZ} (h : a.hi ≠ b.hi) : cmpZ a b = cmpI a.hi b.hi := if_pos h
theorem cmpZ_lo {a b : AZ} (h : a.hi = b.hi) (h2 : a.lo ≠ b.lo) : cmpZ a b = cmpI a.lo b.lo := (if_neg (fun k => k h)).trans (if_pos h2)
theorem cmpZ_rk {a b : AZ} (h : a.hi = b.hi) (h2 : a.lo = b.lo) : cmpZ a b = cmpI a.rk b.rk := (if_neg (fun k => k h)).trans (if_neg (fun k => k h2))
end

section
open Go.RowKit


theorem asPn (w : World) : (Instr.typeAssert .nilIface 25 96 false).run Tryz.prog w = .halt (.panic (.iface 15 (.pointer (some ⟨w.heap.size, 0, none⟩)))) (w.alloc (.cells #[.pointer (some ⟨Tryz.prog.globals.size, 25, none⟩), .pointer none, .pointer (some ⟨Tryz.prog.globals.size, 96, none⟩), .string ⟨#[]⟩] 267)) := by kernel_rfl
theorem asP4 (n : Int) (w : World) : (Instr.typeAssert (.iface 92 (.int .u32 n)) 25 96 false).run Tryz.prog w = .halt (.panic (.iface 15 (.pointer (some ⟨w.heap.size, 0, none⟩)))) (w.alloc (.cells #[.pointer (some ⟨Tryz.prog.globals.size, 25, none⟩), .pointer (some ⟨Tryz.prog.globals.size, 92, none⟩), .pointer (some ⟨Tryz.prog.globals.size, 96, none⟩), .string ⟨#[]⟩] 267)) := by kernel_rfl
theorem asP6 (v : Value) (w : World) : (Instr.typeAssert (.iface 96 v) 25 96 false).run Tryz.prog w = .ok v w := by kernel_rfl

def RetPanic (w : World) (e : Ending) (w' : World) : Prop := (∃ v, e = .panicked [{ v := .iface 15 v, recovered := false }]) ∧ Below w.heap.size w w'

theorem Nums.none {t : TypeId} {k : IntKind} {B : Nat} {w : World} {v : Value} (h : Nums t k B w v []) : ∃ a c, v = .slice a 0 c := by
  obtain ⟨a, c, hv, _⟩ := h.row
  exact ⟨a, c, by simpa using hv⟩
theorem set_same {x : World} {b : Nat} {t : TypeId} (h : x.heap[b]? = some (.cells #[.bool false] t (0, 0))) : (x.setCell ⟨b, 0, none⟩ (.bool true)).cell? ⟨b, 0, none⟩ = some (.bool true) := by
  simp [World.setCell, World.cell?, Array.getElem?_modify, h]
end

section
open Go.RowKit


def rkB (s : Bool) : Int := if s then 2 else 1
def cmpT (x y : Bool × Int × Int) : Int := if x.2.1 ≠ y.2.1 then cmpI x.2.1 y.2.1 else if x.2.2 ≠ y.2.2 then cmpI x.2.2 y.2.2 else cmpI (rkB x.1) (rkB y.1)
theorem cmpT_refA (a b : AZ) : cmpT (refA (some a)) (refA (some b)) = cmpZ a b := by cases a <;> cases b <;> rfl

set_option maxRecDepth 100000 in
set_option maxHeartbeats 1000000 in
theorem two_any (v : Value) (l : List Int) (k : Nat) (x y : Int) (w : World) (h : RowR w v (l.map (Value.int .i64))) (hk : k + 1 < l.length) (hl : l.length ≤ 1073741824) (hx : l[k]? = some x) (hy : l[k + 1]? = some y)
    (x0 : 0 ≤ x) (x1 : x ≤ 65535) (y0 : 0 ≤ y) (y1 : y ≤ 65535) :
    Calls Tryz.prog 90 #[v, .int .i64 (k : Int)] w fun e w' => e = .returned (.int .u32 (x * 65536 + y)) ∧ Below w.heap.size w w' := by
  obtain ⟨a1, c1, rfl, hc1⟩ := h
  simp only [List.length_map]
  obtain ⟨ad, rfl, hd1⟩ := hc1 k (.int .i64 x) (by rw [List.getElem?_map, hx]; rfl)
  obtain ⟨ad2, e2, hd2⟩ := hc1 (k + 1) (.int .i64 y) (by rw [List.getElem?_map, hy]; rfl)
  cases e2
  clear hc1 hx hy
  have hk0 : k < l.length := by omega
  obtain ⟨k2, hk2⟩ : ∃ k2, k2 = k + 1 := ⟨_, rfl⟩
  rw [← hk2] at hk hd2
  have e1 : IntKind.i64.wrap ((k : Int) + 1) = (k2 : Int) := by rw [IntKind.wrap_i64]; omega
  clear hk2
  have e2 : IntKind.u32.wrap x = x := by rw [u32_wrap]; omega
  have e3 : IntKind.u32.wrap y = y := by rw [u32_wrap]; omega
  have e4 : IntKind.u32.wrap (x * 65536) = x * 65536 := by rw [u32_wrap]; omega
  have e5 : IntKind.u32.wrap (x * 65536 + y) = x * 65536 + y := by rw [u32_wrap]; omega
  go_enter Tryz.func90, Tryz.ntmps90
  go_wp2
  go_quiet (fail)
  go_wp2
  go_ret
  exact ⟨rfl, below_drewN (Below.refl _ _) _⟩

set_option maxRecDepth 100000 in
set_option maxHeartbeats 1000000 in
theorem begins_any (v1 v2 : Value) (l1 l2 : List Int) (w : World) (h1 : RowR w v1 (l1.map (Value.int .i64))) (h2 : RowR w v2 (l2.map (Value.int .i64))) (hle : l2.length ≤ l1.length) (hl1 : l1.length ≤ 1073741824) :
    Calls Tryz.prog 91 #[v1, v2] w fun e w' => e = .returned (.bool (decide (l1.take l2.length = l2))) ∧ Below w.heap.size w w' := by
  obtain ⟨a1, c1, rfl, hc1⟩ := h1
  obtain ⟨a2, c2, rfl, hc2⟩ := h2
  simp only [List.length_map]
  have HC1 := Lib.hid hc1
  have HC2 := Lib.hid hc2
  clear hc1 hc2
  go_enter Tryz.func91, Tryz.ntmps91
  go_wp2
  go_loopw [5] (fun i wr => ∃ k m : Nat, k ≤ l2.length ∧ i = .int .i64 k ∧ wr = w.drewN m ∧ Hid (l1.take k = l2.take k)) (fun i _ => l2.length - (intOf i).toNat)
  case atStart => exact ⟨0, 0, Nat.zero_le _, rfl, rfl, rfl⟩
  case round =>
    obtain ⟨k, m, hk, rfl, rfl, H⟩ := hrel
    by_cases hlt2 : k < l2.length
    · have hlt : k < l1.length := by omega
      obtain ⟨x, hx⟩ : ∃ x, x = l1[k] := ⟨_, rfl⟩
      obtain ⟨y, hy⟩ : ∃ y, y = l2[k] := ⟨_, rfl⟩
      obtain ⟨d1, rfl, hd1⟩ := HC1.out k (.int .i64 x) (by simp [hx, hlt])
      obtain ⟨d2, rfl, hd2⟩ := HC2.out k (.int .i64 y) (by simp [hy, hlt2])
      have HX := Lib.hid hx
      have HY := Lib.hid hy
      clear hx hy
      by_cases hxy : x = y
      · subst hxy
        go_wp2
        go_quiet (fail)
        go_wp2
        go_roundw
        case rel =>
          exact ⟨k + 1, _, by omega, by go_num, rfl, take_next H.out hlt hlt2 (HX.out.symm.trans HY.out)⟩
        case measure => simp [intOf]; omega
      · have hb1 : (x != y) = true := by simp [hxy]
        have hfin : decide (l1.take l2.length = l2) = false := by
          refine decide_eq_false fun e => hxy ?_
          rw [HX.out, HY.out]
          have h3 : (l1.take l2.length)[k]? = l2[k]? := by rw [e]
          rw [List.getElem?_take, if_pos hlt2, List.getElem?_eq_getElem hlt, List.getElem?_eq_getElem hlt2] at h3
          exact Option.some.inj h3
        have HF := Lib.hid hfin
        clear hfin
        go_wp2
        go_quiet (fail)
        go_wp2
        go_ret
        exact ⟨ret_bool HF.out.symm, below_drewN (below_drewN (Below.refl _ _) _) _⟩
    · have hfin : decide (l1.take l2.length = l2) = true := by
        refine decide_eq_true ?_
        have h3 := H.out
        have hke : k = l2.length := by omega
        rw [hke, List.take_length] at h3
        exact h3
      have HF := Lib.hid hfin
      clear hfin
      go_wp2
      go_ret
      exact ⟨ret_bool HF.out.symm, below_drewN (Below.refl _ _) m⟩

def textA : AZ → List UInt8
  | .four n => txtZ n
  | .six hi lo => text6Z hi lo
end

section
open Go.RowKit


theorem Tryz.infoU32 : (Tryz.prog.info? 91).map (fun i => (i.zero, i.size, i.bytes)) = some (some (.int .u32 0), 1, 4) := by kernel_rfl
def RetU32s (w : World) (l : List Int) (e : Ending) (w' : World) : Prop := ∃ v, e = .returned v ∧ Nums 91 .u32 w.heap.size w' v l ∧ Below w.heap.size w w'
theorem lit6_row (x : World) (a0 a1 a2 a3 a4 a5 : Int) : RowR (x.alloc (.cells #[.int .i64 a0, .int .i64 a1, .int .i64 a2, .int .i64 a3, .int .i64 a4, .int .i64 a5] 3)) (.slice (some ⟨x.heap.size, 0, none⟩) 6 6) ([a0, a1, a2, a3, a4, a5].map (Value.int .i64)) := by
  refine ⟨some ⟨x.heap.size, 0, none⟩, 6, rfl, fun j u hj => ⟨_, rfl, ?_⟩⟩
  rw [Lib.add_plain, Nat.zero_add, cell_of_row _ _ j _ _ _ (heap_alloc_new x _)]
  simpa using hj
theorem row8_row {W : World} {B : Nat} {p : List Int} (hp : p.length = 8) (h : ∀ j, j < 8 → W.cell? ⟨B, j, none⟩ = some (.int .i64 (p.getD j 0))) : RowR W (.slice (some ⟨B, 0, none⟩) 8 8) (p.map (Value.int .i64)) := by
  refine ⟨some ⟨B, 0, none⟩, 8, by rw [List.length_map, hp], fun j u hj => ⟨_, rfl, ?_⟩⟩
  have hlt : j < 8 := by
    have := (List.getElem?_eq_some_iff.1 hj).1
    rw [List.length_map, hp] at this
    exact this
  rw [Lib.add_plain, Nat.zero_add, h j hlt]
  rw [List.getElem?_map] at hj
  rw [List.getD_eq_getElem?_getD]
  cases e : p[j]? with
  | none => rw [e] at hj; cases hj
  | some x => rw [e] at hj; exact hj

theorem pcs_len (hi lo : Int) : (pcs hi lo).length = 8 := rfl
def pa (c : Bool) (l : List Int) : List Int := if c then l else []
theorem pa_len (c : Bool) (l : List Int) : (pa c l).length ≤ l.length := by cases c <;> simp [pa]
theorem pa_t (l : List Int) : pa true l = l := rfl
theorem pa_f (l : List Int) : pa false l = [] := rfl
theorem ref_inner (hi lo : Int) (h0 : 0 ≤ hi) (h1 : hi ≤ 18446744073709551615) (l0 : 0 ≤ lo) (l1 : lo ≤ 18446744073709551615) :
    innerZ hi lo = pa (decide ((pcs hi lo).take 6 = [0, 0, 0, 0, 0, 65535])) [lo % 4294967296] ++ pa (decide ((pcs hi lo).take 6 = [0, 0, 0, 0, 0, 0] ∧ 1 < lo % 4294967296)) [lo % 4294967296] ++ pa (decide ((pcs hi lo).take 6 = [100, 65435, 0, 0, 0, 0])) [lo % 4294967296]
      ++ pa (decide (hi / 281474976710656 = 8194)) [hi / 65536 % 4294967296] ++ pa (decide (hi / 281474976710656 = 8193 ∧ hi / 4294967296 % 65536 = 0)) [hi % 4294967296, 4294967295 - lo % 4294967296]
      ++ pa (decide ((lo / 281474976710656 = 0 ∨ lo / 281474976710656 = 512) ∧ lo / 4294967296 % 65536 = 24318)) [lo % 4294967296] := by
  have key : ∀ (P : Prop) [Decidable P] (Q : Prop) [Decidable Q] (l : List Int), (P ↔ Q) → (if P then l else []) = pa (decide Q) l := fun P _ Q _ l h => by
    unfold pa
    by_cases hq : Q
    · rw [if_pos (h.2 hq), decide_eq_true hq]; rfl
    · rw [if_neg (fun hp => hq (h.1 hp)), decide_eq_false hq]; rfl
  unfold innerZ inA inCo inC inD inE inF
  congr 1
  · congr 1
    · congr 1
      · congr 1
        · congr 1
          · refine key _ _ _ ?_
            simp only [pcs, List.take_succ_cons, List.take_zero, List.cons.injEq, and_true]; omega
          · refine key _ _ _ ?_
            simp only [pcs, List.take_succ_cons, List.take_zero, List.cons.injEq, and_true]; omega
        · refine key _ _ _ ?_
          simp only [pcs, List.take_succ_cons, List.take_zero, List.cons.injEq, and_true]; omega
      · refine key _ _ _ ?_
        omega
    · refine key _ _ _ ?_
      omega
  · refine key _ _ _ ?_
    omega

def Rw (x1 : World) (wc : World) (v : Value) (l : List Int) : Prop := Nums 91 .u32 x1.heap.size wc v l ∧ Below x1.heap.size x1 wc

set_option maxRecDepth 100000 in
set_option maxHeartbeats 4000000 in
theorem refInner_six (hi lo : Int) (w : World) (h0 : 0 ≤ hi) (h1 : hi ≤ 18446744073709551615) (l0 : 0 ≤ lo) (l1 : lo ≤ 18446744073709551615) :
    Calls Tryz.prog 64 #[.agg #[.bool true, .int .u64 hi, .int .u64 lo]] w (RetU32s w (innerZ hi lo)) := by
  obtain ⟨i0, hi0, hz0, hz1, hz2⟩ := info_parts Tryz.infoU32
  have HZ := Lib.hid (ref_inner hi lo h0 h1 l0 l1)
  obtain ⟨lw, hlw⟩ : ∃ lw, lo % 4294967296 = lw := ⟨_, rfl⟩
  have hw0 : 0 ≤ lw := by omega
  have hw1 : lw ≤ 4294967295 := by omega
  rw [hlw] at HZ
  have hc0 : Below w.heap.size w (w.alloc (.cells #[.bool true, .int .u64 hi, .int .u64 lo] 31)) := (Below.refl _ _).alloc (Nat.le_refl _) _
  have HTW : Hid (lo / 65536 % 65536 * 65536 + lo % 65536 = lw) := by show _ = _; omega
  go_enter Tryz.func64, Tryz.ntmps64
  go_wp2_with fail
  refine (refPieces_any hi lo _ h0 h1 l0 l1).mono ?_
  rintro e x1 ⟨B, rfl, hB, hcl, hb1⟩
  have hc1 : Below w.heap.size w x1 := hc0.trans (hb1.mono hc0.size)
  have hk : ∀ W, Below x1.heap.size x1 W → ∀ j, j < 8 → W.cell? ⟨B, j, none⟩ = some (.int .i64 ((pcs hi lo).getD j 0)) := fun W hW j hj => (hW.cell hB).trans (hcl j hj)
  have HK := Lib.hid hk
  have HROW : Hid (∀ W, Below x1.heap.size x1 W → RowR W (.slice (some ⟨B, 0, none⟩) 8 8) ((pcs hi lo).map (Value.int .i64))) := fun W hW => row8_row rfl (HK.out W hW)
  have HC1 := Lib.hid hc1
  clear hb1 hcl hk hc0 hc1
  have hn0 : Nums 91 .u32 x1.heap.size x1 (.slice none 0 0) [] := Nums.nil _ _ _ _
  go_wp2_with fail
  refine (two_any _ (pcs hi lo) 6 (lo / 65536 % 65536) (lo % 65536) _ (HROW.out _ (Below.refl _ _)) (by rw [pcs_len]; decide) (by rw [pcs_len]; decide) rfl rfl (by omega) (by omega) (by omega) (by omega)).mono ?_
  rw [HTW.out]
  rintro e x2 ⟨rfl, hb2⟩
  have hn := Lib.hid (hn0.below hb2)
  have hq := hb2
  clear hlw hn0 hb2
  obtain ⟨L0, hL0, HL0⟩ : ∃ L : List Int, L.length ≤ 0 ∧ L = [] := ⟨_, Nat.le_refl _, rfl⟩
  rw [← HL0] at hn
  have GL0 := Lib.hid HL0
  clear HL0
  go_wp2_with fail
  refine (begins_any _ _ (pcs hi lo) [0, 0, 0, 0, 0, 65535] _ (HROW.out _ (hq.alloc hq.size _)) (lit6_row x2 0 0 0 0 0 65535) (by rw [pcs_len]; decide) (by rw [pcs_len]; decide)).mono ?_
  rw [show ([0, 0, 0, 0, 0, 65535] : List Int).length = 6 from rfl]
  obtain ⟨bA, hbA⟩ : ∃ b, decide ((pcs hi lo).take 6 = [0, 0, 0, 0, 0, 65535]) = b := ⟨_, rfl⟩
  rw [hbA] at HZ ⊢
  rintro e x3 ⟨rfl, hb3⟩
  have hn' := Lib.hid (hn.out.below ((Below.refl _ x2).alloc (Nat.le_refl _) (.cells #[.int .i64 0, .int .i64 0, .int .i64 0, .int .i64 0, .int .i64 0, .int .i64 65535] 3) |>.trans (hb3.mono (by simp))))
  have hq' : Below x1.heap.size x1 x3 := (hq.alloc hq.size _).trans (hb3.mono (hq.alloc hq.size _).size)
  clear hn hq hb3 hbA
  have hn := hn'
  have hq := hq'
  clear hn' hq'
  go_upto_if 19 with fail
  go_cut [3] (fun v wc => Rw x1 wc v (L0 ++ pa bA [lw]))
  case first =>
    cases bA with
    | false =>
      go_wp2
      go_meet
      exact ⟨by rw [pa_f, List.append_nil]; exact hn.out, hq⟩
    | true =>
      have ho1 : World.ownsRow x3 x1.heap.size 91 1 (.slice none 0 0) L0.length (L0.map (Value.int .u32)) := hn.out
      have tA1 : L0.length + 1 ≤ 9223372036854775807 := by have := hL0; omega
      have tB1 : (L0.length + 1) * 4 ≤ 140737488355328 := by have := hL0; omega
      have tC1 : x1.heap.size ≤ x3.heap.size := hq.size
      go_wp2_with (first
        | (at_builtin; refine wp_append1 _ rfl _ _ 128 rfl x1.heap.size 91 i0 (.int .u32 0) 4 Tryz.underlying128 hi0 hz0 hz1 hz2 rfl _ L0.length _ rfl ho1 (.int .u32 lw) rfl rfl tA1 tB1 tC1 ?_; intro v1 z1 hown1 hk1))
      go_meet
      exact ⟨Nums.snoc hown1, hq.trans hk1⟩
  case rest =>
    rename World => yA
    obtain ⟨hn', hq'⟩ := hcut
    obtain ⟨L1, hL1, HL1⟩ : ∃ L : List Int, L.length ≤ 1 ∧ L = L0 ++ pa bA [lw] := ⟨_, by have := pa_len bA [lw]; simp only [List.length_append]; simp only [List.length_cons, List.length_nil] at this; omega, rfl⟩
    rw [← HL1] at hn'
    have GL1 := Lib.hid HL1
    clear hn hq HL1
    have hn := Lib.hid hn'
    have hq := hq'
    clear hn' hq'
    obtain ⟨bB, hbB⟩ : ∃ b, decide ((pcs hi lo).take 6 = [0, 0, 0, 0, 0, 0] ∧ 1 < lw) = b := ⟨_, rfl⟩
    rw [hbB] at HZ
    have HB := Lib.hid hbB
    clear hbB
    go_upto_region 8 with fail
    go_cut [30] (fun v wc => v = .bool bB ∧ Below yA.heap.size yA wc)
    case first =>
      go_wp2_with fail
      refine (begins_any _ _ (pcs hi lo) [0, 0, 0, 0, 0, 0] _ (HROW.out _ (hq.alloc hq.size _)) (lit6_row yA 0 0 0 0 0 0) (by rw [pcs_len]; decide) (by rw [pcs_len]; decide)).mono ?_
      rw [show ([0, 0, 0, 0, 0, 0] : List Int).length = 6 from rfl]
      by_cases hP : (pcs hi lo).take 6 = [0, 0, 0, 0, 0, 0]
      · rw [decide_eq_true hP]
        rintro e x3 ⟨rfl, hb3⟩
        have hbz : Below yA.heap.size yA x3 := ((Below.refl _ yA).alloc (Nat.le_refl _) _).trans (hb3.mono (by simp))
        clear hb3
        by_cases hl : 1 < lw
        · have hd : decide ((1 : Int) < lw) = true := decide_eq_true hl
          have hB : bB = true := by rw [← HB.out]; exact decide_eq_true ⟨hP, hl⟩
          clear hP hl
          go_wp2
          go_meet
          exact ⟨by rw [hB], hbz⟩
        · have hd : decide ((1 : Int) < lw) = false := decide_eq_false hl
          have hB : bB = false := by rw [← HB.out]; exact decide_eq_false fun h => hl h.2
          clear hP hl
          go_wp2
          go_meet
          exact ⟨by rw [hB], hbz⟩
      · rw [decide_eq_false hP]
        rintro e x3 ⟨rfl, hb3⟩
        have hbz : Below yA.heap.size yA x3 := ((Below.refl _ yA).alloc (Nat.le_refl _) _).trans (hb3.mono (by simp))
        have hB : bB = false := by rw [← HB.out]; exact decide_eq_false fun h => hP h.1
        clear hb3 hP
        go_wp2
        go_meet
        exact ⟨by rw [hB], hbz⟩
    case rest =>
      rename World => yB0
      obtain ⟨rfl, hcb⟩ := hcut
      have hn' := Lib.hid (hn.out.below hcb)
      have hq' : Below x1.heap.size x1 yB0 := hq.trans (hcb.mono hq.size)
      clear hn hq hcb
      have hn := hn'
      have hq := hq'
      clear hn' hq'
      go_upto_if 30 with fail
      go_cut [3] (fun v wc => Rw x1 wc v (L1 ++ pa bB [lw]))
      case first =>
        cases bB with
        | false =>
          go_wp2
          go_meet
          exact ⟨by rw [pa_f, List.append_nil]; exact hn.out, hq⟩
        | true =>
          have ho1 : World.ownsRow yB0 x1.heap.size 91 1 _ L1.length (L1.map (Value.int .u32)) := hn.out
          have tA1 : L1.length + 1 ≤ 9223372036854775807 := by have := hL1; omega
          have tB1 : (L1.length + 1) * 4 ≤ 140737488355328 := by have := hL1; omega
          have tC1 : x1.heap.size ≤ yB0.heap.size := hq.size
          go_wp2_with (first
            | (at_builtin; refine wp_append1 _ rfl _ _ 128 rfl x1.heap.size 91 i0 (.int .u32 0) 4 Tryz.underlying128 hi0 hz0 hz1 hz2 rfl _ L1.length _ rfl ho1 (.int .u32 lw) rfl rfl tA1 tB1 tC1 ?_; intro v1 z1 hown1 hk1))
          go_meet
          exact ⟨Nums.snoc hown1, hq.trans hk1⟩
      case rest =>
        rename World => yB
        obtain ⟨hn', hq'⟩ := hcut
        obtain ⟨L2, hL2, HL2⟩ : ∃ L : List Int, L.length ≤ 2 ∧ L = L1 ++ pa bB [lw] := ⟨_, by have := pa_len bB [lw]; simp only [List.length_append]; simp only [List.length_cons, List.length_nil] at this; omega, rfl⟩
        rw [← HL2] at hn'
        have GL2 := Lib.hid HL2
        clear hn hq HL2
        have hn := Lib.hid hn'
        have hq := hq'
        clear hn' hq'
        go_wp2_with fail
        refine (begins_any _ _ (pcs hi lo) [100, 65435, 0, 0, 0, 0] _ (HROW.out _ (hq.alloc hq.size _)) (lit6_row yB 100 65435 0 0 0 0) (by rw [pcs_len]; decide) (by rw [pcs_len]; decide)).mono ?_
        rw [show ([100, 65435, 0, 0, 0, 0] : List Int).length = 6 from rfl]
        obtain ⟨bC, hbC⟩ : ∃ b, decide ((pcs hi lo).take 6 = [100, 65435, 0, 0, 0, 0]) = b := ⟨_, rfl⟩
        rw [hbC] at HZ ⊢
        rintro e x3 ⟨rfl, hb3⟩
        have hn' := Lib.hid (hn.out.below ((Below.refl _ yB).alloc (Nat.le_refl _) (.cells #[.int .i64 100, .int .i64 65435, .int .i64 0, .int .i64 0, .int .i64 0, .int .i64 0] 3) |>.trans (hb3.mono (by simp))))
        have hq' : Below x1.heap.size x1 x3 := (hq.alloc hq.size _).trans (hb3.mono (hq.alloc hq.size _).size)
        clear hn hq hb3 hbC
        have hn := hn'
        have hq := hq'
        clear hn' hq'
        go_upto_if 37 with fail
        go_cut [3] (fun v wc => Rw x1 wc v (L2 ++ pa bC [lw]))
        case first =>
          cases bC with
          | false =>
            go_wp2
            go_meet
            exact ⟨by rw [pa_f, List.append_nil]; exact hn.out, hq⟩
          | true =>
            have ho1 : World.ownsRow x3 x1.heap.size 91 1 _ L2.length (L2.map (Value.int .u32)) := hn.out
            have tA1 : L2.length + 1 ≤ 9223372036854775807 := by have := hL2; omega
            have tB1 : (L2.length + 1) * 4 ≤ 140737488355328 := by have := hL2; omega
            have tC1 : x1.heap.size ≤ x3.heap.size := hq.size
            go_wp2_with (first
              | (at_builtin; refine wp_append1 _ rfl _ _ 128 rfl x1.heap.size 91 i0 (.int .u32 0) 4 Tryz.underlying128 hi0 hz0 hz1 hz2 rfl _ L2.length _ rfl ho1 (.int .u32 lw) rfl rfl tA1 tB1 tC1 ?_; intro v1 z1 hown1 hk1))
            go_meet
            exact ⟨Nums.snoc hown1, hq.trans hk1⟩
        case rest =>
          rename World => yC
          obtain ⟨hn', hq'⟩ := hcut
          obtain ⟨L3, hL3, HL3⟩ : ∃ L : List Int, L.length ≤ 3 ∧ L = L2 ++ pa bC [lw] := ⟨_, by have := pa_len bC [lw]; simp only [List.length_append]; simp only [List.length_cons, List.length_nil] at this; omega, rfl⟩
          rw [← HL3] at hn'
          have GL3 := Lib.hid HL3
          clear hn hq HL3
          have hn := Lib.hid hn'
          have hq := hq'
          clear hn' hq'
          obtain ⟨bD, hbD⟩ : ∃ b, decide (hi / 281474976710656 = 8194) = b := ⟨_, rfl⟩
          rw [hbD] at HZ
          have hbD' : (hi / 281474976710656 == 8194) = bD := hbD
          have r0 : yC.cell? ⟨B, 0, none⟩ = some (.int .i64 (hi / 281474976710656)) := HK.out yC hq 0 (by decide)
          have HTD : Hid (hi / 4294967296 % 65536 * 65536 + hi / 65536 % 65536 = hi / 65536 % 4294967296) := by show _ = _; omega
          clear hbD
          go_upto_if 45 with fail
          go_cut [3] (fun v wc => Rw x1 wc v (L3 ++ pa bD [hi / 65536 % 4294967296]))
          case first =>
            cases bD with
            | false =>
              go_wp2
              go_meet
              exact ⟨by rw [pa_f, List.append_nil]; exact hn.out, hq⟩
            | true =>
              go_wp2_with fail
              refine (two_any _ (pcs hi lo) 1 (hi / 4294967296 % 65536) (hi / 65536 % 65536) _ (HROW.out _ hq) (by rw [pcs_len]; decide) (by rw [pcs_len]; decide) rfl rfl (by omega) (by omega) (by omega) (by omega)).mono ?_
              rw [HTD.out]
              rintro e x5 ⟨rfl, hb5⟩
              have hq5 : Below x1.heap.size x1 x5 := hq.trans (hb5.mono hq.size)
              have ho1 : World.ownsRow x5 x1.heap.size 91 1 _ L3.length (L3.map (Value.int .u32)) := hn.out.below hb5
              have tA1 : L3.length + 1 ≤ 9223372036854775807 := by have := hL3; omega
              have tB1 : (L3.length + 1) * 4 ≤ 140737488355328 := by have := hL3; omega
              have tC1 : x1.heap.size ≤ x5.heap.size := hq5.size
              clear hb5
              go_wp2_with (first
                | (at_builtin; refine wp_append1 _ rfl _ _ 128 rfl x1.heap.size 91 i0 (.int .u32 0) 4 Tryz.underlying128 hi0 hz0 hz1 hz2 rfl _ L3.length _ rfl ho1 (.int .u32 (hi / 65536 % 4294967296)) rfl rfl tA1 tB1 tC1 ?_; intro v1 z1 hown1 hk1))
              go_meet
              exact ⟨Nums.snoc hown1, hq5.trans hk1⟩
          case rest =>
            rename World => yD
            obtain ⟨hn', hq'⟩ := hcut
            obtain ⟨L4, hL4, HL4⟩ : ∃ L : List Int, L.length ≤ 4 ∧ L = L3 ++ pa bD [hi / 65536 % 4294967296] := ⟨_, by have := pa_len bD [hi / 65536 % 4294967296]; simp only [List.length_append]; simp only [List.length_cons, List.length_nil] at this; omega, rfl⟩
            rw [← HL4] at hn'
            have GL4 := Lib.hid HL4
            clear hn hq HL4
            have hn := Lib.hid hn'
            have hq := hq'
            clear hn' hq'
            clear hbD' r0
            obtain ⟨bE, hbE⟩ : ∃ b, decide (hi / 281474976710656 = 8193 ∧ hi / 4294967296 % 65536 = 0) = b := ⟨_, rfl⟩
            rw [hbE] at HZ
            have HE := Lib.hid hbE
            have r0 : yD.cell? ⟨B, 0, none⟩ = some (.int .i64 (hi / 281474976710656)) := HK.out yD hq 0 (by decide)
            have r1 : yD.cell? ⟨B, 1, none⟩ = some (.int .i64 (hi / 4294967296 % 65536)) := HK.out yD hq 1 (by decide)
            have HTE : Hid (hi / 65536 % 65536 * 65536 + hi % 65536 = hi % 4294967296) := by show _ = _; omega
            clear hbE
            go_upto_region 14 with fail
            go_cut [60] (fun v wc => v = .bool bE ∧ Below yD.heap.size yD wc)
            case first =>
              by_cases hP : hi / 281474976710656 = 8193
              · have d1 : (hi / 281474976710656 == 8193) = true := by rw [beq_iff_eq]; exact hP
                by_cases hQ : hi / 4294967296 % 65536 = 0
                · have d2 : (hi / 4294967296 % 65536 == 0) = true := by rw [beq_iff_eq]; exact hQ
                  have hB : bE = true := by rw [← HE.out]; exact decide_eq_true ⟨hP, hQ⟩
                  clear hP hQ
                  go_wp2
                  go_meet
                  exact ⟨by rw [hB], Below.refl _ _⟩
                · have d2 : (hi / 4294967296 % 65536 == 0) = false := by rw [beq_eq_false_iff_ne]; exact hQ
                  have hB : bE = false := by rw [← HE.out]; exact decide_eq_false fun h => hQ h.2
                  clear hP hQ
                  go_wp2
                  go_meet
                  exact ⟨by rw [hB], Below.refl _ _⟩
              · have d1 : (hi / 281474976710656 == 8193) = false := by rw [beq_eq_false_iff_ne]; exact hP
                have hB : bE = false := by rw [← HE.out]; exact decide_eq_false fun h => hP h.1
                clear hP
                go_wp2
                go_meet
                exact ⟨by rw [hB], Below.refl _ _⟩
            case rest =>
              rename World => yE0
              obtain ⟨rfl, hcb⟩ := hcut
              have hn' := Lib.hid (hn.out.below hcb)
              have hq' : Below x1.heap.size x1 yE0 := hq.trans (hcb.mono hq.size)
              clear hn hq hcb r0 r1
              have hn := hn'
              have hq := hq'
              clear hn' hq'
              go_upto_if 60 with fail
              go_cut [3] (fun v wc => Rw x1 wc v (L4 ++ pa bE [hi % 4294967296, 4294967295 - lw]))
              case first =>
                cases bE with
                | false =>
                  go_wp2
                  go_meet
                  exact ⟨by rw [pa_f, List.append_nil]; exact hn.out, hq⟩
                | true =>
                  go_wp2_with fail
                  refine (two_any _ (pcs hi lo) 2 (hi / 65536 % 65536) (hi % 65536) _ (HROW.out _ hq) (by rw [pcs_len]; decide) (by rw [pcs_len]; decide) rfl rfl (by omega) (by omega) (by omega) (by omega)).mono ?_
                  rw [HTE.out]
                  rintro e x5 ⟨rfl, hb5⟩
                  have hq5 : Below x1.heap.size x1 x5 := hq.trans (hb5.mono hq.size)
                  have ho1 : World.ownsRow x5 x1.heap.size 91 1 _ L4.length (L4.map (Value.int .u32)) := hn.out.below hb5
                  have tA1 : L4.length + 1 ≤ 9223372036854775807 := by have := hL4; omega
                  have tB1 : (L4.length + 1) * 4 ≤ 140737488355328 := by have := hL4; omega
                  have tC1 : x1.heap.size ≤ x5.heap.size := hq5.size
                  have tA2 : L4.length + 1 + 1 ≤ 9223372036854775807 := by have := hL4; omega
                  have tB2 : (L4.length + 1 + 1) * 4 ≤ 140737488355328 := by have := hL4; omega
                  clear hb5
                  go_wp2_with (first
                    | (at_builtin; refine wp_append1 _ rfl _ _ 128 rfl x1.heap.size 91 i0 (.int .u32 0) 4 Tryz.underlying128 hi0 hz0 hz1 hz2 rfl _ L4.length _ rfl ho1 (.int .u32 (hi % 4294967296)) rfl rfl tA1 tB1 tC1 ?_; intro v1 z1 hown1 hk1)
                    | (at_builtin; refine wp_append1 _ rfl _ _ 128 rfl x1.heap.size 91 i0 (.int .u32 0) 4 Tryz.underlying128 hi0 hz0 hz1 hz2 rfl _ (L4.length + 1) _ rfl hown1 (.int .u32 (4294967295 - lw)) rfl rfl tA2 tB2 (hq5.trans hk1).size ?_; intro v2 z2 hown2 hk2))
                  go_meet
                  exact ⟨by have := Nums.snoc (l := L4 ++ [(hi % 4294967296)]) (x := (4294967295 - lw)) (k := .u32) (by simpa using hown2); simpa [pa] using this, (hq5.trans hk1).trans hk2⟩
              case rest =>
                rename World => yE
                obtain ⟨hn', hq'⟩ := hcut
                obtain ⟨L5, hL5, HL5⟩ : ∃ L : List Int, L.length ≤ 6 ∧ L = L4 ++ pa bE [hi % 4294967296, 4294967295 - lw] := ⟨_, by have := pa_len bE [hi % 4294967296, 4294967295 - lw]; simp only [List.length_append]; simp only [List.length_cons, List.length_nil] at this; omega, rfl⟩
                rw [← HL5] at hn'
                have GL5 := Lib.hid HL5
                clear hn hq HL5
                have hn := Lib.hid hn'
                have hq := hq'
                clear hn' hq'
                obtain ⟨bF, hbF⟩ : ∃ b, decide ((lo / 281474976710656 = 0 ∨ lo / 281474976710656 = 512) ∧ lo / 4294967296 % 65536 = 24318) = b := ⟨_, rfl⟩
                rw [hbF] at HZ
                have HF := Lib.hid hbF
                have r4 : yE.cell? ⟨B, 4, none⟩ = some (.int .i64 (lo / 281474976710656)) := HK.out yE hq 4 (by decide)
                have r5 : yE.cell? ⟨B, 5, none⟩ = some (.int .i64 (lo / 4294967296 % 65536)) := HK.out yE hq 5 (by decide)
                clear hbF
                go_upto_region 17 with fail
                go_cut [86] (fun v wc => v = .bool bF ∧ Below yE.heap.size yE wc)
                case first =>
                  by_cases ha : lo / 281474976710656 = 0
                  · have d1 : (lo / 281474976710656 == 0) = true := by rw [beq_iff_eq]; exact ha
                    by_cases hc : lo / 4294967296 % 65536 = 24318
                    · have d3 : (lo / 4294967296 % 65536 == 24318) = true := by rw [beq_iff_eq]; exact hc
                      have hB : bF = true := by rw [← HF.out]; exact decide_eq_true ⟨.inl ha, hc⟩
                      clear ha hc
                      go_wp2
                      go_meet
                      exact ⟨by rw [hB], Below.refl _ _⟩
                    · have d3 : (lo / 4294967296 % 65536 == 24318) = false := by rw [beq_eq_false_iff_ne]; exact hc
                      have hB : bF = false := by rw [← HF.out]; exact decide_eq_false fun h => hc h.2
                      clear ha hc
                      go_wp2
                      go_meet
                      exact ⟨by rw [hB], Below.refl _ _⟩
                  · have d1 : (lo / 281474976710656 == 0) = false := by rw [beq_eq_false_iff_ne]; exact ha
                    by_cases hb : lo / 281474976710656 = 512
                    · have d2 : (lo / 281474976710656 == 512) = true := by rw [beq_iff_eq]; exact hb
                      by_cases hc : lo / 4294967296 % 65536 = 24318
                      · have d3 : (lo / 4294967296 % 65536 == 24318) = true := by rw [beq_iff_eq]; exact hc
                        have hB : bF = true := by rw [← HF.out]; exact decide_eq_true ⟨.inr hb, hc⟩
                        clear ha hb hc
                        go_wp2
                        go_meet
                        exact ⟨by rw [hB], Below.refl _ _⟩
                      · have d3 : (lo / 4294967296 % 65536 == 24318) = false := by rw [beq_eq_false_iff_ne]; exact hc
                        have hB : bF = false := by rw [← HF.out]; exact decide_eq_false fun h => hc h.2
                        clear ha hb hc
                        go_wp2
                        go_meet
                        exact ⟨by rw [hB], Below.refl _ _⟩
                    · have d2 : (lo / 281474976710656 == 512) = false := by rw [beq_eq_false_iff_ne]; exact hb
                      have hB : bF = false := by rw [← HF.out]; exact decide_eq_false fun h => h.1.elim ha hb
                      clear ha hb
                      go_wp2
                      go_meet
                      exact ⟨by rw [hB], Below.refl _ _⟩
                case rest =>
                  rename World => yF0
                  obtain ⟨rfl, hcb⟩ := hcut
                  have hn' := Lib.hid (hn.out.below hcb)
                  have hq' : Below x1.heap.size x1 yF0 := hq.trans (hcb.mono hq.size)
                  clear hn hq hcb r4 r5
                  have hn := hn'
                  have hq := hq'
                  clear hn' hq'
                  go_upto_if 86 with fail
                  go_cut [3] (fun v wc => Rw x1 wc v (L5 ++ pa bF [lw]))
                  case first =>
                    cases bF with
                    | false =>
                      go_wp2
                      go_meet
                      exact ⟨by rw [pa_f, List.append_nil]; exact hn.out, hq⟩
                    | true =>
                      have ho1 : World.ownsRow yF0 x1.heap.size 91 1 _ L5.length (L5.map (Value.int .u32)) := hn.out
                      have tA1 : L5.length + 1 ≤ 9223372036854775807 := by have := hL5; omega
                      have tB1 : (L5.length + 1) * 4 ≤ 140737488355328 := by have := hL5; omega
                      have tC1 : x1.heap.size ≤ yF0.heap.size := hq.size
                      go_wp2_with (first
                        | (at_builtin; refine wp_append1 _ rfl _ _ 128 rfl x1.heap.size 91 i0 (.int .u32 0) 4 Tryz.underlying128 hi0 hz0 hz1 hz2 rfl _ L5.length _ rfl ho1 (.int .u32 lw) rfl rfl tA1 tB1 tC1 ?_; intro v1 z1 hown1 hk1))
                      go_meet
                      exact ⟨Nums.snoc hown1, hq.trans hk1⟩
                  case rest =>
                    rename World => yF
                    obtain ⟨hn', hq'⟩ := hcut
                    obtain ⟨L6, hL6, HL6⟩ : ∃ L : List Int, L.length ≤ 7 ∧ L = L5 ++ pa bF [lw] := ⟨_, by have := pa_len bF [lw]; simp only [List.length_append]; simp only [List.length_cons, List.length_nil] at this; omega, rfl⟩
                    rw [← HL6] at hn'
                    have GL6 := Lib.hid HL6
                    clear hn hq HL6
                    have hn := Lib.hid hn'
                    have hq := hq'
                    clear hn' hq'
                    go_wp2
                    go_ret
                    refine ⟨_, rfl, ?_, HC1.out.trans (hq.mono HC1.out.size)⟩
                    have hlist : innerZ hi lo = L6 := by rw [HZ.out, GL6.out, GL5.out, GL4.out, GL3.out, GL2.out, GL1.out, GL0.out, List.nil_append]
                    rw [hlist]
                    exact hn.out.mono HC1.out.size
end

section
open Go.RowKit


theorem make_ok (is : Bool) (hi lo : Int) (h0 : 0 ≤ hi) (h1 : hi ≤ 18446744073709551615) (l0 : 0 ≤ lo) (l1 : lo ≤ 18446744073709551615) : (AZ.make is hi lo).Ok := by
  cases is with
  | true => exact ⟨⟨h0, h1⟩, l0, l1⟩
  | false => exact ⟨by omega, by omega⟩
def eqB : AZ → AZ → Bool
  | .four m, .four n => m == n
  | .six h l, .six h' l' => h == h' && l == l'
  | _, _ => false
theorem eqB_iff (x y : AZ) : eqB x y = true ↔ x = y := by
  cases x <;> cases y <;> simp [eqB]
theorem eqB_cmp (x y : AZ) : (cmpZ x y = -1 ∨ cmpZ x y = 1) ∧ eqB x y = false ∨ cmpZ x y = 0 ∧ eqB x y = true := by
  have h1 := cmpZ_in x y
  by_cases h : x = y
  · exact .inr ⟨(cmpZ_zero x y).2 h, (eqB_iff x y).2 h⟩
  · have h2 : cmpZ x y ≠ 0 := fun e => h ((cmpZ_zero x y).1 e)
    have h3 : eqB x y = false := by
      cases e : eqB x y with
      | false => rfl
      | true => exact absurd ((eqB_iff x y).1 e) h
    exact .inl ⟨by omega, h3⟩
theorem eqGuard_eq (x y : AZ) : ∀ (p q : Operand) (W : World), (eqGuard .eql 25 p q x.val y.val).run Tryz.prog W = .ok () W := by
  intro p q W
  cases x <;> cases y <;> rfl
theorem eq44 (m n : Int) (W : World) : (Op.equal 25 (.iface 92 (.int .u32 m)) (.iface 92 (.int .u32 n))).run Tryz.prog W = .ok (m == n) W := by kernel_rfl
theorem eq46 (n : Int) (v : Value) (W : World) : (Op.equal 25 (.iface 92 (.int .u32 n)) (.iface 96 v)).run Tryz.prog W = .ok false W := by kernel_rfl
theorem eq64 (n : Int) (v : Value) (W : World) : (Op.equal 25 (.iface 96 v) (.iface 92 (.int .u32 n))).run Tryz.prog W = .ok false W := by kernel_rfl
theorem eq66' (u v : Value) (W : World) : (Op.equal 25 (.iface 96 u) (.iface 96 v)).run Tryz.prog W = (Op.equalIn 9999 96 u v).run Tryz.prog W := by kernel_rfl
theorem eq66 (h l h' l' : Int) (W : World) : (Op.equal 25 (.iface 96 (.agg #[.int .u64 h, .int .u64 l])) (.iface 96 (.agg #[.int .u64 h', .int .u64 l']))).run Tryz.prog W = .ok (h == h' && l == l') W := by
  rw [eq66', run_equalIn_struct W 9998 96 _ _ (by kernel_rfl) (by kernel_rfl)]
  simp [Program.fieldsOf, Tryz.underlying96, Op.eqFields, go_sem, part, Tryz.sizeOf22, Tryz.isAgg22, Tryz.underlying22]
  by_cases e1 : h = h' <;> by_cases e2 : l = l' <;> simp [e1, e2]
theorem binOp_eq (x y : AZ) : ∀ W : World, (binOp .eql 25 x.val y.val).run Tryz.prog W = .ok (.bool (eqB x y)) W := by
  intro W
  cases x with
  | four m =>
    cases y with
    | four n =>
      show ((Op.equal _ _ _ >>= fun b => pure (Value.bool b)) : Sem Value).run _ _ = _
      rw [Sem.run_bind, AZ.val, AZ.val, eq44]; rfl
    | six h l =>
      show ((Op.equal _ _ _ >>= fun b => pure (Value.bool b)) : Sem Value).run _ _ = _
      rw [Sem.run_bind, AZ.val, AZ.val, eq46]; rfl
  | six h l =>
    cases y with
    | four n =>
      show ((Op.equal _ _ _ >>= fun b => pure (Value.bool b)) : Sem Value).run _ _ = _
      rw [Sem.run_bind, AZ.val, AZ.val, eq64]; rfl
    | six h' l' =>
      show ((Op.equal _ _ _ >>= fun b => pure (Value.bool b)) : Sem Value).run _ _ = _
      rw [Sem.run_bind, AZ.val, AZ.val, eq66]; rfl
end

section
open Go.RowKit


def innerA : AZ → List Int
  | .four _ => []
  | .six hi lo => innerZ hi lo
set_option maxRecDepth 100000 in
set_option maxHeartbeats 1000000 in
theorem refInner_four (hi lo : Int) (w : World) :
    Calls Tryz.prog 64 #[.agg #[.bool false, .int .u64 hi, .int .u64 lo]] w (RetU32s w []) := by
  go_enter Tryz.func64, Tryz.ntmps64
  go_wp2
  go_ret
  exact ⟨_, rfl, Nums.nil _ _ _ _, (Below.refl _ _).alloc (Nat.le_refl _) _⟩
theorem refInner_any (a : AZ) (w : World) (h : a.Ok) :
    Calls Tryz.prog 64 #[refV (refA (some a))] w (RetU32s w (innerA a)) := by
  cases a with
  | four n => exact refInner_four _ _ w
  | six hi lo => exact refInner_six hi lo w h.1.1 h.1.2 h.2.1 h.2.2
theorem inner_any (a : AZ) (w : World) (h : a.Ok) :
    Calls Tryz.prog 44 #[a.val] w (RetFours w (innerA a)) := by
  cases a with
  | four n => exact inner_four n w
  | six hi lo => exact inner_six hi lo w h.1.1 h.1.2 h.2.1 h.2.2


def rowT (a b : List UInt8) : Nat → Array Value
  | 0 => #[.string ⟨#[]⟩, .string ⟨#[]⟩, .string ⟨#[]⟩]
  | 1 => #[.string ⟨a.toArray⟩, .string ⟨#[]⟩, .string ⟨#[]⟩]
  | 2 => #[.string ⟨a.toArray⟩, .string ⟨#[]⟩, .string ⟨#[]⟩]
  | _ => #[.string ⟨a.toArray⟩, .string ⟨#[]⟩, .string ⟨b.toArray⟩]
def RetTexts (w : World) (a b : List UInt8) (e : Ending) (w' : World) : Prop := ∃ g, e = .returned (.slice (some ⟨g, 0, none⟩) 3 3) ∧ w.heap.size ≤ g ∧ w'.heap[g]? = some (.cells #[.string ⟨a.toArray⟩, .string ⟨#[]⟩, .string ⟨b.toArray⟩] 9 (0, 0)) ∧ Below w.heap.size w w'

theorem parts3 {W : World} {g : Nat} (a b : List UInt8) (h : W.heap[g]? = some (.cells #[.string ⟨a.toArray⟩, .string ⟨#[]⟩, .string ⟨b.toArray⟩] 9 (0, 0))) : Parts g W (.slice (some ⟨g, 0, none⟩) 3 3) [a, [], b] :=
  ⟨rfl, .inr ⟨g, 3, _, rfl, Nat.le_refl _, h, Nat.le_refl _, by decide, rfl, rfl⟩⟩

/-- what is written is read again -/
theorem joinH_mem (l : List Int) (c : UInt8) (h : c ∈ joinH l) : c ≠ 46 := by
  induction l with
  | nil => simp [joinH, Lib.join] at h
  | cons x r ih =>
    cases r with
    | nil =>
      rw [show joinH [x] = hexI x from by simp [joinH, Lib.join]] at h
      intro e
      exact ((hexD_facts x.toNat).2.2.2 c h).2 (by rw [e]; rfl)
    | cons y r =>
      rw [show joinH (x :: y :: r) = hexI x ++ [58] ++ joinH (y :: r) from join_cons _ _ _ _] at h
      rcases List.mem_append.1 h with h | h
      · rcases List.mem_append.1 h with h | h
        · intro e
          exact ((hexD_facts x.toNat).2.2.2 c h).2 (by rw [e]; rfl)
        · simp at h; subst h; decide
      · exact ih h
theorem text6_point (hi lo : Int) (c : UInt8) (h : c ∈ text6Z hi lo) : c ≠ 46 := by
  unfold text6Z textP at h
  split at h
  · exact joinH_mem _ c h
  · rcases List.mem_append.1 h with h | h
    · rcases List.mem_append.1 h with h | h
      · exact joinH_mem _ c h
      · simp at h; subst h; decide
    · exact joinH_mem _ c h
theorem addrZ_text (a : AZ) (h : a.Ok) : addrZ (textA a) = some a := by
  cases a with
  | four n =>
    unfold addrZ textA
    rw [strict_txtZ n h.1 h.2]
    rfl
  | six hi lo =>
    have hn : (strictZ (text6Z hi lo)).2 = false := by
      rw [strictZ_no]
      rw [dotted_one _ (fun c hc => has_no (fun e => text6_point hi lo c hc (UInt8.toNat_inj.1 e)))]
      simp
    unfold addrZ textA
    simp only
    rw [hn, six_text h.1.1 h.1.2 h.2.1 h.2.2]
    rfl
theorem textA_len (a : AZ) (h : a.Ok) : (textA a).length ≤ 1073741824 := by
  cases a with
  | four n => exact Nat.le_trans (txtZ_len n) (by decide)
  | six hi lo => exact Nat.le_trans (text6_len h.1.1 h.1.2 h.2.1 h.2.2) (by decide)
theorem inner_len (hi lo : Int) : (innerZ hi lo).length ≤ 12 := by
  have hA : (inA hi (lo / 4294967296) (lo % 4294967296)).length ≤ 2 := by unfold inA; split <;> simp
  have hB : (inCo hi (lo / 4294967296) (lo % 4294967296)).length ≤ 2 := by unfold inCo; split <;> simp
  have hC : (inC hi (lo / 4294967296) (lo % 4294967296)).length ≤ 2 := by unfold inC; split <;> simp
  have hD : (inD hi).length ≤ 2 := by unfold inD; split <;> simp
  have hE : (inE hi (lo % 4294967296)).length ≤ 2 := by unfold inE; split <;> simp
  have hF : (inF (lo / 4294967296) (lo % 4294967296)).length ≤ 2 := by unfold inF; split <;> simp
  unfold innerZ
  simp only [List.length_append]
  omega
theorem innerA_len (a : AZ) : (innerA a).length ≤ 12 := by
  cases a with
  | four n => exact Nat.zero_le _
  | six hi lo => exact inner_len hi lo
theorem neq_same (x : AZ) : ∀ W : World, (binOp .neq 25 x.val x.val).run Tryz.prog W = .ok (.bool false) W := by
  intro W
  have h := binOp_eq x x W
  rw [(eqB_iff x x).2 rfl] at h
  have e1 : ∀ (a b : Value), (binOp .eql 25 x.val x.val) = (Op.equal 25 x.val x.val >>= fun b => pure (Value.bool b)) := fun _ _ => by cases x <;> rfl
  have e2 : (binOp .neq 25 x.val x.val) = (Op.equal 25 x.val x.val >>= fun b => pure (Value.bool (!b))) := by cases x <;> rfl
  rw [e1 .nilIface .nilIface, Sem.run_bind] at h
  rw [e2, Sem.run_bind]
  cases hr : (Op.equal 25 x.val x.val).run Tryz.prog W with
  | ok b w' =>
    rw [hr] at h
    cases b
    · cases h
    · cases h; rfl
  | halt k w' => rw [hr] at h; cases h
theorem neqGuard_same (x : AZ) : ∀ (p q : Operand) (W : World), (eqGuard .neq 25 p q x.val x.val).run Tryz.prog W = .ok () W := by
  intro p q W
  cases x <;> rfl
end

end Go.Proofs.YtoobiaifogackaaGreatDoor
