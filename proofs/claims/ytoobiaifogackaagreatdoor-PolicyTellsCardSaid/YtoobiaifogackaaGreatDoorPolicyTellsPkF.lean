/-
  What the law PolicyTells leans on, and its walk (6 of 16).
-/
import Derived.Deep.DeepCutAuto
import Derived.Defers
import Derived.Recover
import Derived.Deep.OwnRows
import Derived.Test.YtoobiaifogackaaGreatDoorPolicyTellsPkE
import Derived.Test.YtoobiaifogackaaGreatDoorPolicyTellsPkD
import Derived.Test.YtoobiaifogackaaGreatDoorPolicyTellsPkA
namespace Go.Proofs.YtoobiaifogackaaGreatDoor
section
section
open Go.RowKit
/-- an address of either sort -/
inductive AZ where
  | four (n : Int)
  | six (hi lo : Int)
def AZ.val : AZ → Value
  | .four n => .iface 92 (.int .u32 n)
  | .six hi lo => .iface 96 (.agg #[.int .u64 hi, .int .u64 lo])
def AZ.Ok : AZ → Prop
  | .four n => 0 ≤ n ∧ n ≤ 4294967295
  | .six hi lo => (0 ≤ hi ∧ hi ≤ 18446744073709551615) ∧ (0 ≤ lo ∧ lo ≤ 18446744073709551615)
def AZ.make (is : Bool) (hi lo : Int) : AZ := if is then .six hi lo else .four (lo % 4294967296)
theorem as44 (v : Value) (w : World) : (Instr.typeAssert (.iface 92 v) 25 92 true).run Tryz.prog w = .ok (.tuple #[v, .bool true]) w := by kernel_rfl
theorem as64 (v : Value) (w : World) : (Instr.typeAssert (.iface 96 v) 25 92 true).run Tryz.prog w = .ok (.tuple #[.int .u32 0, .bool false]) w := by kernel_rfl
theorem asN4 (w : World) : (Instr.typeAssert .nilIface 25 92 true).run Tryz.prog w = .ok (.tuple #[.int .u32 0, .bool false]) w := by kernel_rfl
theorem as46 (v : Value) (w : World) : (Instr.typeAssert (.iface 92 v) 25 96 true).run Tryz.prog w = .ok (.tuple #[.agg #[.int .u64 0, .int .u64 0], .bool false]) w := by kernel_rfl
theorem as66 (v : Value) (w : World) : (Instr.typeAssert (.iface 96 v) 25 96 true).run Tryz.prog w = .ok (.tuple #[v, .bool true]) w := by kernel_rfl
theorem asN6 (w : World) : (Instr.typeAssert .nilIface 25 96 true).run Tryz.prog w = .ok (.tuple #[.agg #[.int .u64 0, .int .u64 0], .bool false]) w := by kernel_rfl
theorem u32_wrap (x : Int) : IntKind.u32.wrap x = x % 4294967296 := by rw [IntKind.wrap_u32]
set_option maxHeartbeats 1000000 in
theorem make6_any (is : Bool) (hi lo : Int) (w : World) :
    Calls Tryz.prog 12 #[.bool is, .int .u64 hi, .int .u64 lo] w fun e w' => e = .returned (AZ.make is hi lo).val ∧ w = w' := by
  cases is with
  | true =>
    go_enter Tryz.func12, Tryz.ntmps12
    go_wp2
    go_ret
    exact ⟨rfl, rfl⟩
  | false =>
    have hw := u32_wrap lo
    go_enter Tryz.func12, Tryz.ntmps12
    go_wp2
    go_ret
    exact ⟨rfl, rfl⟩
set_option maxRecDepth 100000 in
set_option maxHeartbeats 1000000 in
theorem fourA_four (n : Int) (w : World) :
    Calls Tryz.prog 112 #[.iface 92 (.int .u32 n)] w fun e w' => e = .returned (.tuple #[.int .u32 n, .bool true]) ∧ w = w' := by
  have hta := as44
  go_enter Tryz.func112, Tryz.ntmps112
  go_wp2
  go_ret2
  exact ⟨rfl, rfl⟩
set_option maxRecDepth 100000 in
set_option maxHeartbeats 1000000 in
theorem fourA_six (hi lo : Int) (w : World) :
    Calls Tryz.prog 112 #[.iface 96 (.agg #[.int .u64 hi, .int .u64 lo])] w fun e w' => e = .returned (.tuple #[.int .u32 0, .bool false]) ∧ w = w' := by
  have hta := as64
  go_enter Tryz.func112, Tryz.ntmps112
  go_wp2
  go_ret2
  exact ⟨rfl, rfl⟩
/-- what a text is -/
def addrZ (l : List UInt8) : Option AZ :=
  if (strictZ l).2 = true then some (.four (strictZ l).1) else if (sixZ l).2 = true then some (.six (sixZ l).1.1 (sixZ l).1.2) else none
def optV : Option AZ → Value
  | none => .nilIface
  | some a => a.val
theorem sixZ_ok (l : List UInt8) : (0 ≤ (sixZ l).1.1 ∧ (sixZ l).1.1 ≤ 18446744073709551615) ∧ (0 ≤ (sixZ l).1.2 ∧ (sixZ l).1.2 ≤ 18446744073709551615) := ⟨hi4_bounds (sixL_in l), lo4_bounds (sixL_in l)⟩
theorem addrZ_ok {l : List UInt8} {a : AZ} (h : addrZ l = some a) : a.Ok := by
  unfold addrZ at h
  split at h
  · cases h; exact strictZ_bounds l
  · split at h
    · cases h; exact sixZ_ok l
    · cases h
def RetAddrV (w : World) (x : Option AZ) (e : Ending) (w' : World) : Prop := e = .returned (.tuple #[optV x, .bool x.isSome]) ∧ Below w.heap.size w w'
set_option maxRecDepth 100000 in
set_option maxHeartbeats 1000000 in
theorem addrParse_any (s : ByteArray) (w : World) (hs : s.size ≤ 1073741824) (hmax : MaxVar w) :
    Calls Tryz.prog 107 #[.string s] w (RetAddrV w (addrZ s.data.toList)) := by
  have HX := Lib.hid hmax
  clear hmax
  obtain ⟨y, b4, hy⟩ : ∃ x b, strictZ s.data.toList = (x, b) := ⟨_, _, rfl⟩
  have HY := Lib.hid hy
  obtain ⟨h, l, b6, hz⟩ : ∃ h l b, sixZ s.data.toList = ((h, l), b) := ⟨_, _, _, rfl⟩
  have HZ := Lib.hid hz
  have HA : Hid (addrZ s.data.toList = if b4 = true then some (.four y) else if b6 = true then some (.six h l) else none) := by
    show addrZ s.data.toList = _
    unfold addrZ; rw [hy, hz]
  clear hy hz
  cases b4 with
  | true =>
    go_enter Tryz.func107, Tryz.ntmps107
    go_wp2_with fail
    refine (strict_any s _ hs).mono ?_
    rw [HY.out]
    rintro e w1 ⟨rfl, hb1⟩
    go_wp2
    go_ret2
    exact ⟨by rw [HA.out]; rfl, hb1⟩
  | false =>
    go_enter Tryz.func107, Tryz.ntmps107
    go_wp2_with fail
    refine (strict_any s _ hs).mono ?_
    rw [HY.out]
    rintro e w1 ⟨rfl, hb1⟩
    go_wp2_with fail
    refine (parse6_any s _ hs (maxVar_below HX.out hb1)).mono ?_
    rw [HZ.out]
    rintro e w2 ⟨rfl, hb2⟩
    have hc2 : Below w.heap.size w w2 := hb1.trans (hb2.mono hb1.size)
    cases b6 with
    | true =>
      go_wp2
      go_ret2
      exact ⟨by rw [HA.out]; rfl, hc2.alloc hc2.size _⟩
    | false =>
      go_wp2
      go_ret2
      exact ⟨by rw [HA.out]; rfl, hc2.alloc hc2.size _⟩
end
section
open Go.RowKit
def inA (hi th lw : Int) : List Int := if hi = 0 ∧ th = 65535 then [lw] else []
def inCo (hi th lw : Int) : List Int := if hi = 0 ∧ th = 0 ∧ 1 < lw then [lw] else []
def inC (hi th lw : Int) : List Int := if hi = 28428538856079360 ∧ th = 0 then [lw] else []
def inD (hi : Int) : List Int := if hi / 281474976710656 = 8194 then [hi / 65536 % 4294967296] else []
def inE (hi lw : Int) : List Int := if hi / 4294967296 = 536936448 then [hi % 4294967296, 4294967295 - lw] else []
def inF (th lw : Int) : List Int := if th = 24318 ∨ th = 33578750 then [lw] else []
def innerZ (hi lo : Int) : List Int :=
  inA hi (lo / 4294967296) (lo % 4294967296) ++ inCo hi (lo / 4294967296) (lo % 4294967296) ++ inC hi (lo / 4294967296) (lo % 4294967296) ++ inD hi ++ inE hi (lo % 4294967296) ++ inF (lo / 4294967296) (lo % 4294967296)
theorem Tryz.infoFour : (Tryz.prog.info? 92).map (fun i => (i.zero, i.size, i.bytes)) = some (some (.int .u32 0), 1, 4) := by kernel_rfl
theorem xor32 (n : Int) (h0 : 0 ≤ n) (h1 : n ≤ 4294967295) : bits .xor .u32 (if IntKind.u32.signed = true then -1 else IntKind.u32.max) n = 4294967295 - n := by
  obtain ⟨a, rfl⟩ := Int.eq_ofNat_of_zero_le h0
  have ha : a < 2 ^ 32 := by omega
  have e1 : BitVec.ofInt 32 4294967295 = BitVec.allOnes 32 := by decide
  show IntKind.u32.wrap (((BitVec.ofInt 32 4294967295) ^^^ (BitVec.ofInt 32 (a : Int))).toNat : Int) = _
  rw [e1, BitVec.allOnes_xor, BitVec.toNat_not, BitVec.ofInt_natCast, BitVec.toNat_ofNat, Nat.mod_eq_of_lt ha, IntKind.wrap_u32]
  omega
def RetFours (w : World) (l : List Int) (e : Ending) (w' : World) : Prop := ∃ v, e = .returned v ∧ Nums 92 .u32 w.heap.size w' v l ∧ Below w.heap.size w w'
set_option maxRecDepth 100000 in
set_option maxHeartbeats 1000000 in
theorem inner_four (n : Int) (w : World) :
    Calls Tryz.prog 44 #[.iface 92 (.int .u32 n)] w (RetFours w []) := by
  have hta := as46
  go_enter Tryz.func44, Tryz.ntmps44
  go_wp2
  go_ret
  exact ⟨_, rfl, Nums.nil _ _ _ _, (Below.refl _ _).alloc (Nat.le_refl _) _⟩
end
section
open Go.RowKit
set_option maxRecDepth 100000 in
set_option maxHeartbeats 2000000 in
theorem inner_zero_ffff (hi lo th lw : Int) (w : World) (hbd : (0 ≤ hi ∧ hi ≤ 18446744073709551615) ∧ (0 ≤ lo ∧ lo ≤ 18446744073709551615)) (hth : lo / 4294967296 = th) (hlw2 : lo % 4294967296 = lw) (hh : hi = 0) (hk : th = 65535) :
    Calls Tryz.prog 44 #[.iface 96 (.agg #[.int .u64 hi, .int .u64 lo])] w (RetFours w (innerZ hi lo)) := by
  obtain ⟨⟨h0, h1⟩, l0, l1⟩ := hbd
  obtain ⟨i0, hi0, hz0, hz1, hz2⟩ := info_parts Tryz.infoFour
  have hta := as66
  have hwl : IntKind.u32.wrap lo = lw := by rw [u32_wrap]; exact hlw2
  have hwd : IntKind.u32.wrap (hi / 65536) = hi / 65536 % 4294967296 := u32_wrap _
  have hwe : IntKind.u32.wrap hi = hi % 4294967296 := u32_wrap _
  have hA : inA hi th lw = [lw] := if_pos (by omega)
  have hB : inCo hi th lw = [] := if_neg (by omega)
  have hC : inC hi th lw = [] := if_neg (by omega)
  have hD : inD hi = [] := if_neg (by omega)
  have hE : inE hi lw = [] := if_neg (by omega)
  have hF : inF th lw = [] := if_neg (by omega)
  have HZ : Hid (innerZ hi lo = [lw]) := by show innerZ hi lo = _; rw [innerZ, hth, hlw2, hA, hB, hC, hD, hE, hF]; rfl
  clear hA hB hC hD hE hF
  have ht0 : 0 ≤ th := by omega
  have ht1 : th ≤ 4294967295 := by omega
  have hw0 : 0 ≤ lw := by omega
  have hw1 : lw ≤ 4294967295 := by omega
  have q1 : ((hi) == (0 : Int)) = true := by rw [beq_iff_eq]; omega
  have q2 : ((th) == (65535 : Int)) = true := by rw [beq_iff_eq]; omega
  have q3 : ((th) == (0 : Int)) = false := by rw [beq_eq_false_iff_ne]; omega
  have q5 : ((hi) == (28428538856079360 : Int)) = false := by rw [beq_eq_false_iff_ne]; omega
  have q6 : ((hi / 281474976710656) == (8194 : Int)) = false := by rw [beq_eq_false_iff_ne]; omega
  have q7 : ((hi / 4294967296) == (536936448 : Int)) = false := by rw [beq_eq_false_iff_ne]; omega
  have q8 : ((th) == (24318 : Int)) = false := by rw [beq_eq_false_iff_ne]; omega
  have q9 : ((th) == (33578750 : Int)) = false := by rw [beq_eq_false_iff_ne]; omega
  clear hlw2 hh hk
  have hc1 : Below w.heap.size w (w.alloc (.cells #[.int .u64 hi, .int .u64 lo] 96)) := (Below.refl _ w).alloc (Nat.le_refl _) _
  go_enter Tryz.func44, Tryz.ntmps44
  go_wp2_with fail
  refine (wide6_any hi lo _).mono ?_
  rintro e x1 ⟨rfl, hb1⟩
  have hc : Below w.heap.size w x1 := hc1.trans (hb1.mono hc1.size)
  have hsz := hc.size
  clear hb1 hc1 hta
  have hown0 := World.ownsRow_nil x1 w.heap.size 92 1
  go_wp2_with (first
    | (at_builtin; refine wp_append1 _ rfl _ _ 89 rfl w.heap.size 92 i0 (.int .u32 0) 4 Tryz.underlying89 hi0 hz0 hz1 hz2 rfl _ 0 _ rfl hown0 (.int .u32 lw) rfl rfl (by decide) (by decide) hsz ?_; intro v1 y1 hown1 hk1))
  go_ret
  exact ⟨_, rfl, by rw [HZ.out]; exact hown1, (hc.trans hk1)⟩
set_option maxRecDepth 100000 in
set_option maxHeartbeats 2000000 in
theorem inner_zero_zero_lw (hi lo th lw : Int) (w : World) (hbd : (0 ≤ hi ∧ hi ≤ 18446744073709551615) ∧ (0 ≤ lo ∧ lo ≤ 18446744073709551615)) (hth : lo / 4294967296 = th) (hlw2 : lo % 4294967296 = lw) (hh : hi = 0) (hk : th = 0) (hlw : 1 < lw) :
    Calls Tryz.prog 44 #[.iface 96 (.agg #[.int .u64 hi, .int .u64 lo])] w (RetFours w (innerZ hi lo)) := by
  obtain ⟨⟨h0, h1⟩, l0, l1⟩ := hbd
  obtain ⟨i0, hi0, hz0, hz1, hz2⟩ := info_parts Tryz.infoFour
  have hta := as66
  have hwl : IntKind.u32.wrap lo = lw := by rw [u32_wrap]; exact hlw2
  have hwd : IntKind.u32.wrap (hi / 65536) = hi / 65536 % 4294967296 := u32_wrap _
  have hwe : IntKind.u32.wrap hi = hi % 4294967296 := u32_wrap _
  have hA : inA hi th lw = [] := if_neg (by omega)
  have hB : inCo hi th lw = [lw] := if_pos (by omega)
  have hC : inC hi th lw = [] := if_neg (by omega)
  have hD : inD hi = [] := if_neg (by omega)
  have hE : inE hi lw = [] := if_neg (by omega)
  have hF : inF th lw = [] := if_neg (by omega)
  have HZ : Hid (innerZ hi lo = [lw]) := by show innerZ hi lo = _; rw [innerZ, hth, hlw2, hA, hB, hC, hD, hE, hF]; rfl
  clear hA hB hC hD hE hF
  have ht0 : 0 ≤ th := by omega
  have ht1 : th ≤ 4294967295 := by omega
  have hw0 : 0 ≤ lw := by omega
  have hw1 : lw ≤ 4294967295 := by omega
  have q1 : ((hi) == (0 : Int)) = true := by rw [beq_iff_eq]; omega
  have q2 : ((th) == (65535 : Int)) = false := by rw [beq_eq_false_iff_ne]; omega
  have q3 : ((th) == (0 : Int)) = true := by rw [beq_iff_eq]; omega
  have q5 : ((hi) == (28428538856079360 : Int)) = false := by rw [beq_eq_false_iff_ne]; omega
  have q6 : ((hi / 281474976710656) == (8194 : Int)) = false := by rw [beq_eq_false_iff_ne]; omega
  have q7 : ((hi / 4294967296) == (536936448 : Int)) = false := by rw [beq_eq_false_iff_ne]; omega
  have q8 : ((th) == (24318 : Int)) = false := by rw [beq_eq_false_iff_ne]; omega
  have q9 : ((th) == (33578750 : Int)) = false := by rw [beq_eq_false_iff_ne]; omega
  have q4 : decide ((1 : Int) < lw) = true := decide_eq_true (by omega)
  clear hlw2 hh hk
  have hc1 : Below w.heap.size w (w.alloc (.cells #[.int .u64 hi, .int .u64 lo] 96)) := (Below.refl _ w).alloc (Nat.le_refl _) _
  go_enter Tryz.func44, Tryz.ntmps44
  go_wp2_with fail
  refine (wide6_any hi lo _).mono ?_
  rintro e x1 ⟨rfl, hb1⟩
  have hc : Below w.heap.size w x1 := hc1.trans (hb1.mono hc1.size)
  have hsz := hc.size
  clear hb1 hc1 hta
  have hown0 := World.ownsRow_nil x1 w.heap.size 92 1
  go_wp2_with (first
    | (at_builtin; refine wp_append1 _ rfl _ _ 89 rfl w.heap.size 92 i0 (.int .u32 0) 4 Tryz.underlying89 hi0 hz0 hz1 hz2 rfl _ 0 _ rfl hown0 (.int .u32 lw) rfl rfl (by decide) (by decide) hsz ?_; intro v1 y1 hown1 hk1))
  go_ret
  exact ⟨_, rfl, by rw [HZ.out]; exact hown1, (hc.trans hk1)⟩
set_option maxRecDepth 100000 in
set_option maxHeartbeats 2000000 in
theorem inner_zero_zero (hi lo th lw : Int) (w : World) (hbd : (0 ≤ hi ∧ hi ≤ 18446744073709551615) ∧ (0 ≤ lo ∧ lo ≤ 18446744073709551615)) (hth : lo / 4294967296 = th) (hlw2 : lo % 4294967296 = lw) (hh : hi = 0) (hk : th = 0) (hlw : lw ≤ 1) :
    Calls Tryz.prog 44 #[.iface 96 (.agg #[.int .u64 hi, .int .u64 lo])] w (RetFours w (innerZ hi lo)) := by
  obtain ⟨⟨h0, h1⟩, l0, l1⟩ := hbd
  obtain ⟨i0, hi0, hz0, hz1, hz2⟩ := info_parts Tryz.infoFour
  have hta := as66
  have hwl : IntKind.u32.wrap lo = lw := by rw [u32_wrap]; exact hlw2
  have hwd : IntKind.u32.wrap (hi / 65536) = hi / 65536 % 4294967296 := u32_wrap _
  have hwe : IntKind.u32.wrap hi = hi % 4294967296 := u32_wrap _
  have hA : inA hi th lw = [] := if_neg (by omega)
  have hB : inCo hi th lw = [] := if_neg (by omega)
  have hC : inC hi th lw = [] := if_neg (by omega)
  have hD : inD hi = [] := if_neg (by omega)
  have hE : inE hi lw = [] := if_neg (by omega)
  have hF : inF th lw = [] := if_neg (by omega)
  have HZ : Hid (innerZ hi lo = []) := by show innerZ hi lo = _; rw [innerZ, hth, hlw2, hA, hB, hC, hD, hE, hF]; rfl
  clear hA hB hC hD hE hF
  have ht0 : 0 ≤ th := by omega
  have ht1 : th ≤ 4294967295 := by omega
  have hw0 : 0 ≤ lw := by omega
  have hw1 : lw ≤ 4294967295 := by omega
  have q1 : ((hi) == (0 : Int)) = true := by rw [beq_iff_eq]; omega
  have q2 : ((th) == (65535 : Int)) = false := by rw [beq_eq_false_iff_ne]; omega
  have q3 : ((th) == (0 : Int)) = true := by rw [beq_iff_eq]; omega
  have q5 : ((hi) == (28428538856079360 : Int)) = false := by rw [beq_eq_false_iff_ne]; omega
  have q6 : ((hi / 281474976710656) == (8194 : Int)) = false := by rw [beq_eq_false_iff_ne]; omega
  have q7 : ((hi / 4294967296) == (536936448 : Int)) = false := by rw [beq_eq_false_iff_ne]; omega
  have q8 : ((th) == (24318 : Int)) = false := by rw [beq_eq_false_iff_ne]; omega
  have q9 : ((th) == (33578750 : Int)) = false := by rw [beq_eq_false_iff_ne]; omega
  have q4 : decide ((1 : Int) < lw) = false := decide_eq_false (by omega)
  clear hlw2 hh hk
  have hc1 : Below w.heap.size w (w.alloc (.cells #[.int .u64 hi, .int .u64 lo] 96)) := (Below.refl _ w).alloc (Nat.le_refl _) _
  go_enter Tryz.func44, Tryz.ntmps44
  go_wp2_with fail
  refine (wide6_any hi lo _).mono ?_
  rintro e x1 ⟨rfl, hb1⟩
  have hc : Below w.heap.size w x1 := hc1.trans (hb1.mono hc1.size)
  have hsz := hc.size
  clear hb1 hc1 hta
  have hown0 := World.ownsRow_nil x1 w.heap.size 92 1
  go_wp2
  go_ret
  exact ⟨_, rfl, by rw [HZ.out]; exact Nums.nil _ _ _ _, hc⟩
set_option maxRecDepth 100000 in
set_option maxHeartbeats 2000000 in
theorem inner_zero_i1 (hi lo th lw : Int) (w : World) (hbd : (0 ≤ hi ∧ hi ≤ 18446744073709551615) ∧ (0 ≤ lo ∧ lo ≤ 18446744073709551615)) (hth : lo / 4294967296 = th) (hlw2 : lo % 4294967296 = lw) (hh : hi = 0) (hk : th = 24318) :
    Calls Tryz.prog 44 #[.iface 96 (.agg #[.int .u64 hi, .int .u64 lo])] w (RetFours w (innerZ hi lo)) := by
  obtain ⟨⟨h0, h1⟩, l0, l1⟩ := hbd
  obtain ⟨i0, hi0, hz0, hz1, hz2⟩ := info_parts Tryz.infoFour
  have hta := as66
  have hwl : IntKind.u32.wrap lo = lw := by rw [u32_wrap]; exact hlw2
  have hwd : IntKind.u32.wrap (hi / 65536) = hi / 65536 % 4294967296 := u32_wrap _
  have hwe : IntKind.u32.wrap hi = hi % 4294967296 := u32_wrap _
  have hA : inA hi th lw = [] := if_neg (by omega)
  have hB : inCo hi th lw = [] := if_neg (by omega)
  have hC : inC hi th lw = [] := if_neg (by omega)
  have hD : inD hi = [] := if_neg (by omega)
  have hE : inE hi lw = [] := if_neg (by omega)
  have hF : inF th lw = [lw] := if_pos (by omega)
  have HZ : Hid (innerZ hi lo = [lw]) := by show innerZ hi lo = _; rw [innerZ, hth, hlw2, hA, hB, hC, hD, hE, hF]; rfl
  clear hA hB hC hD hE hF
  have ht0 : 0 ≤ th := by omega
  have ht1 : th ≤ 4294967295 := by omega
  have hw0 : 0 ≤ lw := by omega
  have hw1 : lw ≤ 4294967295 := by omega
  have q1 : ((hi) == (0 : Int)) = true := by rw [beq_iff_eq]; omega
  have q2 : ((th) == (65535 : Int)) = false := by rw [beq_eq_false_iff_ne]; omega
  have q3 : ((th) == (0 : Int)) = false := by rw [beq_eq_false_iff_ne]; omega
  have q5 : ((hi) == (28428538856079360 : Int)) = false := by rw [beq_eq_false_iff_ne]; omega
  have q6 : ((hi / 281474976710656) == (8194 : Int)) = false := by rw [beq_eq_false_iff_ne]; omega
  have q7 : ((hi / 4294967296) == (536936448 : Int)) = false := by rw [beq_eq_false_iff_ne]; omega
  have q8 : ((th) == (24318 : Int)) = true := by rw [beq_iff_eq]; omega
  have q9 : ((th) == (33578750 : Int)) = false := by rw [beq_eq_false_iff_ne]; omega
  clear hlw2 hh hk
  have hc1 : Below w.heap.size w (w.alloc (.cells #[.int .u64 hi, .int .u64 lo] 96)) := (Below.refl _ w).alloc (Nat.le_refl _) _
  go_enter Tryz.func44, Tryz.ntmps44
  go_wp2_with fail
  refine (wide6_any hi lo _).mono ?_
  rintro e x1 ⟨rfl, hb1⟩
  have hc : Below w.heap.size w x1 := hc1.trans (hb1.mono hc1.size)
  have hsz := hc.size
  clear hb1 hc1 hta
  have hown0 := World.ownsRow_nil x1 w.heap.size 92 1
  go_wp2_with (first
    | (at_builtin; refine wp_append1 _ rfl _ _ 89 rfl w.heap.size 92 i0 (.int .u32 0) 4 Tryz.underlying89 hi0 hz0 hz1 hz2 rfl _ 0 _ rfl hown0 (.int .u32 lw) rfl rfl (by decide) (by decide) hsz ?_; intro v1 y1 hown1 hk1))
  go_ret
  exact ⟨_, rfl, by rw [HZ.out]; exact hown1, (hc.trans hk1)⟩
set_option maxRecDepth 100000 in
set_option maxHeartbeats 2000000 in
theorem inner_zero_i2 (hi lo th lw : Int) (w : World) (hbd : (0 ≤ hi ∧ hi ≤ 18446744073709551615) ∧ (0 ≤ lo ∧ lo ≤ 18446744073709551615)) (hth : lo / 4294967296 = th) (hlw2 : lo % 4294967296 = lw) (hh : hi = 0) (hk : th = 33578750) :
    Calls Tryz.prog 44 #[.iface 96 (.agg #[.int .u64 hi, .int .u64 lo])] w (RetFours w (innerZ hi lo)) := by
  obtain ⟨⟨h0, h1⟩, l0, l1⟩ := hbd
  obtain ⟨i0, hi0, hz0, hz1, hz2⟩ := info_parts Tryz.infoFour
  have hta := as66
  have hwl : IntKind.u32.wrap lo = lw := by rw [u32_wrap]; exact hlw2
  have hwd : IntKind.u32.wrap (hi / 65536) = hi / 65536 % 4294967296 := u32_wrap _
  have hwe : IntKind.u32.wrap hi = hi % 4294967296 := u32_wrap _
  have hA : inA hi th lw = [] := if_neg (by omega)
  have hB : inCo hi th lw = [] := if_neg (by omega)
  have hC : inC hi th lw = [] := if_neg (by omega)
  have hD : inD hi = [] := if_neg (by omega)
  have hE : inE hi lw = [] := if_neg (by omega)
  have hF : inF th lw = [lw] := if_pos (by omega)
  have HZ : Hid (innerZ hi lo = [lw]) := by show innerZ hi lo = _; rw [innerZ, hth, hlw2, hA, hB, hC, hD, hE, hF]; rfl
  clear hA hB hC hD hE hF
  have ht0 : 0 ≤ th := by omega
  have ht1 : th ≤ 4294967295 := by omega
  have hw0 : 0 ≤ lw := by omega
  have hw1 : lw ≤ 4294967295 := by omega
  have q1 : ((hi) == (0 : Int)) = true := by rw [beq_iff_eq]; omega
  have q2 : ((th) == (65535 : Int)) = false := by rw [beq_eq_false_iff_ne]; omega
  have q3 : ((th) == (0 : Int)) = false := by rw [beq_eq_false_iff_ne]; omega
  have q5 : ((hi) == (28428538856079360 : Int)) = false := by rw [beq_eq_false_iff_ne]; omega
  have q6 : ((hi / 281474976710656) == (8194 : Int)) = false := by rw [beq_eq_false_iff_ne]; omega
  have q7 : ((hi / 4294967296) == (536936448 : Int)) = false := by rw [beq_eq_false_iff_ne]; omega
  have q8 : ((th) == (24318 : Int)) = false := by rw [beq_eq_false_iff_ne]; omega
  have q9 : ((th) == (33578750 : Int)) = true := by rw [beq_iff_eq]; omega
  clear hlw2 hh hk
  have hc1 : Below w.heap.size w (w.alloc (.cells #[.int .u64 hi, .int .u64 lo] 96)) := (Below.refl _ w).alloc (Nat.le_refl _) _
  go_enter Tryz.func44, Tryz.ntmps44
  go_wp2_with fail
  refine (wide6_any hi lo _).mono ?_
  rintro e x1 ⟨rfl, hb1⟩
  have hc : Below w.heap.size w x1 := hc1.trans (hb1.mono hc1.size)
  have hsz := hc.size
  clear hb1 hc1 hta
  have hown0 := World.ownsRow_nil x1 w.heap.size 92 1
  go_wp2_with (first
    | (at_builtin; refine wp_append1 _ rfl _ _ 89 rfl w.heap.size 92 i0 (.int .u32 0) 4 Tryz.underlying89 hi0 hz0 hz1 hz2 rfl _ 0 _ rfl hown0 (.int .u32 lw) rfl rfl (by decide) (by decide) hsz ?_; intro v1 y1 hown1 hk1))
  go_ret
  exact ⟨_, rfl, by rw [HZ.out]; exact hown1, (hc.trans hk1)⟩
set_option maxRecDepth 100000 in
set_option maxHeartbeats 2000000 in
theorem inner_zero_oth (hi lo th lw : Int) (w : World) (hbd : (0 ≤ hi ∧ hi ≤ 18446744073709551615) ∧ (0 ≤ lo ∧ lo ≤ 18446744073709551615)) (hth : lo / 4294967296 = th) (hlw2 : lo % 4294967296 = lw) (hh : hi = 0) (hk : th ≠ 65535 ∧ th ≠ 0 ∧ th ≠ 24318 ∧ th ≠ 33578750) :
    Calls Tryz.prog 44 #[.iface 96 (.agg #[.int .u64 hi, .int .u64 lo])] w (RetFours w (innerZ hi lo)) := by
  obtain ⟨⟨h0, h1⟩, l0, l1⟩ := hbd
  obtain ⟨i0, hi0, hz0, hz1, hz2⟩ := info_parts Tryz.infoFour
  have hta := as66
  have hwl : IntKind.u32.wrap lo = lw := by rw [u32_wrap]; exact hlw2
  have hwd : IntKind.u32.wrap (hi / 65536) = hi / 65536 % 4294967296 := u32_wrap _
  have hwe : IntKind.u32.wrap hi = hi % 4294967296 := u32_wrap _
  have hA : inA hi th lw = [] := if_neg (by omega)
  have hB : inCo hi th lw = [] := if_neg (by omega)
  have hC : inC hi th lw = [] := if_neg (by omega)
  have hD : inD hi = [] := if_neg (by omega)
  have hE : inE hi lw = [] := if_neg (by omega)
  have hF : inF th lw = [] := if_neg (by omega)
  have HZ : Hid (innerZ hi lo = []) := by show innerZ hi lo = _; rw [innerZ, hth, hlw2, hA, hB, hC, hD, hE, hF]; rfl
  clear hA hB hC hD hE hF
  have ht0 : 0 ≤ th := by omega
  have ht1 : th ≤ 4294967295 := by omega
  have hw0 : 0 ≤ lw := by omega
  have hw1 : lw ≤ 4294967295 := by omega
  have q1 : ((hi) == (0 : Int)) = true := by rw [beq_iff_eq]; omega
  have q2 : ((th) == (65535 : Int)) = false := by rw [beq_eq_false_iff_ne]; omega
  have q3 : ((th) == (0 : Int)) = false := by rw [beq_eq_false_iff_ne]; omega
  have q5 : ((hi) == (28428538856079360 : Int)) = false := by rw [beq_eq_false_iff_ne]; omega
  have q6 : ((hi / 281474976710656) == (8194 : Int)) = false := by rw [beq_eq_false_iff_ne]; omega
  have q7 : ((hi / 4294967296) == (536936448 : Int)) = false := by rw [beq_eq_false_iff_ne]; omega
  have q8 : ((th) == (24318 : Int)) = false := by rw [beq_eq_false_iff_ne]; omega
  have q9 : ((th) == (33578750 : Int)) = false := by rw [beq_eq_false_iff_ne]; omega
  clear hlw2 hh hk
  have hc1 : Below w.heap.size w (w.alloc (.cells #[.int .u64 hi, .int .u64 lo] 96)) := (Below.refl _ w).alloc (Nat.le_refl _) _
  go_enter Tryz.func44, Tryz.ntmps44
  go_wp2_with fail
  refine (wide6_any hi lo _).mono ?_
  rintro e x1 ⟨rfl, hb1⟩
  have hc : Below w.heap.size w x1 := hc1.trans (hb1.mono hc1.size)
  have hsz := hc.size
  clear hb1 hc1 hta
  have hown0 := World.ownsRow_nil x1 w.heap.size 92 1
  go_wp2
  go_ret
  exact ⟨_, rfl, by rw [HZ.out]; exact Nums.nil _ _ _ _, hc⟩
set_option maxRecDepth 100000 in
set_option maxHeartbeats 2000000 in
theorem inner_tr_ffff (hi lo th lw : Int) (w : World) (hbd : (0 ≤ hi ∧ hi ≤ 18446744073709551615) ∧ (0 ≤ lo ∧ lo ≤ 18446744073709551615)) (hth : lo / 4294967296 = th) (hlw2 : lo % 4294967296 = lw) (hh : hi = 28428538856079360) (hk : th = 65535) :
    Calls Tryz.prog 44 #[.iface 96 (.agg #[.int .u64 hi, .int .u64 lo])] w (RetFours w (innerZ hi lo)) := by
  obtain ⟨⟨h0, h1⟩, l0, l1⟩ := hbd
  obtain ⟨i0, hi0, hz0, hz1, hz2⟩ := info_parts Tryz.infoFour
  have hta := as66
  have hwl : IntKind.u32.wrap lo = lw := by rw [u32_wrap]; exact hlw2
  have hwd : IntKind.u32.wrap (hi / 65536) = hi / 65536 % 4294967296 := u32_wrap _
  have hwe : IntKind.u32.wrap hi = hi % 4294967296 := u32_wrap _
  have hA : inA hi th lw = [] := if_neg (by omega)
  have hB : inCo hi th lw = [] := if_neg (by omega)
  have hC : inC hi th lw = [] := if_neg (by omega)
  have hD : inD hi = [] := if_neg (by omega)
  have hE : inE hi lw = [] := if_neg (by omega)
  have hF : inF th lw = [] := if_neg (by omega)
  have HZ : Hid (innerZ hi lo = []) := by show innerZ hi lo = _; rw [innerZ, hth, hlw2, hA, hB, hC, hD, hE, hF]; rfl
  clear hA hB hC hD hE hF
  have ht0 : 0 ≤ th := by omega
  have ht1 : th ≤ 4294967295 := by omega
  have hw0 : 0 ≤ lw := by omega
  have hw1 : lw ≤ 4294967295 := by omega
  have q1 : ((hi) == (0 : Int)) = false := by rw [beq_eq_false_iff_ne]; omega
  have q2 : ((th) == (65535 : Int)) = true := by rw [beq_iff_eq]; omega
  have q3 : ((th) == (0 : Int)) = false := by rw [beq_eq_false_iff_ne]; omega
  have q5 : ((hi) == (28428538856079360 : Int)) = true := by rw [beq_iff_eq]; omega
  have q6 : ((hi / 281474976710656) == (8194 : Int)) = false := by rw [beq_eq_false_iff_ne]; omega
  have q7 : ((hi / 4294967296) == (536936448 : Int)) = false := by rw [beq_eq_false_iff_ne]; omega
  have q8 : ((th) == (24318 : Int)) = false := by rw [beq_eq_false_iff_ne]; omega
  have q9 : ((th) == (33578750 : Int)) = false := by rw [beq_eq_false_iff_ne]; omega
  clear hlw2 hh hk
  have hc1 : Below w.heap.size w (w.alloc (.cells #[.int .u64 hi, .int .u64 lo] 96)) := (Below.refl _ w).alloc (Nat.le_refl _) _
  go_enter Tryz.func44, Tryz.ntmps44
  go_wp2_with fail
  refine (wide6_any hi lo _).mono ?_
  rintro e x1 ⟨rfl, hb1⟩
  have hc : Below w.heap.size w x1 := hc1.trans (hb1.mono hc1.size)
  have hsz := hc.size
  clear hb1 hc1 hta
  have hown0 := World.ownsRow_nil x1 w.heap.size 92 1
  go_wp2
  go_ret
  exact ⟨_, rfl, by rw [HZ.out]; exact Nums.nil _ _ _ _, hc⟩
set_option maxRecDepth 100000 in
set_option maxHeartbeats 2000000 in
theorem inner_tr_zero (hi lo th lw : Int) (w : World) (hbd : (0 ≤ hi ∧ hi ≤ 18446744073709551615) ∧ (0 ≤ lo ∧ lo ≤ 18446744073709551615)) (hth : lo / 4294967296 = th) (hlw2 : lo % 4294967296 = lw) (hh : hi = 28428538856079360) (hk : th = 0) :
    Calls Tryz.prog 44 #[.iface 96 (.agg #[.int .u64 hi, .int .u64 lo])] w (RetFours w (innerZ hi lo)) := by
  obtain ⟨⟨h0, h1⟩, l0, l1⟩ := hbd
  obtain ⟨i0, hi0, hz0, hz1, hz2⟩ := info_parts Tryz.infoFour
  have hta := as66
  have hwl : IntKind.u32.wrap lo = lw := by rw [u32_wrap]; exact hlw2
  have hwd : IntKind.u32.wrap (hi / 65536) = hi / 65536 % 4294967296 := u32_wrap _
  have hwe : IntKind.u32.wrap hi = hi % 4294967296 := u32_wrap _
  have hA : inA hi th lw = [] := if_neg (by omega)
  have hB : inCo hi th lw = [] := if_neg (by omega)
  have hC : inC hi th lw = [lw] := if_pos (by omega)
  have hD : inD hi = [] := if_neg (by omega)
  have hE : inE hi lw = [] := if_neg (by omega)
  have hF : inF th lw = [] := if_neg (by omega)
  have HZ : Hid (innerZ hi lo = [lw]) := by show innerZ hi lo = _; rw [innerZ, hth, hlw2, hA, hB, hC, hD, hE, hF]; rfl
  clear hA hB hC hD hE hF
  have ht0 : 0 ≤ th := by omega
  have ht1 : th ≤ 4294967295 := by omega
  have hw0 : 0 ≤ lw := by omega
  have hw1 : lw ≤ 4294967295 := by omega
  have q1 : ((hi) == (0 : Int)) = false := by rw [beq_eq_false_iff_ne]; omega
  have q2 : ((th) == (65535 : Int)) = false := by rw [beq_eq_false_iff_ne]; omega
  have q3 : ((th) == (0 : Int)) = true := by rw [beq_iff_eq]; omega
  have q5 : ((hi) == (28428538856079360 : Int)) = true := by rw [beq_iff_eq]; omega
  have q6 : ((hi / 281474976710656) == (8194 : Int)) = false := by rw [beq_eq_false_iff_ne]; omega
  have q7 : ((hi / 4294967296) == (536936448 : Int)) = false := by rw [beq_eq_false_iff_ne]; omega
  have q8 : ((th) == (24318 : Int)) = false := by rw [beq_eq_false_iff_ne]; omega
  have q9 : ((th) == (33578750 : Int)) = false := by rw [beq_eq_false_iff_ne]; omega
  clear hlw2 hh hk
  have hc1 : Below w.heap.size w (w.alloc (.cells #[.int .u64 hi, .int .u64 lo] 96)) := (Below.refl _ w).alloc (Nat.le_refl _) _
  go_enter Tryz.func44, Tryz.ntmps44
  go_wp2_with fail
  refine (wide6_any hi lo _).mono ?_
  rintro e x1 ⟨rfl, hb1⟩
  have hc : Below w.heap.size w x1 := hc1.trans (hb1.mono hc1.size)
  have hsz := hc.size
  clear hb1 hc1 hta
  have hown0 := World.ownsRow_nil x1 w.heap.size 92 1
  go_wp2_with (first
    | (at_builtin; refine wp_append1 _ rfl _ _ 89 rfl w.heap.size 92 i0 (.int .u32 0) 4 Tryz.underlying89 hi0 hz0 hz1 hz2 rfl _ 0 _ rfl hown0 (.int .u32 lw) rfl rfl (by decide) (by decide) hsz ?_; intro v1 y1 hown1 hk1))
  go_ret
  exact ⟨_, rfl, by rw [HZ.out]; exact hown1, (hc.trans hk1)⟩
set_option maxRecDepth 100000 in
set_option maxHeartbeats 2000000 in
theorem inner_tr_i1 (hi lo th lw : Int) (w : World) (hbd : (0 ≤ hi ∧ hi ≤ 18446744073709551615) ∧ (0 ≤ lo ∧ lo ≤ 18446744073709551615)) (hth : lo / 4294967296 = th) (hlw2 : lo % 4294967296 = lw) (hh : hi = 28428538856079360) (hk : th = 24318) :
    Calls Tryz.prog 44 #[.iface 96 (.agg #[.int .u64 hi, .int .u64 lo])] w (RetFours w (innerZ hi lo)) := by
  obtain ⟨⟨h0, h1⟩, l0, l1⟩ := hbd
  obtain ⟨i0, hi0, hz0, hz1, hz2⟩ := info_parts Tryz.infoFour
  have hta := as66
  have hwl : IntKind.u32.wrap lo = lw := by rw [u32_wrap]; exact hlw2
  have hwd : IntKind.u32.wrap (hi / 65536) = hi / 65536 % 4294967296 := u32_wrap _
  have hwe : IntKind.u32.wrap hi = hi % 4294967296 := u32_wrap _
  have hA : inA hi th lw = [] := if_neg (by omega)
  have hB : inCo hi th lw = [] := if_neg (by omega)
  have hC : inC hi th lw = [] := if_neg (by omega)
  have hD : inD hi = [] := if_neg (by omega)
  have hE : inE hi lw = [] := if_neg (by omega)
  have hF : inF th lw = [lw] := if_pos (by omega)
  have HZ : Hid (innerZ hi lo = [lw]) := by show innerZ hi lo = _; rw [innerZ, hth, hlw2, hA, hB, hC, hD, hE, hF]; rfl
  clear hA hB hC hD hE hF
  have ht0 : 0 ≤ th := by omega
  have ht1 : th ≤ 4294967295 := by omega
  have hw0 : 0 ≤ lw := by omega
  have hw1 : lw ≤ 4294967295 := by omega
  have q1 : ((hi) == (0 : Int)) = false := by rw [beq_eq_false_iff_ne]; omega
  have q2 : ((th) == (65535 : Int)) = false := by rw [beq_eq_false_iff_ne]; omega
  have q3 : ((th) == (0 : Int)) = false := by rw [beq_eq_false_iff_ne]; omega
  have q5 : ((hi) == (28428538856079360 : Int)) = true := by rw [beq_iff_eq]; omega
  have q6 : ((hi / 281474976710656) == (8194 : Int)) = false := by rw [beq_eq_false_iff_ne]; omega
  have q7 : ((hi / 4294967296) == (536936448 : Int)) = false := by rw [beq_eq_false_iff_ne]; omega
  have q8 : ((th) == (24318 : Int)) = true := by rw [beq_iff_eq]; omega
  have q9 : ((th) == (33578750 : Int)) = false := by rw [beq_eq_false_iff_ne]; omega
  clear hlw2 hh hk
  have hc1 : Below w.heap.size w (w.alloc (.cells #[.int .u64 hi, .int .u64 lo] 96)) := (Below.refl _ w).alloc (Nat.le_refl _) _
  go_enter Tryz.func44, Tryz.ntmps44
  go_wp2_with fail
  refine (wide6_any hi lo _).mono ?_
  rintro e x1 ⟨rfl, hb1⟩
  have hc : Below w.heap.size w x1 := hc1.trans (hb1.mono hc1.size)
  have hsz := hc.size
  clear hb1 hc1 hta
  have hown0 := World.ownsRow_nil x1 w.heap.size 92 1
  go_wp2_with (first
    | (at_builtin; refine wp_append1 _ rfl _ _ 89 rfl w.heap.size 92 i0 (.int .u32 0) 4 Tryz.underlying89 hi0 hz0 hz1 hz2 rfl _ 0 _ rfl hown0 (.int .u32 lw) rfl rfl (by decide) (by decide) hsz ?_; intro v1 y1 hown1 hk1))
  go_ret
  exact ⟨_, rfl, by rw [HZ.out]; exact hown1, (hc.trans hk1)⟩
set_option maxRecDepth 100000 in
set_option maxHeartbeats 2000000 in
theorem inner_tr_i2 (hi lo th lw : Int) (w : World) (hbd : (0 ≤ hi ∧ hi ≤ 18446744073709551615) ∧ (0 ≤ lo ∧ lo ≤ 18446744073709551615)) (hth : lo / 4294967296 = th) (hlw2 : lo % 4294967296 = lw) (hh : hi = 28428538856079360) (hk : th = 33578750) :
    Calls Tryz.prog 44 #[.iface 96 (.agg #[.int .u64 hi, .int .u64 lo])] w (RetFours w (innerZ hi lo)) := by
  obtain ⟨⟨h0, h1⟩, l0, l1⟩ := hbd
  obtain ⟨i0, hi0, hz0, hz1, hz2⟩ := info_parts Tryz.infoFour
  have hta := as66
  have hwl : IntKind.u32.wrap lo = lw := by rw [u32_wrap]; exact hlw2
  have hwd : IntKind.u32.wrap (hi / 65536) = hi / 65536 % 4294967296 := u32_wrap _
  have hwe : IntKind.u32.wrap hi = hi % 4294967296 := u32_wrap _
  have hA : inA hi th lw = [] := if_neg (by omega)
  have hB : inCo hi th lw = [] := if_neg (by omega)
  have hC : inC hi th lw = [] := if_neg (by omega)
  have hD : inD hi = [] := if_neg (by omega)
  have hE : inE hi lw = [] := if_neg (by omega)
  have hF : inF th lw = [lw] := if_pos (by omega)
  have HZ : Hid (innerZ hi lo = [lw]) := by show innerZ hi lo = _; rw [innerZ, hth, hlw2, hA, hB, hC, hD, hE, hF]; rfl
  clear hA hB hC hD hE hF
  have ht0 : 0 ≤ th := by omega
  have ht1 : th ≤ 4294967295 := by omega
  have hw0 : 0 ≤ lw := by omega
  have hw1 : lw ≤ 4294967295 := by omega
  have q1 : ((hi) == (0 : Int)) = false := by rw [beq_eq_false_iff_ne]; omega
  have q2 : ((th) == (65535 : Int)) = false := by rw [beq_eq_false_iff_ne]; omega
  have q3 : ((th) == (0 : Int)) = false := by rw [beq_eq_false_iff_ne]; omega
  have q5 : ((hi) == (28428538856079360 : Int)) = true := by rw [beq_iff_eq]; omega
  have q6 : ((hi / 281474976710656) == (8194 : Int)) = false := by rw [beq_eq_false_iff_ne]; omega
  have q7 : ((hi / 4294967296) == (536936448 : Int)) = false := by rw [beq_eq_false_iff_ne]; omega
  have q8 : ((th) == (24318 : Int)) = false := by rw [beq_eq_false_iff_ne]; omega
  have q9 : ((th) == (33578750 : Int)) = true := by rw [beq_iff_eq]; omega
  clear hlw2 hh hk
  have hc1 : Below w.heap.size w (w.alloc (.cells #[.int .u64 hi, .int .u64 lo] 96)) := (Below.refl _ w).alloc (Nat.le_refl _) _
  go_enter Tryz.func44, Tryz.ntmps44
  go_wp2_with fail
  refine (wide6_any hi lo _).mono ?_
  rintro e x1 ⟨rfl, hb1⟩
  have hc : Below w.heap.size w x1 := hc1.trans (hb1.mono hc1.size)
  have hsz := hc.size
  clear hb1 hc1 hta
  have hown0 := World.ownsRow_nil x1 w.heap.size 92 1
  go_wp2_with (first
    | (at_builtin; refine wp_append1 _ rfl _ _ 89 rfl w.heap.size 92 i0 (.int .u32 0) 4 Tryz.underlying89 hi0 hz0 hz1 hz2 rfl _ 0 _ rfl hown0 (.int .u32 lw) rfl rfl (by decide) (by decide) hsz ?_; intro v1 y1 hown1 hk1))
  go_ret
  exact ⟨_, rfl, by rw [HZ.out]; exact hown1, (hc.trans hk1)⟩
set_option maxRecDepth 100000 in
set_option maxHeartbeats 2000000 in
theorem inner_tr_oth (hi lo th lw : Int) (w : World) (hbd : (0 ≤ hi ∧ hi ≤ 18446744073709551615) ∧ (0 ≤ lo ∧ lo ≤ 18446744073709551615)) (hth : lo / 4294967296 = th) (hlw2 : lo % 4294967296 = lw) (hh : hi = 28428538856079360) (hk : th ≠ 65535 ∧ th ≠ 0 ∧ th ≠ 24318 ∧ th ≠ 33578750) :
    Calls Tryz.prog 44 #[.iface 96 (.agg #[.int .u64 hi, .int .u64 lo])] w (RetFours w (innerZ hi lo)) := by
  obtain ⟨⟨h0, h1⟩, l0, l1⟩ := hbd
  obtain ⟨i0, hi0, hz0, hz1, hz2⟩ := info_parts Tryz.infoFour
  have hta := as66
  have hwl : IntKind.u32.wrap lo = lw := by rw [u32_wrap]; exact hlw2
  have hwd : IntKind.u32.wrap (hi / 65536) = hi / 65536 % 4294967296 := u32_wrap _
  have hwe : IntKind.u32.wrap hi = hi % 4294967296 := u32_wrap _
  have hA : inA hi th lw = [] := if_neg (by omega)
  have hB : inCo hi th lw = [] := if_neg (by omega)
  have hC : inC hi th lw = [] := if_neg (by omega)
  have hD : inD hi = [] := if_neg (by omega)
  have hE : inE hi lw = [] := if_neg (by omega)
  have hF : inF th lw = [] := if_neg (by omega)
  have HZ : Hid (innerZ hi lo = []) := by show innerZ hi lo = _; rw [innerZ, hth, hlw2, hA, hB, hC, hD, hE, hF]; rfl
  clear hA hB hC hD hE hF
  have ht0 : 0 ≤ th := by omega
  have ht1 : th ≤ 4294967295 := by omega
  have hw0 : 0 ≤ lw := by omega
  have hw1 : lw ≤ 4294967295 := by omega
  have q1 : ((hi) == (0 : Int)) = false := by rw [beq_eq_false_iff_ne]; omega
  have q2 : ((th) == (65535 : Int)) = false := by rw [beq_eq_false_iff_ne]; omega
  have q3 : ((th) == (0 : Int)) = false := by rw [beq_eq_false_iff_ne]; omega
  have q5 : ((hi) == (28428538856079360 : Int)) = true := by rw [beq_iff_eq]; omega
  have q6 : ((hi / 281474976710656) == (8194 : Int)) = false := by rw [beq_eq_false_iff_ne]; omega
  have q7 : ((hi / 4294967296) == (536936448 : Int)) = false := by rw [beq_eq_false_iff_ne]; omega
  have q8 : ((th) == (24318 : Int)) = false := by rw [beq_eq_false_iff_ne]; omega
  have q9 : ((th) == (33578750 : Int)) = false := by rw [beq_eq_false_iff_ne]; omega
  clear hlw2 hh hk
  have hc1 : Below w.heap.size w (w.alloc (.cells #[.int .u64 hi, .int .u64 lo] 96)) := (Below.refl _ w).alloc (Nat.le_refl _) _
  go_enter Tryz.func44, Tryz.ntmps44
  go_wp2_with fail
  refine (wide6_any hi lo _).mono ?_
  rintro e x1 ⟨rfl, hb1⟩
  have hc : Below w.heap.size w x1 := hc1.trans (hb1.mono hc1.size)
  have hsz := hc.size
  clear hb1 hc1 hta
  have hown0 := World.ownsRow_nil x1 w.heap.size 92 1
  go_wp2
  go_ret
  exact ⟨_, rfl, by rw [HZ.out]; exact Nums.nil _ _ _ _, hc⟩
set_option maxRecDepth 100000 in
set_option maxHeartbeats 2000000 in
theorem inner_d_ffff (hi lo th lw : Int) (w : World) (hbd : (0 ≤ hi ∧ hi ≤ 18446744073709551615) ∧ (0 ≤ lo ∧ lo ≤ 18446744073709551615)) (hth : lo / 4294967296 = th) (hlw2 : lo % 4294967296 = lw) (hh : hi / 281474976710656 = 8194) (hk : th = 65535) :
    Calls Tryz.prog 44 #[.iface 96 (.agg #[.int .u64 hi, .int .u64 lo])] w (RetFours w (innerZ hi lo)) := by
  obtain ⟨⟨h0, h1⟩, l0, l1⟩ := hbd
  obtain ⟨i0, hi0, hz0, hz1, hz2⟩ := info_parts Tryz.infoFour
  have hta := as66
  have hwl : IntKind.u32.wrap lo = lw := by rw [u32_wrap]; exact hlw2
  have hwd : IntKind.u32.wrap (hi / 65536) = hi / 65536 % 4294967296 := u32_wrap _
  have hwe : IntKind.u32.wrap hi = hi % 4294967296 := u32_wrap _
  have hA : inA hi th lw = [] := if_neg (by omega)
  have hB : inCo hi th lw = [] := if_neg (by omega)
  have hC : inC hi th lw = [] := if_neg (by omega)
  have hD : inD hi = [hi / 65536 % 4294967296] := if_pos (by omega)
  have hE : inE hi lw = [] := if_neg (by omega)
  have hF : inF th lw = [] := if_neg (by omega)
  have HZ : Hid (innerZ hi lo = [hi / 65536 % 4294967296]) := by show innerZ hi lo = _; rw [innerZ, hth, hlw2, hA, hB, hC, hD, hE, hF]; rfl
  clear hA hB hC hD hE hF
  have ht0 : 0 ≤ th := by omega
  have ht1 : th ≤ 4294967295 := by omega
  have hw0 : 0 ≤ lw := by omega
  have hw1 : lw ≤ 4294967295 := by omega
  have q1 : ((hi) == (0 : Int)) = false := by rw [beq_eq_false_iff_ne]; omega
  have q2 : ((th) == (65535 : Int)) = true := by rw [beq_iff_eq]; omega
  have q3 : ((th) == (0 : Int)) = false := by rw [beq_eq_false_iff_ne]; omega
  have q5 : ((hi) == (28428538856079360 : Int)) = false := by rw [beq_eq_false_iff_ne]; omega
  have q6 : ((hi / 281474976710656) == (8194 : Int)) = true := by rw [beq_iff_eq]; omega
  have q7 : ((hi / 4294967296) == (536936448 : Int)) = false := by rw [beq_eq_false_iff_ne]; omega
  have q8 : ((th) == (24318 : Int)) = false := by rw [beq_eq_false_iff_ne]; omega
  have q9 : ((th) == (33578750 : Int)) = false := by rw [beq_eq_false_iff_ne]; omega
  clear hlw2 hh hk
  have hc1 : Below w.heap.size w (w.alloc (.cells #[.int .u64 hi, .int .u64 lo] 96)) := (Below.refl _ w).alloc (Nat.le_refl _) _
  go_enter Tryz.func44, Tryz.ntmps44
  go_wp2_with fail
  refine (wide6_any hi lo _).mono ?_
  rintro e x1 ⟨rfl, hb1⟩
  have hc : Below w.heap.size w x1 := hc1.trans (hb1.mono hc1.size)
  have hsz := hc.size
  clear hb1 hc1 hta
  have hown0 := World.ownsRow_nil x1 w.heap.size 92 1
  go_wp2_with (first
    | (at_builtin; refine wp_append1 _ rfl _ _ 89 rfl w.heap.size 92 i0 (.int .u32 0) 4 Tryz.underlying89 hi0 hz0 hz1 hz2 rfl _ 0 _ rfl hown0 (.int .u32 (hi / 65536 % 4294967296)) rfl rfl (by decide) (by decide) hsz ?_; intro v1 y1 hown1 hk1))
  go_ret
  exact ⟨_, rfl, by rw [HZ.out]; exact hown1, (hc.trans hk1)⟩
set_option maxRecDepth 100000 in
set_option maxHeartbeats 2000000 in
theorem inner_d_zero (hi lo th lw : Int) (w : World) (hbd : (0 ≤ hi ∧ hi ≤ 18446744073709551615) ∧ (0 ≤ lo ∧ lo ≤ 18446744073709551615)) (hth : lo / 4294967296 = th) (hlw2 : lo % 4294967296 = lw) (hh : hi / 281474976710656 = 8194) (hk : th = 0) :
    Calls Tryz.prog 44 #[.iface 96 (.agg #[.int .u64 hi, .int .u64 lo])] w (RetFours w (innerZ hi lo)) := by
  obtain ⟨⟨h0, h1⟩, l0, l1⟩ := hbd
  obtain ⟨i0, hi0, hz0, hz1, hz2⟩ := info_parts Tryz.infoFour
  have hta := as66
  have hwl : IntKind.u32.wrap lo = lw := by rw [u32_wrap]; exact hlw2
  have hwd : IntKind.u32.wrap (hi / 65536) = hi / 65536 % 4294967296 := u32_wrap _
  have hwe : IntKind.u32.wrap hi = hi % 4294967296 := u32_wrap _
  have hA : inA hi th lw = [] := if_neg (by omega)
  have hB : inCo hi th lw = [] := if_neg (by omega)
  have hC : inC hi th lw = [] := if_neg (by omega)
  have hD : inD hi = [hi / 65536 % 4294967296] := if_pos (by omega)
  have hE : inE hi lw = [] := if_neg (by omega)
  have hF : inF th lw = [] := if_neg (by omega)
  have HZ : Hid (innerZ hi lo = [hi / 65536 % 4294967296]) := by show innerZ hi lo = _; rw [innerZ, hth, hlw2, hA, hB, hC, hD, hE, hF]; rfl
  clear hA hB hC hD hE hF
  have ht0 : 0 ≤ th := by omega
  have ht1 : th ≤ 4294967295 := by omega
  have hw0 : 0 ≤ lw := by omega
  have hw1 : lw ≤ 4294967295 := by omega
  have q1 : ((hi) == (0 : Int)) = false := by rw [beq_eq_false_iff_ne]; omega
  have q2 : ((th) == (65535 : Int)) = false := by rw [beq_eq_false_iff_ne]; omega
  have q3 : ((th) == (0 : Int)) = true := by rw [beq_iff_eq]; omega
  have q5 : ((hi) == (28428538856079360 : Int)) = false := by rw [beq_eq_false_iff_ne]; omega
  have q6 : ((hi / 281474976710656) == (8194 : Int)) = true := by rw [beq_iff_eq]; omega
  have q7 : ((hi / 4294967296) == (536936448 : Int)) = false := by rw [beq_eq_false_iff_ne]; omega
  have q8 : ((th) == (24318 : Int)) = false := by rw [beq_eq_false_iff_ne]; omega
  have q9 : ((th) == (33578750 : Int)) = false := by rw [beq_eq_false_iff_ne]; omega
  clear hlw2 hh hk
  have hc1 : Below w.heap.size w (w.alloc (.cells #[.int .u64 hi, .int .u64 lo] 96)) := (Below.refl _ w).alloc (Nat.le_refl _) _
  go_enter Tryz.func44, Tryz.ntmps44
  go_wp2_with fail
  refine (wide6_any hi lo _).mono ?_
  rintro e x1 ⟨rfl, hb1⟩
  have hc : Below w.heap.size w x1 := hc1.trans (hb1.mono hc1.size)
  have hsz := hc.size
  clear hb1 hc1 hta
  have hown0 := World.ownsRow_nil x1 w.heap.size 92 1
  go_wp2_with (first
    | (at_builtin; refine wp_append1 _ rfl _ _ 89 rfl w.heap.size 92 i0 (.int .u32 0) 4 Tryz.underlying89 hi0 hz0 hz1 hz2 rfl _ 0 _ rfl hown0 (.int .u32 (hi / 65536 % 4294967296)) rfl rfl (by decide) (by decide) hsz ?_; intro v1 y1 hown1 hk1))
  go_ret
  exact ⟨_, rfl, by rw [HZ.out]; exact hown1, (hc.trans hk1)⟩
set_option maxRecDepth 100000 in
set_option maxHeartbeats 2000000 in
theorem inner_d_i1 (hi lo th lw : Int) (w : World) (hbd : (0 ≤ hi ∧ hi ≤ 18446744073709551615) ∧ (0 ≤ lo ∧ lo ≤ 18446744073709551615)) (hth : lo / 4294967296 = th) (hlw2 : lo % 4294967296 = lw) (hh : hi / 281474976710656 = 8194) (hk : th = 24318) :
    Calls Tryz.prog 44 #[.iface 96 (.agg #[.int .u64 hi, .int .u64 lo])] w (RetFours w (innerZ hi lo)) := by
  obtain ⟨⟨h0, h1⟩, l0, l1⟩ := hbd
  obtain ⟨i0, hi0, hz0, hz1, hz2⟩ := info_parts Tryz.infoFour
  have hta := as66
  have hwl : IntKind.u32.wrap lo = lw := by rw [u32_wrap]; exact hlw2
  have hwd : IntKind.u32.wrap (hi / 65536) = hi / 65536 % 4294967296 := u32_wrap _
  have hwe : IntKind.u32.wrap hi = hi % 4294967296 := u32_wrap _
  have hA : inA hi th lw = [] := if_neg (by omega)
  have hB : inCo hi th lw = [] := if_neg (by omega)
  have hC : inC hi th lw = [] := if_neg (by omega)
  have hD : inD hi = [hi / 65536 % 4294967296] := if_pos (by omega)
  have hE : inE hi lw = [] := if_neg (by omega)
  have hF : inF th lw = [lw] := if_pos (by omega)
  have HZ : Hid (innerZ hi lo = [hi / 65536 % 4294967296, lw]) := by show innerZ hi lo = _; rw [innerZ, hth, hlw2, hA, hB, hC, hD, hE, hF]; rfl
  clear hA hB hC hD hE hF
  have ht0 : 0 ≤ th := by omega
  have ht1 : th ≤ 4294967295 := by omega
  have hw0 : 0 ≤ lw := by omega
  have hw1 : lw ≤ 4294967295 := by omega
  have q1 : ((hi) == (0 : Int)) = false := by rw [beq_eq_false_iff_ne]; omega
  have q2 : ((th) == (65535 : Int)) = false := by rw [beq_eq_false_iff_ne]; omega
  have q3 : ((th) == (0 : Int)) = false := by rw [beq_eq_false_iff_ne]; omega
  have q5 : ((hi) == (28428538856079360 : Int)) = false := by rw [beq_eq_false_iff_ne]; omega
  have q6 : ((hi / 281474976710656) == (8194 : Int)) = true := by rw [beq_iff_eq]; omega
  have q7 : ((hi / 4294967296) == (536936448 : Int)) = false := by rw [beq_eq_false_iff_ne]; omega
  have q8 : ((th) == (24318 : Int)) = true := by rw [beq_iff_eq]; omega
  have q9 : ((th) == (33578750 : Int)) = false := by rw [beq_eq_false_iff_ne]; omega
  clear hlw2 hh hk
  have hc1 : Below w.heap.size w (w.alloc (.cells #[.int .u64 hi, .int .u64 lo] 96)) := (Below.refl _ w).alloc (Nat.le_refl _) _
  go_enter Tryz.func44, Tryz.ntmps44
  go_wp2_with fail
  refine (wide6_any hi lo _).mono ?_
  rintro e x1 ⟨rfl, hb1⟩
  have hc : Below w.heap.size w x1 := hc1.trans (hb1.mono hc1.size)
  have hsz := hc.size
  clear hb1 hc1 hta
  have hown0 := World.ownsRow_nil x1 w.heap.size 92 1
  go_wp2_with (first
    | (at_builtin; refine wp_append1 _ rfl _ _ 89 rfl w.heap.size 92 i0 (.int .u32 0) 4 Tryz.underlying89 hi0 hz0 hz1 hz2 rfl _ 0 _ rfl hown0 (.int .u32 (hi / 65536 % 4294967296)) rfl rfl (by decide) (by decide) hsz ?_; intro v1 y1 hown1 hk1)
    | (at_builtin; refine wp_append1 _ rfl _ _ 89 rfl w.heap.size 92 i0 (.int .u32 0) 4 Tryz.underlying89 hi0 hz0 hz1 hz2 rfl _ 1 _ rfl hown1 (.int .u32 lw) rfl rfl (by decide) (by decide) (hc.trans hk1).size ?_; intro v2 y2 hown2 hk2))
  go_ret
  exact ⟨_, rfl, by rw [HZ.out]; exact hown2, ((hc.trans hk1).trans hk2)⟩
set_option maxRecDepth 100000 in
set_option maxHeartbeats 2000000 in
theorem inner_d_i2 (hi lo th lw : Int) (w : World) (hbd : (0 ≤ hi ∧ hi ≤ 18446744073709551615) ∧ (0 ≤ lo ∧ lo ≤ 18446744073709551615)) (hth : lo / 4294967296 = th) (hlw2 : lo % 4294967296 = lw) (hh : hi / 281474976710656 = 8194) (hk : th = 33578750) :
    Calls Tryz.prog 44 #[.iface 96 (.agg #[.int .u64 hi, .int .u64 lo])] w (RetFours w (innerZ hi lo)) := by
  obtain ⟨⟨h0, h1⟩, l0, l1⟩ := hbd
  obtain ⟨i0, hi0, hz0, hz1, hz2⟩ := info_parts Tryz.infoFour
  have hta := as66
  have hwl : IntKind.u32.wrap lo = lw := by rw [u32_wrap]; exact hlw2
  have hwd : IntKind.u32.wrap (hi / 65536) = hi / 65536 % 4294967296 := u32_wrap _
  have hwe : IntKind.u32.wrap hi = hi % 4294967296 := u32_wrap _
  have hA : inA hi th lw = [] := if_neg (by omega)
  have hB : inCo hi th lw = [] := if_neg (by omega)
  have hC : inC hi th lw = [] := if_neg (by omega)
  have hD : inD hi = [hi / 65536 % 4294967296] := if_pos (by omega)
  have hE : inE hi lw = [] := if_neg (by omega)
  have hF : inF th lw = [lw] := if_pos (by omega)
  have HZ : Hid (innerZ hi lo = [hi / 65536 % 4294967296, lw]) := by show innerZ hi lo = _; rw [innerZ, hth, hlw2, hA, hB, hC, hD, hE, hF]; rfl
  clear hA hB hC hD hE hF
  have ht0 : 0 ≤ th := by omega
  have ht1 : th ≤ 4294967295 := by omega
  have hw0 : 0 ≤ lw := by omega
  have hw1 : lw ≤ 4294967295 := by omega
  have q1 : ((hi) == (0 : Int)) = false := by rw [beq_eq_false_iff_ne]; omega
  have q2 : ((th) == (65535 : Int)) = false := by rw [beq_eq_false_iff_ne]; omega
  have q3 : ((th) == (0 : Int)) = false := by rw [beq_eq_false_iff_ne]; omega
  have q5 : ((hi) == (28428538856079360 : Int)) = false := by rw [beq_eq_false_iff_ne]; omega
  have q6 : ((hi / 281474976710656) == (8194 : Int)) = true := by rw [beq_iff_eq]; omega
  have q7 : ((hi / 4294967296) == (536936448 : Int)) = false := by rw [beq_eq_false_iff_ne]; omega
  have q8 : ((th) == (24318 : Int)) = false := by rw [beq_eq_false_iff_ne]; omega
  have q9 : ((th) == (33578750 : Int)) = true := by rw [beq_iff_eq]; omega
  clear hlw2 hh hk
  have hc1 : Below w.heap.size w (w.alloc (.cells #[.int .u64 hi, .int .u64 lo] 96)) := (Below.refl _ w).alloc (Nat.le_refl _) _
  go_enter Tryz.func44, Tryz.ntmps44
  go_wp2_with fail
  refine (wide6_any hi lo _).mono ?_
  rintro e x1 ⟨rfl, hb1⟩
  have hc : Below w.heap.size w x1 := hc1.trans (hb1.mono hc1.size)
  have hsz := hc.size
  clear hb1 hc1 hta
  have hown0 := World.ownsRow_nil x1 w.heap.size 92 1
  go_wp2_with (first
    | (at_builtin; refine wp_append1 _ rfl _ _ 89 rfl w.heap.size 92 i0 (.int .u32 0) 4 Tryz.underlying89 hi0 hz0 hz1 hz2 rfl _ 0 _ rfl hown0 (.int .u32 (hi / 65536 % 4294967296)) rfl rfl (by decide) (by decide) hsz ?_; intro v1 y1 hown1 hk1)
    | (at_builtin; refine wp_append1 _ rfl _ _ 89 rfl w.heap.size 92 i0 (.int .u32 0) 4 Tryz.underlying89 hi0 hz0 hz1 hz2 rfl _ 1 _ rfl hown1 (.int .u32 lw) rfl rfl (by decide) (by decide) (hc.trans hk1).size ?_; intro v2 y2 hown2 hk2))
  go_ret
  exact ⟨_, rfl, by rw [HZ.out]; exact hown2, ((hc.trans hk1).trans hk2)⟩
set_option maxRecDepth 100000 in
set_option maxHeartbeats 2000000 in
theorem inner_d_oth (hi lo th lw : Int) (w : World) (hbd : (0 ≤ hi ∧ hi ≤ 18446744073709551615) ∧ (0 ≤ lo ∧ lo ≤ 18446744073709551615)) (hth : lo / 4294967296 = th) (hlw2 : lo % 4294967296 = lw) (hh : hi / 281474976710656 = 8194) (hk : th ≠ 65535 ∧ th ≠ 0 ∧ th ≠ 24318 ∧ th ≠ 33578750) :
    Calls Tryz.prog 44 #[.iface 96 (.agg #[.int .u64 hi, .int .u64 lo])] w (RetFours w (innerZ hi lo)) := by
  obtain ⟨⟨h0, h1⟩, l0, l1⟩ := hbd
  obtain ⟨i0, hi0, hz0, hz1, hz2⟩ := info_parts Tryz.infoFour
  have hta := as66
  have hwl : IntKind.u32.wrap lo = lw := by rw [u32_wrap]; exact hlw2
  have hwd : IntKind.u32.wrap (hi / 65536) = hi / 65536 % 4294967296 := u32_wrap _
  have hwe : IntKind.u32.wrap hi = hi % 4294967296 := u32_wrap _
  have hA : inA hi th lw = [] := if_neg (by omega)
  have hB : inCo hi th lw = [] := if_neg (by omega)
  have hC : inC hi th lw = [] := if_neg (by omega)
  have hD : inD hi = [hi / 65536 % 4294967296] := if_pos (by omega)
  have hE : inE hi lw = [] := if_neg (by omega)
  have hF : inF th lw = [] := if_neg (by omega)
  have HZ : Hid (innerZ hi lo = [hi / 65536 % 4294967296]) := by show innerZ hi lo = _; rw [innerZ, hth, hlw2, hA, hB, hC, hD, hE, hF]; rfl
  clear hA hB hC hD hE hF
  have ht0 : 0 ≤ th := by omega
  have ht1 : th ≤ 4294967295 := by omega
  have hw0 : 0 ≤ lw := by omega
  have hw1 : lw ≤ 4294967295 := by omega
  have q1 : ((hi) == (0 : Int)) = false := by rw [beq_eq_false_iff_ne]; omega
  have q2 : ((th) == (65535 : Int)) = false := by rw [beq_eq_false_iff_ne]; omega
  have q3 : ((th) == (0 : Int)) = false := by rw [beq_eq_false_iff_ne]; omega
  have q5 : ((hi) == (28428538856079360 : Int)) = false := by rw [beq_eq_false_iff_ne]; omega
  have q6 : ((hi / 281474976710656) == (8194 : Int)) = true := by rw [beq_iff_eq]; omega
  have q7 : ((hi / 4294967296) == (536936448 : Int)) = false := by rw [beq_eq_false_iff_ne]; omega
  have q8 : ((th) == (24318 : Int)) = false := by rw [beq_eq_false_iff_ne]; omega
  have q9 : ((th) == (33578750 : Int)) = false := by rw [beq_eq_false_iff_ne]; omega
  clear hlw2 hh hk
  have hc1 : Below w.heap.size w (w.alloc (.cells #[.int .u64 hi, .int .u64 lo] 96)) := (Below.refl _ w).alloc (Nat.le_refl _) _
  go_enter Tryz.func44, Tryz.ntmps44
  go_wp2_with fail
  refine (wide6_any hi lo _).mono ?_
  rintro e x1 ⟨rfl, hb1⟩
  have hc : Below w.heap.size w x1 := hc1.trans (hb1.mono hc1.size)
  have hsz := hc.size
  clear hb1 hc1 hta
  have hown0 := World.ownsRow_nil x1 w.heap.size 92 1
  go_wp2_with (first
    | (at_builtin; refine wp_append1 _ rfl _ _ 89 rfl w.heap.size 92 i0 (.int .u32 0) 4 Tryz.underlying89 hi0 hz0 hz1 hz2 rfl _ 0 _ rfl hown0 (.int .u32 (hi / 65536 % 4294967296)) rfl rfl (by decide) (by decide) hsz ?_; intro v1 y1 hown1 hk1))
  go_ret
  exact ⟨_, rfl, by rw [HZ.out]; exact hown1, (hc.trans hk1)⟩
set_option maxRecDepth 100000 in
set_option maxHeartbeats 2000000 in
theorem inner_e_ffff (hi lo th lw : Int) (w : World) (hbd : (0 ≤ hi ∧ hi ≤ 18446744073709551615) ∧ (0 ≤ lo ∧ lo ≤ 18446744073709551615)) (hth : lo / 4294967296 = th) (hlw2 : lo % 4294967296 = lw) (hh : hi / 4294967296 = 536936448) (hk : th = 65535) :
    Calls Tryz.prog 44 #[.iface 96 (.agg #[.int .u64 hi, .int .u64 lo])] w (RetFours w (innerZ hi lo)) := by
  obtain ⟨⟨h0, h1⟩, l0, l1⟩ := hbd
  obtain ⟨i0, hi0, hz0, hz1, hz2⟩ := info_parts Tryz.infoFour
  have hta := as66
  have hwl : IntKind.u32.wrap lo = lw := by rw [u32_wrap]; exact hlw2
  have hwd : IntKind.u32.wrap (hi / 65536) = hi / 65536 % 4294967296 := u32_wrap _
  have hwe : IntKind.u32.wrap hi = hi % 4294967296 := u32_wrap _
  have hA : inA hi th lw = [] := if_neg (by omega)
  have hB : inCo hi th lw = [] := if_neg (by omega)
  have hC : inC hi th lw = [] := if_neg (by omega)
  have hD : inD hi = [] := if_neg (by omega)
  have hE : inE hi lw = [hi % 4294967296, 4294967295 - lw] := if_pos (by omega)
  have hF : inF th lw = [] := if_neg (by omega)
  have HZ : Hid (innerZ hi lo = [hi % 4294967296, 4294967295 - lw]) := by show innerZ hi lo = _; rw [innerZ, hth, hlw2, hA, hB, hC, hD, hE, hF]; rfl
  clear hA hB hC hD hE hF
  have ht0 : 0 ≤ th := by omega
  have ht1 : th ≤ 4294967295 := by omega
  have hw0 : 0 ≤ lw := by omega
  have hw1 : lw ≤ 4294967295 := by omega
  have q1 : ((hi) == (0 : Int)) = false := by rw [beq_eq_false_iff_ne]; omega
  have q2 : ((th) == (65535 : Int)) = true := by rw [beq_iff_eq]; omega
  have q3 : ((th) == (0 : Int)) = false := by rw [beq_eq_false_iff_ne]; omega
  have q5 : ((hi) == (28428538856079360 : Int)) = false := by rw [beq_eq_false_iff_ne]; omega
  have q6 : ((hi / 281474976710656) == (8194 : Int)) = false := by rw [beq_eq_false_iff_ne]; omega
  have q7 : ((hi / 4294967296) == (536936448 : Int)) = true := by rw [beq_iff_eq]; omega
  have q8 : ((th) == (24318 : Int)) = false := by rw [beq_eq_false_iff_ne]; omega
  have q9 : ((th) == (33578750 : Int)) = false := by rw [beq_eq_false_iff_ne]; omega
  have hxor := xor32 lw hw0 hw1
  clear hlw2 hh hk
  have hc1 : Below w.heap.size w (w.alloc (.cells #[.int .u64 hi, .int .u64 lo] 96)) := (Below.refl _ w).alloc (Nat.le_refl _) _
  go_enter Tryz.func44, Tryz.ntmps44
  go_wp2_with fail
  refine (wide6_any hi lo _).mono ?_
  rintro e x1 ⟨rfl, hb1⟩
  have hc : Below w.heap.size w x1 := hc1.trans (hb1.mono hc1.size)
  have hsz := hc.size
  clear hb1 hc1 hta
  have hown0 := World.ownsRow_nil x1 w.heap.size 92 1
  go_wp2_with (first
    | (at_builtin; refine wp_append2 _ rfl _ _ 89 rfl w.heap.size 92 i0 (.int .u32 0) 4 Tryz.underlying89 hi0 hz0 hz1 hz2 rfl _ 0 _ rfl hown0 (.int .u32 (hi % 4294967296)) (.int .u32 (4294967295 - lw)) rfl rfl rfl (by unfold maxLen; omega) (by omega) hsz ?_; intro v1 y1 hown1 hk1))
  go_ret
  exact ⟨_, rfl, by rw [HZ.out]; exact hown1, (hc.trans hk1)⟩
set_option maxRecDepth 100000 in
set_option maxHeartbeats 2000000 in
theorem inner_e_zero (hi lo th lw : Int) (w : World) (hbd : (0 ≤ hi ∧ hi ≤ 18446744073709551615) ∧ (0 ≤ lo ∧ lo ≤ 18446744073709551615)) (hth : lo / 4294967296 = th) (hlw2 : lo % 4294967296 = lw) (hh : hi / 4294967296 = 536936448) (hk : th = 0) :
    Calls Tryz.prog 44 #[.iface 96 (.agg #[.int .u64 hi, .int .u64 lo])] w (RetFours w (innerZ hi lo)) := by
  obtain ⟨⟨h0, h1⟩, l0, l1⟩ := hbd
  obtain ⟨i0, hi0, hz0, hz1, hz2⟩ := info_parts Tryz.infoFour
  have hta := as66
  have hwl : IntKind.u32.wrap lo = lw := by rw [u32_wrap]; exact hlw2
  have hwd : IntKind.u32.wrap (hi / 65536) = hi / 65536 % 4294967296 := u32_wrap _
  have hwe : IntKind.u32.wrap hi = hi % 4294967296 := u32_wrap _
  have hA : inA hi th lw = [] := if_neg (by omega)
  have hB : inCo hi th lw = [] := if_neg (by omega)
  have hC : inC hi th lw = [] := if_neg (by omega)
  have hD : inD hi = [] := if_neg (by omega)
  have hE : inE hi lw = [hi % 4294967296, 4294967295 - lw] := if_pos (by omega)
  have hF : inF th lw = [] := if_neg (by omega)
  have HZ : Hid (innerZ hi lo = [hi % 4294967296, 4294967295 - lw]) := by show innerZ hi lo = _; rw [innerZ, hth, hlw2, hA, hB, hC, hD, hE, hF]; rfl
  clear hA hB hC hD hE hF
  have ht0 : 0 ≤ th := by omega
  have ht1 : th ≤ 4294967295 := by omega
  have hw0 : 0 ≤ lw := by omega
  have hw1 : lw ≤ 4294967295 := by omega
  have q1 : ((hi) == (0 : Int)) = false := by rw [beq_eq_false_iff_ne]; omega
  have q2 : ((th) == (65535 : Int)) = false := by rw [beq_eq_false_iff_ne]; omega
  have q3 : ((th) == (0 : Int)) = true := by rw [beq_iff_eq]; omega
  have q5 : ((hi) == (28428538856079360 : Int)) = false := by rw [beq_eq_false_iff_ne]; omega
  have q6 : ((hi / 281474976710656) == (8194 : Int)) = false := by rw [beq_eq_false_iff_ne]; omega
  have q7 : ((hi / 4294967296) == (536936448 : Int)) = true := by rw [beq_iff_eq]; omega
  have q8 : ((th) == (24318 : Int)) = false := by rw [beq_eq_false_iff_ne]; omega
  have q9 : ((th) == (33578750 : Int)) = false := by rw [beq_eq_false_iff_ne]; omega
  have hxor := xor32 lw hw0 hw1
  clear hlw2 hh hk
  have hc1 : Below w.heap.size w (w.alloc (.cells #[.int .u64 hi, .int .u64 lo] 96)) := (Below.refl _ w).alloc (Nat.le_refl _) _
  go_enter Tryz.func44, Tryz.ntmps44
  go_wp2_with fail
  refine (wide6_any hi lo _).mono ?_
  rintro e x1 ⟨rfl, hb1⟩
  have hc : Below w.heap.size w x1 := hc1.trans (hb1.mono hc1.size)
  have hsz := hc.size
  clear hb1 hc1 hta
  have hown0 := World.ownsRow_nil x1 w.heap.size 92 1
  go_wp2_with (first
    | (at_builtin; refine wp_append2 _ rfl _ _ 89 rfl w.heap.size 92 i0 (.int .u32 0) 4 Tryz.underlying89 hi0 hz0 hz1 hz2 rfl _ 0 _ rfl hown0 (.int .u32 (hi % 4294967296)) (.int .u32 (4294967295 - lw)) rfl rfl rfl (by unfold maxLen; omega) (by omega) hsz ?_; intro v1 y1 hown1 hk1))
  go_ret
  exact ⟨_, rfl, by rw [HZ.out]; exact hown1, (hc.trans hk1)⟩
set_option maxRecDepth 100000 in
set_option maxHeartbeats 2000000 in
theorem inner_e_i1 (hi lo th lw : Int) (w : World) (hbd : (0 ≤ hi ∧ hi ≤ 18446744073709551615) ∧ (0 ≤ lo ∧ lo ≤ 18446744073709551615)) (hth : lo / 4294967296 = th) (hlw2 : lo % 4294967296 = lw) (hh : hi / 4294967296 = 536936448) (hk : th = 24318) :
    Calls Tryz.prog 44 #[.iface 96 (.agg #[.int .u64 hi, .int .u64 lo])] w (RetFours w (innerZ hi lo)) := by
  obtain ⟨⟨h0, h1⟩, l0, l1⟩ := hbd
  obtain ⟨i0, hi0, hz0, hz1, hz2⟩ := info_parts Tryz.infoFour
  have hta := as66
  have hwl : IntKind.u32.wrap lo = lw := by rw [u32_wrap]; exact hlw2
  have hwd : IntKind.u32.wrap (hi / 65536) = hi / 65536 % 4294967296 := u32_wrap _
  have hwe : IntKind.u32.wrap hi = hi % 4294967296 := u32_wrap _
  have hA : inA hi th lw = [] := if_neg (by omega)
  have hB : inCo hi th lw = [] := if_neg (by omega)
  have hC : inC hi th lw = [] := if_neg (by omega)
  have hD : inD hi = [] := if_neg (by omega)
  have hE : inE hi lw = [hi % 4294967296, 4294967295 - lw] := if_pos (by omega)
  have hF : inF th lw = [lw] := if_pos (by omega)
  have HZ : Hid (innerZ hi lo = [hi % 4294967296, 4294967295 - lw, lw]) := by show innerZ hi lo = _; rw [innerZ, hth, hlw2, hA, hB, hC, hD, hE, hF]; rfl
  clear hA hB hC hD hE hF
  have ht0 : 0 ≤ th := by omega
  have ht1 : th ≤ 4294967295 := by omega
  have hw0 : 0 ≤ lw := by omega
  have hw1 : lw ≤ 4294967295 := by omega
  have q1 : ((hi) == (0 : Int)) = false := by rw [beq_eq_false_iff_ne]; omega
  have q2 : ((th) == (65535 : Int)) = false := by rw [beq_eq_false_iff_ne]; omega
  have q3 : ((th) == (0 : Int)) = false := by rw [beq_eq_false_iff_ne]; omega
  have q5 : ((hi) == (28428538856079360 : Int)) = false := by rw [beq_eq_false_iff_ne]; omega
  have q6 : ((hi / 281474976710656) == (8194 : Int)) = false := by rw [beq_eq_false_iff_ne]; omega
  have q7 : ((hi / 4294967296) == (536936448 : Int)) = true := by rw [beq_iff_eq]; omega
  have q8 : ((th) == (24318 : Int)) = true := by rw [beq_iff_eq]; omega
  have q9 : ((th) == (33578750 : Int)) = false := by rw [beq_eq_false_iff_ne]; omega
  have hxor := xor32 lw hw0 hw1
  clear hlw2 hh hk
  have hc1 : Below w.heap.size w (w.alloc (.cells #[.int .u64 hi, .int .u64 lo] 96)) := (Below.refl _ w).alloc (Nat.le_refl _) _
  go_enter Tryz.func44, Tryz.ntmps44
  go_wp2_with fail
  refine (wide6_any hi lo _).mono ?_
  rintro e x1 ⟨rfl, hb1⟩
  have hc : Below w.heap.size w x1 := hc1.trans (hb1.mono hc1.size)
  have hsz := hc.size
  clear hb1 hc1 hta
  have hown0 := World.ownsRow_nil x1 w.heap.size 92 1
  go_wp2_with (first
    | (at_builtin; refine wp_append2 _ rfl _ _ 89 rfl w.heap.size 92 i0 (.int .u32 0) 4 Tryz.underlying89 hi0 hz0 hz1 hz2 rfl _ 0 _ rfl hown0 (.int .u32 (hi % 4294967296)) (.int .u32 (4294967295 - lw)) rfl rfl rfl (by unfold maxLen; omega) (by omega) hsz ?_; intro v1 y1 hown1 hk1)
    | (at_builtin; refine wp_append1 _ rfl _ _ 89 rfl w.heap.size 92 i0 (.int .u32 0) 4 Tryz.underlying89 hi0 hz0 hz1 hz2 rfl _ 2 _ rfl hown1 (.int .u32 lw) rfl rfl (by decide) (by decide) (hc.trans hk1).size ?_; intro v2 y2 hown2 hk2))
  go_ret
  exact ⟨_, rfl, by rw [HZ.out]; exact hown2, ((hc.trans hk1).trans hk2)⟩
set_option maxRecDepth 100000 in
set_option maxHeartbeats 2000000 in
theorem inner_e_i2 (hi lo th lw : Int) (w : World) (hbd : (0 ≤ hi ∧ hi ≤ 18446744073709551615) ∧ (0 ≤ lo ∧ lo ≤ 18446744073709551615)) (hth : lo / 4294967296 = th) (hlw2 : lo % 4294967296 = lw) (hh : hi / 4294967296 = 536936448) (hk : th = 33578750) :
    Calls Tryz.prog 44 #[.iface 96 (.agg #[.int .u64 hi, .int .u64 lo])] w (RetFours w (innerZ hi lo)) := by
  obtain ⟨⟨h0, h1⟩, l0, l1⟩ := hbd
  obtain ⟨i0, hi0, hz0, hz1, hz2⟩ := info_parts Tryz.infoFour
  have hta := as66
  have hwl : IntKind.u32.wrap lo = lw := by rw [u32_wrap]; exact hlw2
  have hwd : IntKind.u32.wrap (hi / 65536) = hi / 65536 % 4294967296 := u32_wrap _
  have hwe : IntKind.u32.wrap hi = hi % 4294967296 := u32_wrap _
  have hA : inA hi th lw = [] := if_neg (by omega)
  have hB : inCo hi th lw = [] := if_neg (by omega)
  have hC : inC hi th lw = [] := if_neg (by omega)
  have hD : inD hi = [] := if_neg (by omega)
  have hE : inE hi lw = [hi % 4294967296, 4294967295 - lw] := if_pos (by omega)
  have hF : inF th lw = [lw] := if_pos (by omega)
  have HZ : Hid (innerZ hi lo = [hi % 4294967296, 4294967295 - lw, lw]) := by show innerZ hi lo = _; rw [innerZ, hth, hlw2, hA, hB, hC, hD, hE, hF]; rfl
  clear hA hB hC hD hE hF
  have ht0 : 0 ≤ th := by omega
  have ht1 : th ≤ 4294967295 := by omega
  have hw0 : 0 ≤ lw := by omega
  have hw1 : lw ≤ 4294967295 := by omega
  have q1 : ((hi) == (0 : Int)) = false := by rw [beq_eq_false_iff_ne]; omega
  have q2 : ((th) == (65535 : Int)) = false := by rw [beq_eq_false_iff_ne]; omega
  have q3 : ((th) == (0 : Int)) = false := by rw [beq_eq_false_iff_ne]; omega
  have q5 : ((hi) == (28428538856079360 : Int)) = false := by rw [beq_eq_false_iff_ne]; omega
  have q6 : ((hi / 281474976710656) == (8194 : Int)) = false := by rw [beq_eq_false_iff_ne]; omega
  have q7 : ((hi / 4294967296) == (536936448 : Int)) = true := by rw [beq_iff_eq]; omega
  have q8 : ((th) == (24318 : Int)) = false := by rw [beq_eq_false_iff_ne]; omega
  have q9 : ((th) == (33578750 : Int)) = true := by rw [beq_iff_eq]; omega
  have hxor := xor32 lw hw0 hw1
  clear hlw2 hh hk
  have hc1 : Below w.heap.size w (w.alloc (.cells #[.int .u64 hi, .int .u64 lo] 96)) := (Below.refl _ w).alloc (Nat.le_refl _) _
  go_enter Tryz.func44, Tryz.ntmps44
  go_wp2_with fail
  refine (wide6_any hi lo _).mono ?_
  rintro e x1 ⟨rfl, hb1⟩
  have hc : Below w.heap.size w x1 := hc1.trans (hb1.mono hc1.size)
  have hsz := hc.size
  clear hb1 hc1 hta
  have hown0 := World.ownsRow_nil x1 w.heap.size 92 1
  go_wp2_with (first
    | (at_builtin; refine wp_append2 _ rfl _ _ 89 rfl w.heap.size 92 i0 (.int .u32 0) 4 Tryz.underlying89 hi0 hz0 hz1 hz2 rfl _ 0 _ rfl hown0 (.int .u32 (hi % 4294967296)) (.int .u32 (4294967295 - lw)) rfl rfl rfl (by unfold maxLen; omega) (by omega) hsz ?_; intro v1 y1 hown1 hk1)
    | (at_builtin; refine wp_append1 _ rfl _ _ 89 rfl w.heap.size 92 i0 (.int .u32 0) 4 Tryz.underlying89 hi0 hz0 hz1 hz2 rfl _ 2 _ rfl hown1 (.int .u32 lw) rfl rfl (by decide) (by decide) (hc.trans hk1).size ?_; intro v2 y2 hown2 hk2))
  go_ret
  exact ⟨_, rfl, by rw [HZ.out]; exact hown2, ((hc.trans hk1).trans hk2)⟩
set_option maxRecDepth 100000 in
set_option maxHeartbeats 2000000 in
theorem inner_e_oth (hi lo th lw : Int) (w : World) (hbd : (0 ≤ hi ∧ hi ≤ 18446744073709551615) ∧ (0 ≤ lo ∧ lo ≤ 18446744073709551615)) (hth : lo / 4294967296 = th) (hlw2 : lo % 4294967296 = lw) (hh : hi / 4294967296 = 536936448) (hk : th ≠ 65535 ∧ th ≠ 0 ∧ th ≠ 24318 ∧ th ≠ 33578750) :
    Calls Tryz.prog 44 #[.iface 96 (.agg #[.int .u64 hi, .int .u64 lo])] w (RetFours w (innerZ hi lo)) := by
  obtain ⟨⟨h0, h1⟩, l0, l1⟩ := hbd
  obtain ⟨i0, hi0, hz0, hz1, hz2⟩ := info_parts Tryz.infoFour
  have hta := as66
  have hwl : IntKind.u32.wrap lo = lw := by rw [u32_wrap]; exact hlw2
  have hwd : IntKind.u32.wrap (hi / 65536) = hi / 65536 % 4294967296 := u32_wrap _
  have hwe : IntKind.u32.wrap hi = hi % 4294967296 := u32_wrap _
  have hA : inA hi th lw = [] := if_neg (by omega)
  have hB : inCo hi th lw = [] := if_neg (by omega)
  have hC : inC hi th lw = [] := if_neg (by omega)
  have hD : inD hi = [] := if_neg (by omega)
  have hE : inE hi lw = [hi % 4294967296, 4294967295 - lw] := if_pos (by omega)
  have hF : inF th lw = [] := if_neg (by omega)
  have HZ : Hid (innerZ hi lo = [hi % 4294967296, 4294967295 - lw]) := by show innerZ hi lo = _; rw [innerZ, hth, hlw2, hA, hB, hC, hD, hE, hF]; rfl
  clear hA hB hC hD hE hF
  have ht0 : 0 ≤ th := by omega
  have ht1 : th ≤ 4294967295 := by omega
  have hw0 : 0 ≤ lw := by omega
  have hw1 : lw ≤ 4294967295 := by omega
  have q1 : ((hi) == (0 : Int)) = false := by rw [beq_eq_false_iff_ne]; omega
  have q2 : ((th) == (65535 : Int)) = false := by rw [beq_eq_false_iff_ne]; omega
  have q3 : ((th) == (0 : Int)) = false := by rw [beq_eq_false_iff_ne]; omega
  have q5 : ((hi) == (28428538856079360 : Int)) = false := by rw [beq_eq_false_iff_ne]; omega
  have q6 : ((hi / 281474976710656) == (8194 : Int)) = false := by rw [beq_eq_false_iff_ne]; omega
  have q7 : ((hi / 4294967296) == (536936448 : Int)) = true := by rw [beq_iff_eq]; omega
  have q8 : ((th) == (24318 : Int)) = false := by rw [beq_eq_false_iff_ne]; omega
  have q9 : ((th) == (33578750 : Int)) = false := by rw [beq_eq_false_iff_ne]; omega
  have hxor := xor32 lw hw0 hw1
  clear hlw2 hh hk
  have hc1 : Below w.heap.size w (w.alloc (.cells #[.int .u64 hi, .int .u64 lo] 96)) := (Below.refl _ w).alloc (Nat.le_refl _) _
  go_enter Tryz.func44, Tryz.ntmps44
  go_wp2_with fail
  refine (wide6_any hi lo _).mono ?_
  rintro e x1 ⟨rfl, hb1⟩
  have hc : Below w.heap.size w x1 := hc1.trans (hb1.mono hc1.size)
  have hsz := hc.size
  clear hb1 hc1 hta
  have hown0 := World.ownsRow_nil x1 w.heap.size 92 1
  go_wp2_with (first
    | (at_builtin; refine wp_append2 _ rfl _ _ 89 rfl w.heap.size 92 i0 (.int .u32 0) 4 Tryz.underlying89 hi0 hz0 hz1 hz2 rfl _ 0 _ rfl hown0 (.int .u32 (hi % 4294967296)) (.int .u32 (4294967295 - lw)) rfl rfl rfl (by unfold maxLen; omega) (by omega) hsz ?_; intro v1 y1 hown1 hk1))
  go_ret
  exact ⟨_, rfl, by rw [HZ.out]; exact hown1, (hc.trans hk1)⟩
set_option maxRecDepth 100000 in
set_option maxHeartbeats 2000000 in
theorem inner_oth_ffff (hi lo th lw : Int) (w : World) (hbd : (0 ≤ hi ∧ hi ≤ 18446744073709551615) ∧ (0 ≤ lo ∧ lo ≤ 18446744073709551615)) (hth : lo / 4294967296 = th) (hlw2 : lo % 4294967296 = lw) (hh : hi ≠ 0 ∧ hi ≠ 28428538856079360 ∧ hi / 281474976710656 ≠ 8194 ∧ hi / 4294967296 ≠ 536936448) (hk : th = 65535) :
    Calls Tryz.prog 44 #[.iface 96 (.agg #[.int .u64 hi, .int .u64 lo])] w (RetFours w (innerZ hi lo)) := by
  obtain ⟨⟨h0, h1⟩, l0, l1⟩ := hbd
  obtain ⟨i0, hi0, hz0, hz1, hz2⟩ := info_parts Tryz.infoFour
  have hta := as66
  have hwl : IntKind.u32.wrap lo = lw := by rw [u32_wrap]; exact hlw2
  have hwd : IntKind.u32.wrap (hi / 65536) = hi / 65536 % 4294967296 := u32_wrap _
  have hwe : IntKind.u32.wrap hi = hi % 4294967296 := u32_wrap _
  have hA : inA hi th lw = [] := if_neg (by omega)
  have hB : inCo hi th lw = [] := if_neg (by omega)
  have hC : inC hi th lw = [] := if_neg (by omega)
  have hD : inD hi = [] := if_neg (by omega)
  have hE : inE hi lw = [] := if_neg (by omega)
  have hF : inF th lw = [] := if_neg (by omega)
  have HZ : Hid (innerZ hi lo = []) := by show innerZ hi lo = _; rw [innerZ, hth, hlw2, hA, hB, hC, hD, hE, hF]; rfl
  clear hA hB hC hD hE hF
  have ht0 : 0 ≤ th := by omega
  have ht1 : th ≤ 4294967295 := by omega
  have hw0 : 0 ≤ lw := by omega
  have hw1 : lw ≤ 4294967295 := by omega
  have q1 : ((hi) == (0 : Int)) = false := by rw [beq_eq_false_iff_ne]; omega
  have q2 : ((th) == (65535 : Int)) = true := by rw [beq_iff_eq]; omega
  have q3 : ((th) == (0 : Int)) = false := by rw [beq_eq_false_iff_ne]; omega
  have q5 : ((hi) == (28428538856079360 : Int)) = false := by rw [beq_eq_false_iff_ne]; omega
  have q6 : ((hi / 281474976710656) == (8194 : Int)) = false := by rw [beq_eq_false_iff_ne]; omega
  have q7 : ((hi / 4294967296) == (536936448 : Int)) = false := by rw [beq_eq_false_iff_ne]; omega
  have q8 : ((th) == (24318 : Int)) = false := by rw [beq_eq_false_iff_ne]; omega
  have q9 : ((th) == (33578750 : Int)) = false := by rw [beq_eq_false_iff_ne]; omega
  clear hlw2 hh hk
  have hc1 : Below w.heap.size w (w.alloc (.cells #[.int .u64 hi, .int .u64 lo] 96)) := (Below.refl _ w).alloc (Nat.le_refl _) _
  go_enter Tryz.func44, Tryz.ntmps44
  go_wp2_with fail
  refine (wide6_any hi lo _).mono ?_
  rintro e x1 ⟨rfl, hb1⟩
  have hc : Below w.heap.size w x1 := hc1.trans (hb1.mono hc1.size)
  have hsz := hc.size
  clear hb1 hc1 hta
  have hown0 := World.ownsRow_nil x1 w.heap.size 92 1
  go_wp2
  go_ret
  exact ⟨_, rfl, by rw [HZ.out]; exact Nums.nil _ _ _ _, hc⟩
set_option maxRecDepth 100000 in
set_option maxHeartbeats 2000000 in
theorem inner_oth_zero (hi lo th lw : Int) (w : World) (hbd : (0 ≤ hi ∧ hi ≤ 18446744073709551615) ∧ (0 ≤ lo ∧ lo ≤ 18446744073709551615)) (hth : lo / 4294967296 = th) (hlw2 : lo % 4294967296 = lw) (hh : hi ≠ 0 ∧ hi ≠ 28428538856079360 ∧ hi / 281474976710656 ≠ 8194 ∧ hi / 4294967296 ≠ 536936448) (hk : th = 0) :
    Calls Tryz.prog 44 #[.iface 96 (.agg #[.int .u64 hi, .int .u64 lo])] w (RetFours w (innerZ hi lo)) := by
  obtain ⟨⟨h0, h1⟩, l0, l1⟩ := hbd
  obtain ⟨i0, hi0, hz0, hz1, hz2⟩ := info_parts Tryz.infoFour
  have hta := as66
  have hwl : IntKind.u32.wrap lo = lw := by rw [u32_wrap]; exact hlw2
  have hwd : IntKind.u32.wrap (hi / 65536) = hi / 65536 % 4294967296 := u32_wrap _
  have hwe : IntKind.u32.wrap hi = hi % 4294967296 := u32_wrap _
  have hA : inA hi th lw = [] := if_neg (by omega)
  have hB : inCo hi th lw = [] := if_neg (by omega)
  have hC : inC hi th lw = [] := if_neg (by omega)
  have hD : inD hi = [] := if_neg (by omega)
  have hE : inE hi lw = [] := if_neg (by omega)
  have hF : inF th lw = [] := if_neg (by omega)
  have HZ : Hid (innerZ hi lo = []) := by show innerZ hi lo = _; rw [innerZ, hth, hlw2, hA, hB, hC, hD, hE, hF]; rfl
  clear hA hB hC hD hE hF
  have ht0 : 0 ≤ th := by omega
  have ht1 : th ≤ 4294967295 := by omega
  have hw0 : 0 ≤ lw := by omega
  have hw1 : lw ≤ 4294967295 := by omega
  have q1 : ((hi) == (0 : Int)) = false := by rw [beq_eq_false_iff_ne]; omega
  have q2 : ((th) == (65535 : Int)) = false := by rw [beq_eq_false_iff_ne]; omega
  have q3 : ((th) == (0 : Int)) = true := by rw [beq_iff_eq]; omega
  have q5 : ((hi) == (28428538856079360 : Int)) = false := by rw [beq_eq_false_iff_ne]; omega
  have q6 : ((hi / 281474976710656) == (8194 : Int)) = false := by rw [beq_eq_false_iff_ne]; omega
  have q7 : ((hi / 4294967296) == (536936448 : Int)) = false := by rw [beq_eq_false_iff_ne]; omega
  have q8 : ((th) == (24318 : Int)) = false := by rw [beq_eq_false_iff_ne]; omega
  have q9 : ((th) == (33578750 : Int)) = false := by rw [beq_eq_false_iff_ne]; omega
  clear hlw2 hh hk
  have hc1 : Below w.heap.size w (w.alloc (.cells #[.int .u64 hi, .int .u64 lo] 96)) := (Below.refl _ w).alloc (Nat.le_refl _) _
  go_enter Tryz.func44, Tryz.ntmps44
  go_wp2_with fail
  refine (wide6_any hi lo _).mono ?_
  rintro e x1 ⟨rfl, hb1⟩
  have hc : Below w.heap.size w x1 := hc1.trans (hb1.mono hc1.size)
  have hsz := hc.size
  clear hb1 hc1 hta
  have hown0 := World.ownsRow_nil x1 w.heap.size 92 1
  go_wp2
  go_ret
  exact ⟨_, rfl, by rw [HZ.out]; exact Nums.nil _ _ _ _, hc⟩
set_option maxRecDepth 100000 in
set_option maxHeartbeats 2000000 in
theorem inner_oth_i1 (hi lo th lw : Int) (w : World) (hbd : (0 ≤ hi ∧ hi ≤ 18446744073709551615) ∧ (0 ≤ lo ∧ lo ≤ 18446744073709551615)) (hth : lo / 4294967296 = th) (hlw2 : lo % 4294967296 = lw) (hh : hi ≠ 0 ∧ hi ≠ 28428538856079360 ∧ hi / 281474976710656 ≠ 8194 ∧ hi / 4294967296 ≠ 536936448) (hk : th = 24318) :
    Calls Tryz.prog 44 #[.iface 96 (.agg #[.int .u64 hi, .int .u64 lo])] w (RetFours w (innerZ hi lo)) := by
  obtain ⟨⟨h0, h1⟩, l0, l1⟩ := hbd
  obtain ⟨i0, hi0, hz0, hz1, hz2⟩ := info_parts Tryz.infoFour
  have hta := as66
  have hwl : IntKind.u32.wrap lo = lw := by rw [u32_wrap]; exact hlw2
  have hwd : IntKind.u32.wrap (hi / 65536) = hi / 65536 % 4294967296 := u32_wrap _
  have hwe : IntKind.u32.wrap hi = hi % 4294967296 := u32_wrap _
  have hA : inA hi th lw = [] := if_neg (by omega)
  have hB : inCo hi th lw = [] := if_neg (by omega)
  have hC : inC hi th lw = [] := if_neg (by omega)
  have hD : inD hi = [] := if_neg (by omega)
  have hE : inE hi lw = [] := if_neg (by omega)
  have hF : inF th lw = [lw] := if_pos (by omega)
  have HZ : Hid (innerZ hi lo = [lw]) := by show innerZ hi lo = _; rw [innerZ, hth, hlw2, hA, hB, hC, hD, hE, hF]; rfl
  clear hA hB hC hD hE hF
  have ht0 : 0 ≤ th := by omega
  have ht1 : th ≤ 4294967295 := by omega
  have hw0 : 0 ≤ lw := by omega
  have hw1 : lw ≤ 4294967295 := by omega
  have q1 : ((hi) == (0 : Int)) = false := by rw [beq_eq_false_iff_ne]; omega
  have q2 : ((th) == (65535 : Int)) = false := by rw [beq_eq_false_iff_ne]; omega
  have q3 : ((th) == (0 : Int)) = false := by rw [beq_eq_false_iff_ne]; omega
  have q5 : ((hi) == (28428538856079360 : Int)) = false := by rw [beq_eq_false_iff_ne]; omega
  have q6 : ((hi / 281474976710656) == (8194 : Int)) = false := by rw [beq_eq_false_iff_ne]; omega
  have q7 : ((hi / 4294967296) == (536936448 : Int)) = false := by rw [beq_eq_false_iff_ne]; omega
  have q8 : ((th) == (24318 : Int)) = true := by rw [beq_iff_eq]; omega
  have q9 : ((th) == (33578750 : Int)) = false := by rw [beq_eq_false_iff_ne]; omega
  clear hlw2 hh hk
  have hc1 : Below w.heap.size w (w.alloc (.cells #[.int .u64 hi, .int .u64 lo] 96)) := (Below.refl _ w).alloc (Nat.le_refl _) _
  go_enter Tryz.func44, Tryz.ntmps44
  go_wp2_with fail
  refine (wide6_any hi lo _).mono ?_
  rintro e x1 ⟨rfl, hb1⟩
  have hc : Below w.heap.size w x1 := hc1.trans (hb1.mono hc1.size)
  have hsz := hc.size
  clear hb1 hc1 hta
  have hown0 := World.ownsRow_nil x1 w.heap.size 92 1
  go_wp2_with (first
    | (at_builtin; refine wp_append1 _ rfl _ _ 89 rfl w.heap.size 92 i0 (.int .u32 0) 4 Tryz.underlying89 hi0 hz0 hz1 hz2 rfl _ 0 _ rfl hown0 (.int .u32 lw) rfl rfl (by decide) (by decide) hsz ?_; intro v1 y1 hown1 hk1))
  go_ret
  exact ⟨_, rfl, by rw [HZ.out]; exact hown1, (hc.trans hk1)⟩
set_option maxRecDepth 100000 in
set_option maxHeartbeats 2000000 in
theorem inner_oth_i2 (hi lo th lw : Int) (w : World) (hbd : (0 ≤ hi ∧ hi ≤ 18446744073709551615) ∧ (0 ≤ lo ∧ lo ≤ 18446744073709551615)) (hth : lo / 4294967296 = th) (hlw2 : lo % 4294967296 = lw) (hh : hi ≠ 0 ∧ hi ≠ 28428538856079360 ∧ hi / 281474976710656 ≠ 8194 ∧ hi / 4294967296 ≠ 536936448) (hk : th = 33578750) :
    Calls Tryz.prog 44 #[.iface 96 (.agg #[.int .u64 hi, .int .u64 lo])] w (RetFours w (innerZ hi lo)) := by
  obtain ⟨⟨h0, h1⟩, l0, l1⟩ := hbd
  obtain ⟨i0, hi0, hz0, hz1, hz2⟩ := info_parts Tryz.infoFour
  have hta := as66
  have hwl : IntKind.u32.wrap lo = lw := by rw [u32_wrap]; exact hlw2
  have hwd : IntKind.u32.wrap (hi / 65536) = hi / 65536 % 4294967296 := u32_wrap _
  have hwe : IntKind.u32.wrap hi = hi % 4294967296 := u32_wrap _
  have hA : inA hi th lw = [] := if_neg (by omega)
  have hB : inCo hi th lw = [] := if_neg (by omega)
  have hC : inC hi th lw = [] := if_neg (by omega)
  have hD : inD hi = [] := if_neg (by omega)
  have hE : inE hi lw = [] := if_neg (by omega)
  have hF : inF th lw = [lw] := if_pos (by omega)
  have HZ : Hid (innerZ hi lo = [lw]) := by show innerZ hi lo = _; rw [innerZ, hth, hlw2, hA, hB, hC, hD, hE, hF]; rfl
  clear hA hB hC hD hE hF
  have ht0 : 0 ≤ th := by omega
  have ht1 : th ≤ 4294967295 := by omega
  have hw0 : 0 ≤ lw := by omega
  have hw1 : lw ≤ 4294967295 := by omega
  have q1 : ((hi) == (0 : Int)) = false := by rw [beq_eq_false_iff_ne]; omega
  have q2 : ((th) == (65535 : Int)) = false := by rw [beq_eq_false_iff_ne]; omega
  have q3 : ((th) == (0 : Int)) = false := by rw [beq_eq_false_iff_ne]; omega
  have q5 : ((hi) == (28428538856079360 : Int)) = false := by rw [beq_eq_false_iff_ne]; omega
  have q6 : ((hi / 281474976710656) == (8194 : Int)) = false := by rw [beq_eq_false_iff_ne]; omega
  have q7 : ((hi / 4294967296) == (536936448 : Int)) = false := by rw [beq_eq_false_iff_ne]; omega
  have q8 : ((th) == (24318 : Int)) = false := by rw [beq_eq_false_iff_ne]; omega
  have q9 : ((th) == (33578750 : Int)) = true := by rw [beq_iff_eq]; omega
  clear hlw2 hh hk
  have hc1 : Below w.heap.size w (w.alloc (.cells #[.int .u64 hi, .int .u64 lo] 96)) := (Below.refl _ w).alloc (Nat.le_refl _) _
  go_enter Tryz.func44, Tryz.ntmps44
  go_wp2_with fail
  refine (wide6_any hi lo _).mono ?_
  rintro e x1 ⟨rfl, hb1⟩
  have hc : Below w.heap.size w x1 := hc1.trans (hb1.mono hc1.size)
  have hsz := hc.size
  clear hb1 hc1 hta
  have hown0 := World.ownsRow_nil x1 w.heap.size 92 1
  go_wp2_with (first
    | (at_builtin; refine wp_append1 _ rfl _ _ 89 rfl w.heap.size 92 i0 (.int .u32 0) 4 Tryz.underlying89 hi0 hz0 hz1 hz2 rfl _ 0 _ rfl hown0 (.int .u32 lw) rfl rfl (by decide) (by decide) hsz ?_; intro v1 y1 hown1 hk1))
  go_ret
  exact ⟨_, rfl, by rw [HZ.out]; exact hown1, (hc.trans hk1)⟩
set_option maxRecDepth 100000 in
set_option maxHeartbeats 2000000 in
theorem inner_oth_oth (hi lo th lw : Int) (w : World) (hbd : (0 ≤ hi ∧ hi ≤ 18446744073709551615) ∧ (0 ≤ lo ∧ lo ≤ 18446744073709551615)) (hth : lo / 4294967296 = th) (hlw2 : lo % 4294967296 = lw) (hh : hi ≠ 0 ∧ hi ≠ 28428538856079360 ∧ hi / 281474976710656 ≠ 8194 ∧ hi / 4294967296 ≠ 536936448) (hk : th ≠ 65535 ∧ th ≠ 0 ∧ th ≠ 24318 ∧ th ≠ 33578750) :
    Calls Tryz.prog 44 #[.iface 96 (.agg #[.int .u64 hi, .int .u64 lo])] w (RetFours w (innerZ hi lo)) := by
  obtain ⟨⟨h0, h1⟩, l0, l1⟩ := hbd
  obtain ⟨i0, hi0, hz0, hz1, hz2⟩ := info_parts Tryz.infoFour
  have hta := as66
  have hwl : IntKind.u32.wrap lo = lw := by rw [u32_wrap]; exact hlw2
  have hwd : IntKind.u32.wrap (hi / 65536) = hi / 65536 % 4294967296 := u32_wrap _
  have hwe : IntKind.u32.wrap hi = hi % 4294967296 := u32_wrap _
  have hA : inA hi th lw = [] := if_neg (by omega)
  have hB : inCo hi th lw = [] := if_neg (by omega)
  have hC : inC hi th lw = [] := if_neg (by omega)
  have hD : inD hi = [] := if_neg (by omega)
  have hE : inE hi lw = [] := if_neg (by omega)
  have hF : inF th lw = [] := if_neg (by omega)
  have HZ : Hid (innerZ hi lo = []) := by show innerZ hi lo = _; rw [innerZ, hth, hlw2, hA, hB, hC, hD, hE, hF]; rfl
  clear hA hB hC hD hE hF
  have ht0 : 0 ≤ th := by omega
  have ht1 : th ≤ 4294967295 := by omega
  have hw0 : 0 ≤ lw := by omega
  have hw1 : lw ≤ 4294967295 := by omega
  have q1 : ((hi) == (0 : Int)) = false := by rw [beq_eq_false_iff_ne]; omega
  have q2 : ((th) == (65535 : Int)) = false := by rw [beq_eq_false_iff_ne]; omega
  have q3 : ((th) == (0 : Int)) = false := by rw [beq_eq_false_iff_ne]; omega
  have q5 : ((hi) == (28428538856079360 : Int)) = false := by rw [beq_eq_false_iff_ne]; omega
  have q6 : ((hi / 281474976710656) == (8194 : Int)) = false := by rw [beq_eq_false_iff_ne]; omega
  have q7 : ((hi / 4294967296) == (536936448 : Int)) = false := by rw [beq_eq_false_iff_ne]; omega
  have q8 : ((th) == (24318 : Int)) = false := by rw [beq_eq_false_iff_ne]; omega
  have q9 : ((th) == (33578750 : Int)) = false := by rw [beq_eq_false_iff_ne]; omega
  clear hlw2 hh hk
  have hc1 : Below w.heap.size w (w.alloc (.cells #[.int .u64 hi, .int .u64 lo] 96)) := (Below.refl _ w).alloc (Nat.le_refl _) _
  go_enter Tryz.func44, Tryz.ntmps44
  go_wp2_with fail
  refine (wide6_any hi lo _).mono ?_
  rintro e x1 ⟨rfl, hb1⟩
  have hc : Below w.heap.size w x1 := hc1.trans (hb1.mono hc1.size)
  have hsz := hc.size
  clear hb1 hc1 hta
  have hown0 := World.ownsRow_nil x1 w.heap.size 92 1
  go_wp2
  go_ret
  exact ⟨_, rfl, by rw [HZ.out]; exact Nums.nil _ _ _ _, hc⟩
theorem inner_six (hi lo : Int) (w : World) (h0 : 0 ≤ hi) (h1 : hi ≤ 18446744073709551615) (l0 : 0 ≤ lo) (l1 : lo ≤ 18446744073709551615) :
    Calls Tryz.prog 44 #[.iface 96 (.agg #[.int .u64 hi, .int .u64 lo])] w (RetFours w (innerZ hi lo)) := by
  obtain ⟨th, hth⟩ : ∃ th, lo / 4294967296 = th := ⟨_, rfl⟩
  obtain ⟨lw, hlw⟩ : ∃ lw, lo % 4294967296 = lw := ⟨_, rfl⟩
  rcases (show hi = 0 ∨ hi = 28428538856079360 ∨ hi / 281474976710656 = 8194 ∨ hi / 4294967296 = 536936448 ∨ (hi ≠ 0 ∧ hi ≠ 28428538856079360 ∧ hi / 281474976710656 ≠ 8194 ∧ hi / 4294967296 ≠ 536936448) from by omega) with hh | hh | hh | hh | hh
  · rcases (show th = 65535 ∨ th = 0 ∨ th = 24318 ∨ th = 33578750 ∨ (th ≠ 65535 ∧ th ≠ 0 ∧ th ≠ 24318 ∧ th ≠ 33578750) from by omega) with hk | hk | hk | hk | hk
    · exact inner_zero_ffff hi lo th lw w ⟨⟨h0, h1⟩, l0, l1⟩ hth hlw hh hk
    · by_cases hl : 1 < lw
      · exact inner_zero_zero_lw hi lo th lw w ⟨⟨h0, h1⟩, l0, l1⟩ hth hlw hh hk hl
      · exact inner_zero_zero hi lo th lw w ⟨⟨h0, h1⟩, l0, l1⟩ hth hlw hh hk (by omega)
    · exact inner_zero_i1 hi lo th lw w ⟨⟨h0, h1⟩, l0, l1⟩ hth hlw hh hk
    · exact inner_zero_i2 hi lo th lw w ⟨⟨h0, h1⟩, l0, l1⟩ hth hlw hh hk
    · exact inner_zero_oth hi lo th lw w ⟨⟨h0, h1⟩, l0, l1⟩ hth hlw hh hk
  · rcases (show th = 65535 ∨ th = 0 ∨ th = 24318 ∨ th = 33578750 ∨ (th ≠ 65535 ∧ th ≠ 0 ∧ th ≠ 24318 ∧ th ≠ 33578750) from by omega) with hk | hk | hk | hk | hk
    · exact inner_tr_ffff hi lo th lw w ⟨⟨h0, h1⟩, l0, l1⟩ hth hlw hh hk
    · exact inner_tr_zero hi lo th lw w ⟨⟨h0, h1⟩, l0, l1⟩ hth hlw hh hk
    · exact inner_tr_i1 hi lo th lw w ⟨⟨h0, h1⟩, l0, l1⟩ hth hlw hh hk
    · exact inner_tr_i2 hi lo th lw w ⟨⟨h0, h1⟩, l0, l1⟩ hth hlw hh hk
    · exact inner_tr_oth hi lo th lw w ⟨⟨h0, h1⟩, l0, l1⟩ hth hlw hh hk
  · rcases (show th = 65535 ∨ th = 0 ∨ th = 24318 ∨ th = 33578750 ∨ (th ≠ 65535 ∧ th ≠ 0 ∧ th ≠ 24318 ∧ th ≠ 33578750) from by omega) with hk | hk | hk | hk | hk
    · exact inner_d_ffff hi lo th lw w ⟨⟨h0, h1⟩, l0, l1⟩ hth hlw hh hk
    · exact inner_d_zero hi lo th lw w ⟨⟨h0, h1⟩, l0, l1⟩ hth hlw hh hk
    · exact inner_d_i1 hi lo th lw w ⟨⟨h0, h1⟩, l0, l1⟩ hth hlw hh hk
    · exact inner_d_i2 hi lo th lw w ⟨⟨h0, h1⟩, l0, l1⟩ hth hlw hh hk
    · exact inner_d_oth hi lo th lw w ⟨⟨h0, h1⟩, l0, l1⟩ hth hlw hh hk
  · rcases (show th = 65535 ∨ th = 0 ∨ th = 24318 ∨ th = 33578750 ∨ (th ≠ 65535 ∧ th ≠ 0 ∧ th ≠ 24318 ∧ th ≠ 33578750) from by omega) with hk | hk | hk | hk | hk
    · exact inner_e_ffff hi lo th lw w ⟨⟨h0, h1⟩, l0, l1⟩ hth hlw hh hk
    · exact inner_e_zero hi lo th lw w ⟨⟨h0, h1⟩, l0, l1⟩ hth hlw hh hk
    · exact inner_e_i1 hi lo th lw w ⟨⟨h0, h1⟩, l0, l1⟩ hth hlw hh hk
    · exact inner_e_i2 hi lo th lw w ⟨⟨h0, h1⟩, l0, l1⟩ hth hlw hh hk
    · exact inner_e_oth hi lo th lw w ⟨⟨h0, h1⟩, l0, l1⟩ hth hlw hh hk
  · rcases (show th = 65535 ∨ th = 0 ∨ th = 24318 ∨ th = 33578750 ∨ (th ≠ 65535 ∧ th ≠ 0 ∧ th ≠ 24318 ∧ th ≠ 33578750) from by omega) with hk | hk | hk | hk | hk
    · exact inner_oth_ffff hi lo th lw w ⟨⟨h0, h1⟩, l0, l1⟩ hth hlw hh hk
    · exact inner_oth_zero hi lo th lw w ⟨⟨h0, h1⟩, l0, l1⟩ hth hlw hh hk
    · exact inner_oth_i1 hi lo th lw w ⟨⟨h0, h1⟩, l0, l1⟩ hth hlw hh hk
    · exact inner_oth_i2 hi lo th lw w ⟨⟨h0, h1⟩, l0, l1⟩ hth hlw hh hk
    · exact inner_oth_oth hi lo th lw w ⟨⟨h0, h1⟩, l0, l1⟩ hth hlw hh hk
end
section
open Go.RowKit
set_option maxRecDepth 100000 in
set_option maxHeartbeats 1000000 in
theorem equalF_any (v1 v2 : Value) (l1 l2 : List Int) (w : World) (h1 : RowR w v1 (l1.map (Value.int .u32))) (h2 : RowR w v2 (l2.map (Value.int .u32)))
    (hl1 : l1.length ≤ 1073741824) :
    Calls Tryz.prog 176 #[v1, v2] w fun e w' => e = .returned (.bool (decide (l1 = l2))) ∧ ∃ n, w' = w.drewN n := by
  obtain ⟨a1, c1, rfl, hc1⟩ := h1
  obtain ⟨a2, c2, rfl, hc2⟩ := h2
  simp only [List.length_map]
  have HC1 := Lib.hid hc1
  have HC2 := Lib.hid hc2
  clear hc1 hc2
  by_cases hne : l1.length = l2.length
  · have HL := Lib.hid hne
    have hle1 : l1.length ≤ l2.length := by omega
    have hle2 : l2.length ≤ l1.length := by omega
    have hb : ((l1.length : Int) != (l2.length : Int)) = false := by simp [hne]
    clear hne
    go_enter Tryz.func176, Tryz.ntmps176
    go_wp2
    go_loopw [13] (fun i wr => ∃ k m : Nat, k ≤ l1.length ∧ i = .int .i64 k ∧ wr = w.drewN m ∧ Hid (l1.take k = l2.take k)) (fun i _ => l1.length - (intOf i).toNat)
    case atStart => exact ⟨0, 0, Nat.zero_le _, rfl, rfl, rfl⟩
    case round =>
      obtain ⟨k, m, hk, rfl, rfl, H⟩ := hrel
      by_cases hlt : k < l1.length
      · have hlt2 : k < l2.length := by omega
        obtain ⟨x, hx⟩ : ∃ x, x = l1[k] := ⟨_, rfl⟩
        obtain ⟨y, hy⟩ : ∃ y, y = l2[k] := ⟨_, rfl⟩
        obtain ⟨d1, rfl, hd1⟩ := HC1.out k (.int .u32 x) (by simp [hx, hlt])
        obtain ⟨d2, rfl, hd2⟩ := HC2.out k (.int .u32 y) (by simp [hy, hlt2])
        have HX := Lib.hid hx
        have HY := Lib.hid hy
        clear hx hy
        by_cases hxy : x = y
        · subst hxy
          go_wp2
          go_quiet (fail)
          go_wp2
          go_roundw
          case rel =>
            exact ⟨k + 1, _, by omega, by go_num, rfl, take_next H.out hlt hlt2 (HX.out.symm.trans HY.out)⟩
          case measure => simp [intOf]; omega
        · have hb1 : (x != y) = true := by simp [hxy]
          have hfin : decide (l1 = l2) = false := by
            refine decide_eq_false fun e => hxy ?_
            rw [HX.out, HY.out]
            simp only [e]
          have HF := Lib.hid hfin
          clear hfin
          go_wp2
          go_quiet (fail)
          go_wp2
          go_ret
          exact ⟨ret_bool HF.out.symm, _, World.drewN_drewN _ _ _⟩
      · have hfin : decide (l1 = l2) = true := by
          refine decide_eq_true ?_
          have := H.out
          rwa [List.take_of_length_le (by omega), List.take_of_length_le (by omega)] at this
        have HF := Lib.hid hfin
        clear hfin
        go_wp2
        go_ret
        exact ⟨ret_bool HF.out.symm, m, rfl⟩
  · have hb : ((l1.length : Int) != (l2.length : Int)) = true := by simp; omega
    have hfin : decide (l1 = l2) = false := decide_eq_false fun e => hne (by rw [e])
    have HF := Lib.hid hfin
    clear hfin
    go_enter Tryz.func176, Tryz.ntmps176
    go_wp2
    go_ret
    exact ⟨ret_bool HF.out.symm, 0, rfl⟩
theorem a6_a : addrZ [58, 58, 102, 102, 102, 102, 58, 55, 102, 48, 48, 58, 49] = some (.six 0 281472812449793) := by
  unfold addrZ
  rw [show strictZ [58, 58, 102, 102, 102, 102, 58, 55, 102, 48, 48, 58, 49] = (0, false) from by decide +kernel, show sixZ [58, 58, 102, 102, 102, 102, 58, 55, 102, 48, 48, 58, 49] = ((0, 281472812449793), true) from by decide +kernel]
  rfl
theorem a6_b : addrZ [50, 48, 48, 50, 58, 55, 102, 48, 48, 58, 49, 58, 58] = some (.six 2306545597143908352 0) := by
  unfold addrZ
  rw [show strictZ [50, 48, 48, 50, 58, 55, 102, 48, 48, 58, 49, 58, 58] = (0, false) from by decide +kernel, show sixZ [50, 48, 48, 50, 58, 55, 102, 48, 48, 58, 49, 58, 58] = ((2306545597143908352, 0), true) from by decide +kernel]
  rfl
theorem i6_a : innerZ 0 281472812449793 = [2130706433] := by decide +kernel
theorem i6_b : innerZ 2306545597143908352 0 = [2130706433] := by decide +kernel
set_option maxHeartbeats 1000000 in
theorem awake5_any (w : World) (hbru : BruTab w) (hmax : MaxVar w) :
    Calls Tryz.prog 175 #[] w fun e w' => e = .returned (.bool true) ∧ Below w.heap.size w w' := by
  have HT := Lib.hid hbru
  have HX := Lib.hid hmax
  clear hbru hmax
  go_enter Tryz.func175, Tryz.ntmps175
  go_wp2_with fail
  refine (awake05_any _ HT.out HX.out).mono ?_
  rintro e w1 ⟨rfl, hb1⟩
  go_wp2
  go_ret
  exact ⟨rfl, hb1⟩
theorem lit_row (x : World) (n : Int) : RowR (x.alloc (.cells #[.int .u32 n] 92)) (.slice (some ⟨x.heap.size, 0, none⟩) 1 1) ([n].map (Value.int .u32)) := by
  refine ⟨some ⟨x.heap.size, 0, none⟩, 1, rfl, fun j u hj => ⟨_, rfl, ?_⟩⟩
  rw [Lib.add_plain, Nat.zero_add, cell_of_row _ _ j _ _ _ (heap_alloc_new x _)]
  simpa using hj
set_option maxRecDepth 100000 in
set_option maxHeartbeats 4000000 in
theorem awake06_any (w : World) (hbru : BruTab w) (hmax : MaxVar w) :
    Calls Tryz.prog 168 #[] w fun e w' => e = .returned (.bool true) ∧ Below w.heap.size w w' := by
  have HT := Lib.hid hbru
  have HX := Lib.hid hmax
  clear hbru hmax
  go_enter Tryz.func168, Tryz.ntmps168
  go_wp2_with fail
  refine (addrParse_any _ _ (by decide) HX.out).mono ?_
  rw [show addrZ (ByteArray.mk #[58, 58, 102, 102, 102, 102, 58, 55, 102, 48, 48, 58, 49]).data.toList = some (.six 0 281472812449793) from a6_a]
  rintro e x1 ⟨rfl, hb1⟩
  simp only [optV, AZ.val, Option.isSome]
  go_wp2_with fail
  refine (addrParse_any _ _ (by decide) (maxVar_below HX.out hb1)).mono ?_
  rw [show addrZ (ByteArray.mk #[50, 48, 48, 50, 58, 55, 102, 48, 48, 58, 49, 58, 58]).data.toList = some (.six 2306545597143908352 0) from a6_b]
  rintro e x2 ⟨rfl, hb2⟩
  simp only [optV, AZ.val, Option.isSome]
  have hc2 : Below w.heap.size w x2 := hb1.trans (hb2.mono hb1.size)
  clear hb1 hb2
  go_wp2_with fail
  refine (awake5_any _ (bruTab_below HT.out hc2) (maxVar_below HX.out hc2)).mono ?_
  rintro e x3 ⟨rfl, hb3⟩
  have hc3 : Below w.heap.size w x3 := hc2.trans (hb3.mono hc2.size)
  clear hb3 hc2
  go_wp2_with fail
  refine (inner_six 0 281472812449793 _ (by decide) (by decide) (by decide) (by decide)).mono ?_
  rw [i6_a]
  rintro e x4 ⟨v4, rfl, hn4, hb4⟩
  have hc4 : Below w.heap.size w x4 := hc3.trans (hb4.mono hc3.size)
  have hc5 : Below w.heap.size w (x4.alloc (.cells #[.int .u32 2130706433] 92)) := hc4.alloc hc4.size _
  have HR4 := Lib.hid ((hn4.below ((Below.refl _ x4).alloc (Nat.le_refl _) (.cells #[.int .u32 2130706433] 92))).row)
  have HL4 := Lib.hid (lit_row x4 2130706433)
  clear hb4 hc3 hn4 hc4
  go_wp2_with fail
  generalize x4.alloc (.cells #[.int .u32 2130706433] 92) = x5 at *
  refine (equalF_any _ _ [2130706433] [2130706433] _ HR4.out HL4.out (by decide)).mono ?_
  rintro e x6 ⟨rfl, m6, rfl⟩
  have hc6 : Below w.heap.size w (x5.drewN m6) := below_drewN hc5 m6
  generalize x5.drewN m6 = x6 at *
  rw [decide_eq_true (rfl : ([2130706433] : List Int) = [2130706433])]
  go_wp2_with fail
  refine (inner_six 2306545597143908352 0 _ (by decide) (by decide) (by decide) (by decide)).mono ?_
  rw [i6_b]
  rintro e x7 ⟨v7, rfl, hn7, hb7⟩
  have hc7 : Below w.heap.size w x7 := hc6.trans (hb7.mono hc6.size)
  have hc8 : Below w.heap.size w (x7.alloc (.cells #[.int .u32 2130706433] 92)) := hc7.alloc hc7.size _
  have HR7 := Lib.hid ((hn7.below ((Below.refl _ x7).alloc (Nat.le_refl _) (.cells #[.int .u32 2130706433] 92))).row)
  have HL7 := Lib.hid (lit_row x7 2130706433)
  clear hb7 hn7 hc7
  go_wp2_with fail
  generalize x7.alloc (.cells #[.int .u32 2130706433] 92) = x8 at *
  refine (equalF_any _ _ [2130706433] [2130706433] _ HR7.out HL7.out (by decide)).mono ?_
  rintro e x9 ⟨rfl, m9, rfl⟩
  rw [decide_eq_true (rfl : ([2130706433] : List Int) = [2130706433])]
  go_wp2
  go_ret
  exact ⟨by first | rfl | exact ret_bool (by simp), below_drewN hc8 m9⟩
/-- an address as the document's -/
def refA : Option AZ → Bool × Int × Int
  | none => (false, 0, 0)
  | some (.four n) => (false, 0, 281470681743360 + n)
  | some (.six hi lo) => (true, hi, lo)
def refV (x : Bool × Int × Int) : Value := .agg #[.bool x.1, .int .u64 x.2.1, .int .u64 x.2.2]
set_option maxRecDepth 100000 in
set_option maxHeartbeats 1000000 in
theorem refFour_any (n : Int) (w : World) (h0 : 0 ≤ n) (h1 : n ≤ 4294967295) :
    Calls Tryz.prog 50 #[.int .u32 n] w fun e w' => e = .returned (.agg #[.bool false, .int .u64 0, .int .u64 (281470681743360 + n)]) ∧ Below w.heap.size w w' := by
  go_enter Tryz.func50, Tryz.ntmps50
  go_wp2
  exact bodyPost_ret (v := .agg #[.bool false, .int .u64 0, .int .u64 (281470681743360 + n)]) (by simp [results, Tryz.results50, go_sem]) rfl ⟨rfl, (Below.refl _ _).alloc (Nat.le_refl _) _⟩
end
section
open Go.RowKit
set_option maxRecDepth 100000 in
set_option maxHeartbeats 1000000 in
theorem lawOf_four (n : Int) (w : World) (h0 : 0 ≤ n) (h1 : n ≤ 4294967295) :
    Calls Tryz.prog 15 #[.iface 92 (.int .u32 n)] w fun e w' => e = .returned (.agg #[.bool false, .int .u64 0, .int .u64 (281470681743360 + n)]) ∧ Below w.heap.size w w' := by
  have hta := as44
  have hB : (w.alloc (.cells #[.bool false, .int .u64 0, .int .u64 0] 31)).heap[w.heap.size]? = some (.cells #[.bool false, .int .u64 0, .int .u64 0] 31 (0, 0)) := heap_alloc_new w _
  have hg : w.heap.size < (w.alloc (.cells #[.bool false, .int .u64 0, .int .u64 0] 31)).heap.size := by simp
  have hb : Below w.heap.size w (w.alloc (.cells #[.bool false, .int .u64 0, .int .u64 0] 31)) := (Below.refl _ w).alloc (Nat.le_refl _) _
  have HB := Lib.hid hB
  clear hB
  go_enter Tryz.func15, Tryz.ntmps15
  go_wp2_with fail
  generalize w.alloc (.cells #[.bool false, .int .u64 0, .int .u64 0] 31) = x1 at *
  refine (refFour_any n _ h0 h1).mono ?_
  rintro e x2 ⟨rfl, hb2⟩
  have HB2 : Hid (x2.heap[w.heap.size]? = some (.cells #[.bool false, .int .u64 0, .int .u64 0] 31 (0, 0))) := (hb2.block w.heap.size hg).trans HB.out
  have k0 : x2.cell? ⟨w.heap.size, 0, none⟩ = some (.bool false) := by rw [cell_of_row x2 _ 0 _ _ _ HB2.out]; rfl
  have k1 : x2.cell? ⟨w.heap.size, 1, none⟩ = some (.int .u64 0) := by rw [cell_of_row x2 _ 1 _ _ _ HB2.out]; rfl
  have k2 : x2.cell? ⟨w.heap.size, 2, none⟩ = some (.int .u64 0) := by rw [cell_of_row x2 _ 2 _ _ _ HB2.out]; rfl
  have f0 := row_frozen0 HB2.out 0
  have f1 := row_frozen0 HB2.out 1
  have f2 := row_frozen0 HB2.out 2
  have hc2 : Below w.heap.size w x2 := hb.trans (hb2.mono hb.size)
  clear hb2 hta
  go_wp2
  exact bodyPost_ret (v := .agg #[.bool false, .int .u64 0, .int .u64 (281470681743360 + n)]) (by simp [results, Tryz.results15, go_sem, k0, k1, k2]) rfl ⟨rfl, ((hc2.setCell (Nat.le_refl _) _).setCell (Nat.le_refl _) _).setCell (Nat.le_refl _) _⟩
set_option maxRecDepth 100000 in
set_option maxHeartbeats 1000000 in
theorem lawOf_six (hi lo : Int) (w : World) :
    Calls Tryz.prog 15 #[.iface 96 (.agg #[.int .u64 hi, .int .u64 lo])] w fun e w' => e = .returned (.agg #[.bool true, .int .u64 hi, .int .u64 lo]) ∧ Below w.heap.size w w' := by
  have hta := as64
  have htb := as66
  go_enter Tryz.func15, Tryz.ntmps15
  go_wp2
  exact bodyPost_ret (v := .agg #[.bool true, .int .u64 hi, .int .u64 lo]) (by simp [results, Tryz.results15, go_sem]) rfl ⟨rfl, by first | exact (((((Below.refl _ w).alloc (Nat.le_refl _) _).alloc (by simp) _).setCell (Nat.le_refl _) _).setCell (Nat.le_refl _) _).setCell (Nat.le_refl _) _ | exact ((Below.refl _ w).alloc (Nat.le_refl _) _).alloc (by simp) _⟩
set_option maxRecDepth 100000 in
set_option maxHeartbeats 1000000 in
theorem lawOf_nil (w : World) :
    Calls Tryz.prog 15 #[.nilIface] w fun e w' => e = .returned (.agg #[.bool false, .int .u64 0, .int .u64 0]) ∧ Below w.heap.size w w' := by
  have hta := asN4
  have htb := asN6
  go_enter Tryz.func15, Tryz.ntmps15
  go_wp2
  exact bodyPost_ret (v := .agg #[.bool false, .int .u64 0, .int .u64 0]) (by simp [results, Tryz.results15, go_sem]) rfl ⟨rfl, by first | exact (((((Below.refl _ w).alloc (Nat.le_refl _) _).alloc (by simp) _).setCell (Nat.le_refl _) _).setCell (Nat.le_refl _) _).setCell (Nat.le_refl _) _ | exact ((Below.refl _ w).alloc (Nat.le_refl _) _).alloc (by simp) _⟩
theorem lawOf_any (x : Option AZ) (w : World) (h : ∀ a, x = some a → a.Ok) :
    Calls Tryz.prog 15 #[optV x] w fun e w' => e = .returned (refV (refA x)) ∧ Below w.heap.size w w' := by
  match x with
  | none => exact lawOf_nil w
  | some (.four n) => exact lawOf_four n w (h _ rfl).1 (h _ rfl).2
  | some (.six hi lo) => exact lawOf_six hi lo w
end
section
open Go.RowKit
def AZ.hi : AZ → Int
  | .four _ => 0
  | .six hi _ => hi
def AZ.lo : AZ → Int
  | .four n => 281470681743360 + n
  | .six _ lo => lo
end
section
open Go.RowKit
end
section
open Go.RowKit
end
section
open Go.RowKit
theorem Nums.none {t : TypeId} {k : IntKind} {B : Nat} {w : World} {v : Value} (h : Nums t k B w v []) : ∃ a c, v = .slice a 0 c := by
  obtain ⟨a, c, hv, _⟩ := h.row
  exact ⟨a, c, by simpa using hv⟩
end
section
open Go.RowKit
set_option maxRecDepth 100000 in
set_option maxHeartbeats 1000000 in
theorem two_any (v : Value) (l : List Int) (k : Nat) (x y : Int) (w : World) (h : RowR w v (l.map (Value.int .i64))) (hk : k + 1 < l.length) (hl : l.length ≤ 1073741824) (hx : l[k]? = some x) (hy : l[k + 1]? = some y)
    (x0 : 0 ≤ x) (x1 : x ≤ 65535) (y0 : 0 ≤ y) (y1 : y ≤ 65535) :
    Calls Tryz.prog 90 #[v, .int .i64 (k : Int)] w fun e w' => e = .returned (.int .u32 (x * 65536 + y)) ∧ Below w.heap.size w w' := by
  obtain ⟨a1, c1, rfl, hc1⟩ := h
  simp only [List.length_map]
  obtain ⟨ad, rfl, hd1⟩ := hc1 k (.int .i64 x) (by rw [List.getElem?_map, hx]; rfl)
  obtain ⟨ad2, e2, hd2⟩ := hc1 (k + 1) (.int .i64 y) (by rw [List.getElem?_map, hy]; rfl)
  cases e2
  clear hc1 hx hy
  have hk0 : k < l.length := by omega
  obtain ⟨k2, hk2⟩ : ∃ k2, k2 = k + 1 := ⟨_, rfl⟩
  rw [← hk2] at hk hd2
  have e1 : IntKind.i64.wrap ((k : Int) + 1) = (k2 : Int) := by rw [IntKind.wrap_i64]; omega
  clear hk2
  have e2 : IntKind.u32.wrap x = x := by rw [u32_wrap]; omega
  have e3 : IntKind.u32.wrap y = y := by rw [u32_wrap]; omega
  have e4 : IntKind.u32.wrap (x * 65536) = x * 65536 := by rw [u32_wrap]; omega
  have e5 : IntKind.u32.wrap (x * 65536 + y) = x * 65536 + y := by rw [u32_wrap]; omega
  go_enter Tryz.func90, Tryz.ntmps90
  go_wp2
  go_quiet (fail)
  go_wp2
  go_ret
  exact ⟨rfl, below_drewN (Below.refl _ _) _⟩
set_option maxRecDepth 100000 in
set_option maxHeartbeats 1000000 in
theorem begins_any (v1 v2 : Value) (l1 l2 : List Int) (w : World) (h1 : RowR w v1 (l1.map (Value.int .i64))) (h2 : RowR w v2 (l2.map (Value.int .i64))) (hle : l2.length ≤ l1.length) (hl1 : l1.length ≤ 1073741824) :
    Calls Tryz.prog 91 #[v1, v2] w fun e w' => e = .returned (.bool (decide (l1.take l2.length = l2))) ∧ Below w.heap.size w w' := by
  obtain ⟨a1, c1, rfl, hc1⟩ := h1
  obtain ⟨a2, c2, rfl, hc2⟩ := h2
  simp only [List.length_map]
  have HC1 := Lib.hid hc1
  have HC2 := Lib.hid hc2
  clear hc1 hc2
  go_enter Tryz.func91, Tryz.ntmps91
  go_wp2
  go_loopw [5] (fun i wr => ∃ k m : Nat, k ≤ l2.length ∧ i = .int .i64 k ∧ wr = w.drewN m ∧ Hid (l1.take k = l2.take k)) (fun i _ => l2.length - (intOf i).toNat)
  case atStart => exact ⟨0, 0, Nat.zero_le _, rfl, rfl, rfl⟩
  case round =>
    obtain ⟨k, m, hk, rfl, rfl, H⟩ := hrel
    by_cases hlt2 : k < l2.length
    · have hlt : k < l1.length := by omega
      obtain ⟨x, hx⟩ : ∃ x, x = l1[k] := ⟨_, rfl⟩
      obtain ⟨y, hy⟩ : ∃ y, y = l2[k] := ⟨_, rfl⟩
      obtain ⟨d1, rfl, hd1⟩ := HC1.out k (.int .i64 x) (by simp [hx, hlt])
      obtain ⟨d2, rfl, hd2⟩ := HC2.out k (.int .i64 y) (by simp [hy, hlt2])
      have HX := Lib.hid hx
      have HY := Lib.hid hy
      clear hx hy
      by_cases hxy : x = y
      · subst hxy
        go_wp2
        go_quiet (fail)
        go_wp2
        go_roundw
        case rel =>
          exact ⟨k + 1, _, by omega, by go_num, rfl, take_next H.out hlt hlt2 (HX.out.symm.trans HY.out)⟩
        case measure => simp [intOf]; omega
      · have hb1 : (x != y) = true := by simp [hxy]
        have hfin : decide (l1.take l2.length = l2) = false := by
          refine decide_eq_false fun e => hxy ?_
          rw [HX.out, HY.out]
          have h3 : (l1.take l2.length)[k]? = l2[k]? := by rw [e]
          rw [List.getElem?_take, if_pos hlt2, List.getElem?_eq_getElem hlt, List.getElem?_eq_getElem hlt2] at h3
          exact Option.some.inj h3
        have HF := Lib.hid hfin
        clear hfin
        go_wp2
        go_quiet (fail)
        go_wp2
        go_ret
        exact ⟨ret_bool HF.out.symm, below_drewN (below_drewN (Below.refl _ _) _) _⟩
    · have hfin : decide (l1.take l2.length = l2) = true := by
        refine decide_eq_true ?_
        have h3 := H.out
        have hke : k = l2.length := by omega
        rw [hke, List.take_length] at h3
        exact h3
      have HF := Lib.hid hfin
      clear hfin
      go_wp2
      go_ret
      exact ⟨ret_bool HF.out.symm, below_drewN (Below.refl _ _) m⟩
end
section
open Go.RowKit
theorem Tryz.infoU32 : (Tryz.prog.info? 91).map (fun i => (i.zero, i.size, i.bytes)) = some (some (.int .u32 0), 1, 4) := by kernel_rfl
def RetU32s (w : World) (l : List Int) (e : Ending) (w' : World) : Prop := ∃ v, e = .returned v ∧ Nums 91 .u32 w.heap.size w' v l ∧ Below w.heap.size w w'
theorem lit6_row (x : World) (a0 a1 a2 a3 a4 a5 : Int) : RowR (x.alloc (.cells #[.int .i64 a0, .int .i64 a1, .int .i64 a2, .int .i64 a3, .int .i64 a4, .int .i64 a5] 3)) (.slice (some ⟨x.heap.size, 0, none⟩) 6 6) ([a0, a1, a2, a3, a4, a5].map (Value.int .i64)) := by
  refine ⟨some ⟨x.heap.size, 0, none⟩, 6, rfl, fun j u hj => ⟨_, rfl, ?_⟩⟩
  rw [Lib.add_plain, Nat.zero_add, cell_of_row _ _ j _ _ _ (heap_alloc_new x _)]
  simpa using hj
theorem row8_row {W : World} {B : Nat} {p : List Int} (hp : p.length = 8) (h : ∀ j, j < 8 → W.cell? ⟨B, j, none⟩ = some (.int .i64 (p.getD j 0))) : RowR W (.slice (some ⟨B, 0, none⟩) 8 8) (p.map (Value.int .i64)) := by
  refine ⟨some ⟨B, 0, none⟩, 8, by rw [List.length_map, hp], fun j u hj => ⟨_, rfl, ?_⟩⟩
  have hlt : j < 8 := by
    have := (List.getElem?_eq_some_iff.1 hj).1
    rw [List.length_map, hp] at this
    exact this
  rw [Lib.add_plain, Nat.zero_add, h j hlt]
  rw [List.getElem?_map] at hj
  rw [List.getD_eq_getElem?_getD]
  cases e : p[j]? with
  | none => rw [e] at hj; cases hj
  | some x => rw [e] at hj; exact hj
theorem pcs_len (hi lo : Int) : (pcs hi lo).length = 8 := rfl
def pa (c : Bool) (l : List Int) : List Int := if c then l else []
theorem pa_len (c : Bool) (l : List Int) : (pa c l).length ≤ l.length := by cases c <;> simp [pa]
theorem pa_f (l : List Int) : pa false l = [] := rfl
theorem ref_inner (hi lo : Int) (h0 : 0 ≤ hi) (h1 : hi ≤ 18446744073709551615) (l0 : 0 ≤ lo) (l1 : lo ≤ 18446744073709551615) :
    innerZ hi lo = pa (decide ((pcs hi lo).take 6 = [0, 0, 0, 0, 0, 65535])) [lo % 4294967296] ++ pa (decide ((pcs hi lo).take 6 = [0, 0, 0, 0, 0, 0] ∧ 1 < lo % 4294967296)) [lo % 4294967296] ++ pa (decide ((pcs hi lo).take 6 = [100, 65435, 0, 0, 0, 0])) [lo % 4294967296]
      ++ pa (decide (hi / 281474976710656 = 8194)) [hi / 65536 % 4294967296] ++ pa (decide (hi / 281474976710656 = 8193 ∧ hi / 4294967296 % 65536 = 0)) [hi % 4294967296, 4294967295 - lo % 4294967296]
      ++ pa (decide ((lo / 281474976710656 = 0 ∨ lo / 281474976710656 = 512) ∧ lo / 4294967296 % 65536 = 24318)) [lo % 4294967296] := by
  have key : ∀ (P : Prop) [Decidable P] (Q : Prop) [Decidable Q] (l : List Int), (P ↔ Q) → (if P then l else []) = pa (decide Q) l := fun P _ Q _ l h => by
    unfold pa
    by_cases hq : Q
    · rw [if_pos (h.2 hq), decide_eq_true hq]; rfl
    · rw [if_neg (fun hp => hq (h.1 hp)), decide_eq_false hq]; rfl
  unfold innerZ inA inCo inC inD inE inF
  congr 1
  · congr 1
    · congr 1
      · congr 1
        · congr 1
          · refine key _ _ _ ?_
            simp only [pcs, List.take_succ_cons, List.take_zero, List.cons.injEq, and_true]; omega
          · refine key _ _ _ ?_
            simp only [pcs, List.take_succ_cons, List.take_zero, List.cons.injEq, and_true]; omega
        · refine key _ _ _ ?_
          simp only [pcs, List.take_succ_cons, List.take_zero, List.cons.injEq, and_true]; omega
      · refine key _ _ _ ?_
        omega
    · refine key _ _ _ ?_
      omega
  · refine key _ _ _ ?_
    omega
def Rw (x1 : World) (wc : World) (v : Value) (l : List Int) : Prop := Nums 91 .u32 x1.heap.size wc v l ∧ Below x1.heap.size x1 wc
set_option maxRecDepth 100000 in
set_option maxHeartbeats 4000000 in
theorem refInner_six (hi lo : Int) (w : World) (h0 : 0 ≤ hi) (h1 : hi ≤ 18446744073709551615) (l0 : 0 ≤ lo) (l1 : lo ≤ 18446744073709551615) :
    Calls Tryz.prog 64 #[.agg #[.bool true, .int .u64 hi, .int .u64 lo]] w (RetU32s w (innerZ hi lo)) := by
  obtain ⟨i0, hi0, hz0, hz1, hz2⟩ := info_parts Tryz.infoU32
  have HZ := Lib.hid (ref_inner hi lo h0 h1 l0 l1)
  obtain ⟨lw, hlw⟩ : ∃ lw, lo % 4294967296 = lw := ⟨_, rfl⟩
  have hw0 : 0 ≤ lw := by omega
  have hw1 : lw ≤ 4294967295 := by omega
  rw [hlw] at HZ
  have hc0 : Below w.heap.size w (w.alloc (.cells #[.bool true, .int .u64 hi, .int .u64 lo] 31)) := (Below.refl _ _).alloc (Nat.le_refl _) _
  have HTW : Hid (lo / 65536 % 65536 * 65536 + lo % 65536 = lw) := by show _ = _; omega
  go_enter Tryz.func64, Tryz.ntmps64
  go_wp2_with fail
  refine (refPieces_any hi lo _ h0 h1 l0 l1).mono ?_
  rintro e x1 ⟨B, rfl, hB, hcl, hb1⟩
  have hc1 : Below w.heap.size w x1 := hc0.trans (hb1.mono hc0.size)
  have hk : ∀ W, Below x1.heap.size x1 W → ∀ j, j < 8 → W.cell? ⟨B, j, none⟩ = some (.int .i64 ((pcs hi lo).getD j 0)) := fun W hW j hj => (hW.cell hB).trans (hcl j hj)
  have HK := Lib.hid hk
  have HROW : Hid (∀ W, Below x1.heap.size x1 W → RowR W (.slice (some ⟨B, 0, none⟩) 8 8) ((pcs hi lo).map (Value.int .i64))) := fun W hW => row8_row rfl (HK.out W hW)
  have HC1 := Lib.hid hc1
  clear hb1 hcl hk hc0 hc1
  have hn0 : Nums 91 .u32 x1.heap.size x1 (.slice none 0 0) [] := Nums.nil _ _ _ _
  go_wp2_with fail
  refine (two_any _ (pcs hi lo) 6 (lo / 65536 % 65536) (lo % 65536) _ (HROW.out _ (Below.refl _ _)) (by rw [pcs_len]; decide) (by rw [pcs_len]; decide) rfl rfl (by omega) (by omega) (by omega) (by omega)).mono ?_
  rw [HTW.out]
  rintro e x2 ⟨rfl, hb2⟩
  have hn := Lib.hid (hn0.below hb2)
  have hq := hb2
  clear hlw hn0 hb2
  obtain ⟨L0, hL0, HL0⟩ : ∃ L : List Int, L.length ≤ 0 ∧ L = [] := ⟨_, Nat.le_refl _, rfl⟩
  rw [← HL0] at hn
  have GL0 := Lib.hid HL0
  clear HL0
  go_wp2_with fail
  refine (begins_any _ _ (pcs hi lo) [0, 0, 0, 0, 0, 65535] _ (HROW.out _ (hq.alloc hq.size _)) (lit6_row x2 0 0 0 0 0 65535) (by rw [pcs_len]; decide) (by rw [pcs_len]; decide)).mono ?_
  rw [show ([0, 0, 0, 0, 0, 65535] : List Int).length = 6 from rfl]
  obtain ⟨bA, hbA⟩ : ∃ b, decide ((pcs hi lo).take 6 = [0, 0, 0, 0, 0, 65535]) = b := ⟨_, rfl⟩
  rw [hbA] at HZ ⊢
  rintro e x3 ⟨rfl, hb3⟩
  have hn' := Lib.hid (hn.out.below ((Below.refl _ x2).alloc (Nat.le_refl _) (.cells #[.int .i64 0, .int .i64 0, .int .i64 0, .int .i64 0, .int .i64 0, .int .i64 65535] 3) |>.trans (hb3.mono (by simp))))
  have hq' : Below x1.heap.size x1 x3 := (hq.alloc hq.size _).trans (hb3.mono (hq.alloc hq.size _).size)
  clear hn hq hb3 hbA
  have hn := hn'
  have hq := hq'
  clear hn' hq'
  go_upto_if 19 with fail
  go_cut [3] (fun v wc => Rw x1 wc v (L0 ++ pa bA [lw]))
  case first =>
    cases bA with
    | false =>
      go_wp2
      go_meet
      exact ⟨by rw [pa_f, List.append_nil]; exact hn.out, hq⟩
    | true =>
      have ho1 : World.ownsRow x3 x1.heap.size 91 1 (.slice none 0 0) L0.length (L0.map (Value.int .u32)) := hn.out
      have tA1 : L0.length + 1 ≤ 9223372036854775807 := by have := hL0; omega
      have tB1 : (L0.length + 1) * 4 ≤ 140737488355328 := by have := hL0; omega
      have tC1 : x1.heap.size ≤ x3.heap.size := hq.size
      go_wp2_with (first
        | (at_builtin; refine wp_append1 _ rfl _ _ 128 rfl x1.heap.size 91 i0 (.int .u32 0) 4 Tryz.underlying128 hi0 hz0 hz1 hz2 rfl _ L0.length _ rfl ho1 (.int .u32 lw) rfl rfl tA1 tB1 tC1 ?_; intro v1 z1 hown1 hk1))
      go_meet
      exact ⟨Nums.snoc hown1, hq.trans hk1⟩
  case rest =>
    rename World => yA
    obtain ⟨hn', hq'⟩ := hcut
    obtain ⟨L1, hL1, HL1⟩ : ∃ L : List Int, L.length ≤ 1 ∧ L = L0 ++ pa bA [lw] := ⟨_, by have := pa_len bA [lw]; simp only [List.length_append]; simp only [List.length_cons, List.length_nil] at this; omega, rfl⟩
    rw [← HL1] at hn'
    have GL1 := Lib.hid HL1
    clear hn hq HL1
    have hn := Lib.hid hn'
    have hq := hq'
    clear hn' hq'
    obtain ⟨bB, hbB⟩ : ∃ b, decide ((pcs hi lo).take 6 = [0, 0, 0, 0, 0, 0] ∧ 1 < lw) = b := ⟨_, rfl⟩
    rw [hbB] at HZ
    have HB := Lib.hid hbB
    clear hbB
    go_upto_region 8 with fail
    go_cut [30] (fun v wc => v = .bool bB ∧ Below yA.heap.size yA wc)
    case first =>
      go_wp2_with fail
      refine (begins_any _ _ (pcs hi lo) [0, 0, 0, 0, 0, 0] _ (HROW.out _ (hq.alloc hq.size _)) (lit6_row yA 0 0 0 0 0 0) (by rw [pcs_len]; decide) (by rw [pcs_len]; decide)).mono ?_
      rw [show ([0, 0, 0, 0, 0, 0] : List Int).length = 6 from rfl]
      by_cases hP : (pcs hi lo).take 6 = [0, 0, 0, 0, 0, 0]
      · rw [decide_eq_true hP]
        rintro e x3 ⟨rfl, hb3⟩
        have hbz : Below yA.heap.size yA x3 := ((Below.refl _ yA).alloc (Nat.le_refl _) _).trans (hb3.mono (by simp))
        clear hb3
        by_cases hl : 1 < lw
        · have hd : decide ((1 : Int) < lw) = true := decide_eq_true hl
          have hB : bB = true := by rw [← HB.out]; exact decide_eq_true ⟨hP, hl⟩
          clear hP hl
          go_wp2
          go_meet
          exact ⟨by rw [hB], hbz⟩
        · have hd : decide ((1 : Int) < lw) = false := decide_eq_false hl
          have hB : bB = false := by rw [← HB.out]; exact decide_eq_false fun h => hl h.2
          clear hP hl
          go_wp2
          go_meet
          exact ⟨by rw [hB], hbz⟩
      · rw [decide_eq_false hP]
        rintro e x3 ⟨rfl, hb3⟩
        have hbz : Below yA.heap.size yA x3 := ((Below.refl _ yA).alloc (Nat.le_refl _) _).trans (hb3.mono (by simp))
        have hB : bB = false := by rw [← HB.out]; exact decide_eq_false fun h => hP h.1
        clear hb3 hP
        go_wp2
        go_meet
        exact ⟨by rw [hB], hbz⟩
    case rest =>
      rename World => yB0
      obtain ⟨rfl, hcb⟩ := hcut
      have hn' := Lib.hid (hn.out.below hcb)
      have hq' : Below x1.heap.size x1 yB0 := hq.trans (hcb.mono hq.size)
      clear hn hq hcb
      have hn := hn'
      have hq := hq'
      clear hn' hq'
      go_upto_if 30 with fail
      go_cut [3] (fun v wc => Rw x1 wc v (L1 ++ pa bB [lw]))
      case first =>
        cases bB with
        | false =>
          go_wp2
          go_meet
          exact ⟨by rw [pa_f, List.append_nil]; exact hn.out, hq⟩
        | true =>
          have ho1 : World.ownsRow yB0 x1.heap.size 91 1 _ L1.length (L1.map (Value.int .u32)) := hn.out
          have tA1 : L1.length + 1 ≤ 9223372036854775807 := by have := hL1; omega
          have tB1 : (L1.length + 1) * 4 ≤ 140737488355328 := by have := hL1; omega
          have tC1 : x1.heap.size ≤ yB0.heap.size := hq.size
          go_wp2_with (first
            | (at_builtin; refine wp_append1 _ rfl _ _ 128 rfl x1.heap.size 91 i0 (.int .u32 0) 4 Tryz.underlying128 hi0 hz0 hz1 hz2 rfl _ L1.length _ rfl ho1 (.int .u32 lw) rfl rfl tA1 tB1 tC1 ?_; intro v1 z1 hown1 hk1))
          go_meet
          exact ⟨Nums.snoc hown1, hq.trans hk1⟩
      case rest =>
        rename World => yB
        obtain ⟨hn', hq'⟩ := hcut
        obtain ⟨L2, hL2, HL2⟩ : ∃ L : List Int, L.length ≤ 2 ∧ L = L1 ++ pa bB [lw] := ⟨_, by have := pa_len bB [lw]; simp only [List.length_append]; simp only [List.length_cons, List.length_nil] at this; omega, rfl⟩
        rw [← HL2] at hn'
        have GL2 := Lib.hid HL2
        clear hn hq HL2
        have hn := Lib.hid hn'
        have hq := hq'
        clear hn' hq'
        go_wp2_with fail
        refine (begins_any _ _ (pcs hi lo) [100, 65435, 0, 0, 0, 0] _ (HROW.out _ (hq.alloc hq.size _)) (lit6_row yB 100 65435 0 0 0 0) (by rw [pcs_len]; decide) (by rw [pcs_len]; decide)).mono ?_
        rw [show ([100, 65435, 0, 0, 0, 0] : List Int).length = 6 from rfl]
        obtain ⟨bC, hbC⟩ : ∃ b, decide ((pcs hi lo).take 6 = [100, 65435, 0, 0, 0, 0]) = b := ⟨_, rfl⟩
        rw [hbC] at HZ ⊢
        rintro e x3 ⟨rfl, hb3⟩
        have hn' := Lib.hid (hn.out.below ((Below.refl _ yB).alloc (Nat.le_refl _) (.cells #[.int .i64 100, .int .i64 65435, .int .i64 0, .int .i64 0, .int .i64 0, .int .i64 0] 3) |>.trans (hb3.mono (by simp))))
        have hq' : Below x1.heap.size x1 x3 := (hq.alloc hq.size _).trans (hb3.mono (hq.alloc hq.size _).size)
        clear hn hq hb3 hbC
        have hn := hn'
        have hq := hq'
        clear hn' hq'
        go_upto_if 37 with fail
        go_cut [3] (fun v wc => Rw x1 wc v (L2 ++ pa bC [lw]))
        case first =>
          cases bC with
          | false =>
            go_wp2
            go_meet
            exact ⟨by rw [pa_f, List.append_nil]; exact hn.out, hq⟩
          | true =>
            have ho1 : World.ownsRow x3 x1.heap.size 91 1 _ L2.length (L2.map (Value.int .u32)) := hn.out
            have tA1 : L2.length + 1 ≤ 9223372036854775807 := by have := hL2; omega
            have tB1 : (L2.length + 1) * 4 ≤ 140737488355328 := by have := hL2; omega
            have tC1 : x1.heap.size ≤ x3.heap.size := hq.size
            go_wp2_with (first
              | (at_builtin; refine wp_append1 _ rfl _ _ 128 rfl x1.heap.size 91 i0 (.int .u32 0) 4 Tryz.underlying128 hi0 hz0 hz1 hz2 rfl _ L2.length _ rfl ho1 (.int .u32 lw) rfl rfl tA1 tB1 tC1 ?_; intro v1 z1 hown1 hk1))
            go_meet
            exact ⟨Nums.snoc hown1, hq.trans hk1⟩
        case rest =>
          rename World => yC
          obtain ⟨hn', hq'⟩ := hcut
          obtain ⟨L3, hL3, HL3⟩ : ∃ L : List Int, L.length ≤ 3 ∧ L = L2 ++ pa bC [lw] := ⟨_, by have := pa_len bC [lw]; simp only [List.length_append]; simp only [List.length_cons, List.length_nil] at this; omega, rfl⟩
          rw [← HL3] at hn'
          have GL3 := Lib.hid HL3
          clear hn hq HL3
          have hn := Lib.hid hn'
          have hq := hq'
          clear hn' hq'
          obtain ⟨bD, hbD⟩ : ∃ b, decide (hi / 281474976710656 = 8194) = b := ⟨_, rfl⟩
          rw [hbD] at HZ
          have hbD' : (hi / 281474976710656 == 8194) = bD := hbD
          have r0 : yC.cell? ⟨B, 0, none⟩ = some (.int .i64 (hi / 281474976710656)) := HK.out yC hq 0 (by decide)
          have HTD : Hid (hi / 4294967296 % 65536 * 65536 + hi / 65536 % 65536 = hi / 65536 % 4294967296) := by show _ = _; omega
          clear hbD
          go_upto_if 45 with fail
          go_cut [3] (fun v wc => Rw x1 wc v (L3 ++ pa bD [hi / 65536 % 4294967296]))
          case first =>
            cases bD with
            | false =>
              go_wp2
              go_meet
              exact ⟨by rw [pa_f, List.append_nil]; exact hn.out, hq⟩
            | true =>
              go_wp2_with fail
              refine (two_any _ (pcs hi lo) 1 (hi / 4294967296 % 65536) (hi / 65536 % 65536) _ (HROW.out _ hq) (by rw [pcs_len]; decide) (by rw [pcs_len]; decide) rfl rfl (by omega) (by omega) (by omega) (by omega)).mono ?_
              rw [HTD.out]
              rintro e x5 ⟨rfl, hb5⟩
              have hq5 : Below x1.heap.size x1 x5 := hq.trans (hb5.mono hq.size)
              have ho1 : World.ownsRow x5 x1.heap.size 91 1 _ L3.length (L3.map (Value.int .u32)) := hn.out.below hb5
              have tA1 : L3.length + 1 ≤ 9223372036854775807 := by have := hL3; omega
              have tB1 : (L3.length + 1) * 4 ≤ 140737488355328 := by have := hL3; omega
              have tC1 : x1.heap.size ≤ x5.heap.size := hq5.size
              clear hb5
              go_wp2_with (first
                | (at_builtin; refine wp_append1 _ rfl _ _ 128 rfl x1.heap.size 91 i0 (.int .u32 0) 4 Tryz.underlying128 hi0 hz0 hz1 hz2 rfl _ L3.length _ rfl ho1 (.int .u32 (hi / 65536 % 4294967296)) rfl rfl tA1 tB1 tC1 ?_; intro v1 z1 hown1 hk1))
              go_meet
              exact ⟨Nums.snoc hown1, hq5.trans hk1⟩
          case rest =>
            rename World => yD
            obtain ⟨hn', hq'⟩ := hcut
            obtain ⟨L4, hL4, HL4⟩ : ∃ L : List Int, L.length ≤ 4 ∧ L = L3 ++ pa bD [hi / 65536 % 4294967296] := ⟨_, by have := pa_len bD [hi / 65536 % 4294967296]; simp only [List.length_append]; simp only [List.length_cons, List.length_nil] at this; omega, rfl⟩
            rw [← HL4] at hn'
            have GL4 := Lib.hid HL4
            clear hn hq HL4
            have hn := Lib.hid hn'
            have hq := hq'
            clear hn' hq'
            clear hbD' r0
            obtain ⟨bE, hbE⟩ : ∃ b, decide (hi / 281474976710656 = 8193 ∧ hi / 4294967296 % 65536 = 0) = b := ⟨_, rfl⟩
            rw [hbE] at HZ
            have HE := Lib.hid hbE
            have r0 : yD.cell? ⟨B, 0, none⟩ = some (.int .i64 (hi / 281474976710656)) := HK.out yD hq 0 (by decide)
            have r1 : yD.cell? ⟨B, 1, none⟩ = some (.int .i64 (hi / 4294967296 % 65536)) := HK.out yD hq 1 (by decide)
            have HTE : Hid (hi / 65536 % 65536 * 65536 + hi % 65536 = hi % 4294967296) := by show _ = _; omega
            clear hbE
            go_upto_region 14 with fail
            go_cut [60] (fun v wc => v = .bool bE ∧ Below yD.heap.size yD wc)
            case first =>
              by_cases hP : hi / 281474976710656 = 8193
              · have d1 : (hi / 281474976710656 == 8193) = true := by rw [beq_iff_eq]; exact hP
                by_cases hQ : hi / 4294967296 % 65536 = 0
                · have d2 : (hi / 4294967296 % 65536 == 0) = true := by rw [beq_iff_eq]; exact hQ
                  have hB : bE = true := by rw [← HE.out]; exact decide_eq_true ⟨hP, hQ⟩
                  clear hP hQ
                  go_wp2
                  go_meet
                  exact ⟨by rw [hB], Below.refl _ _⟩
                · have d2 : (hi / 4294967296 % 65536 == 0) = false := by rw [beq_eq_false_iff_ne]; exact hQ
                  have hB : bE = false := by rw [← HE.out]; exact decide_eq_false fun h => hQ h.2
                  clear hP hQ
                  go_wp2
                  go_meet
                  exact ⟨by rw [hB], Below.refl _ _⟩
              · have d1 : (hi / 281474976710656 == 8193) = false := by rw [beq_eq_false_iff_ne]; exact hP
                have hB : bE = false := by rw [← HE.out]; exact decide_eq_false fun h => hP h.1
                clear hP
                go_wp2
                go_meet
                exact ⟨by rw [hB], Below.refl _ _⟩
            case rest =>
              rename World => yE0
              obtain ⟨rfl, hcb⟩ := hcut
              have hn' := Lib.hid (hn.out.below hcb)
              have hq' : Below x1.heap.size x1 yE0 := hq.trans (hcb.mono hq.size)
              clear hn hq hcb r0 r1
              have hn := hn'
              have hq := hq'
              clear hn' hq'
              go_upto_if 60 with fail
              go_cut [3] (fun v wc => Rw x1 wc v (L4 ++ pa bE [hi % 4294967296, 4294967295 - lw]))
              case first =>
                cases bE with
                | false =>
                  go_wp2
                  go_meet
                  exact ⟨by rw [pa_f, List.append_nil]; exact hn.out, hq⟩
                | true =>
                  go_wp2_with fail
                  refine (two_any _ (pcs hi lo) 2 (hi / 65536 % 65536) (hi % 65536) _ (HROW.out _ hq) (by rw [pcs_len]; decide) (by rw [pcs_len]; decide) rfl rfl (by omega) (by omega) (by omega) (by omega)).mono ?_
                  rw [HTE.out]
                  rintro e x5 ⟨rfl, hb5⟩
                  have hq5 : Below x1.heap.size x1 x5 := hq.trans (hb5.mono hq.size)
                  have ho1 : World.ownsRow x5 x1.heap.size 91 1 _ L4.length (L4.map (Value.int .u32)) := hn.out.below hb5
                  have tA1 : L4.length + 1 ≤ 9223372036854775807 := by have := hL4; omega
                  have tB1 : (L4.length + 1) * 4 ≤ 140737488355328 := by have := hL4; omega
                  have tC1 : x1.heap.size ≤ x5.heap.size := hq5.size
                  have tA2 : L4.length + 1 + 1 ≤ 9223372036854775807 := by have := hL4; omega
                  have tB2 : (L4.length + 1 + 1) * 4 ≤ 140737488355328 := by have := hL4; omega
                  clear hb5
                  go_wp2_with (first
                    | (at_builtin; refine wp_append1 _ rfl _ _ 128 rfl x1.heap.size 91 i0 (.int .u32 0) 4 Tryz.underlying128 hi0 hz0 hz1 hz2 rfl _ L4.length _ rfl ho1 (.int .u32 (hi % 4294967296)) rfl rfl tA1 tB1 tC1 ?_; intro v1 z1 hown1 hk1)
                    | (at_builtin; refine wp_append1 _ rfl _ _ 128 rfl x1.heap.size 91 i0 (.int .u32 0) 4 Tryz.underlying128 hi0 hz0 hz1 hz2 rfl _ (L4.length + 1) _ rfl hown1 (.int .u32 (4294967295 - lw)) rfl rfl tA2 tB2 (hq5.trans hk1).size ?_; intro v2 z2 hown2 hk2))
                  go_meet
                  exact ⟨by have := Nums.snoc (l := L4 ++ [(hi % 4294967296)]) (x := (4294967295 - lw)) (k := .u32) (by simpa using hown2); simpa [pa] using this, (hq5.trans hk1).trans hk2⟩
              case rest =>
                rename World => yE
                obtain ⟨hn', hq'⟩ := hcut
                obtain ⟨L5, hL5, HL5⟩ : ∃ L : List Int, L.length ≤ 6 ∧ L = L4 ++ pa bE [hi % 4294967296, 4294967295 - lw] := ⟨_, by have := pa_len bE [hi % 4294967296, 4294967295 - lw]; simp only [List.length_append]; simp only [List.length_cons, List.length_nil] at this; omega, rfl⟩
                rw [← HL5] at hn'
                have GL5 := Lib.hid HL5
                clear hn hq HL5
                have hn := Lib.hid hn'
                have hq := hq'
                clear hn' hq'
                obtain ⟨bF, hbF⟩ : ∃ b, decide ((lo / 281474976710656 = 0 ∨ lo / 281474976710656 = 512) ∧ lo / 4294967296 % 65536 = 24318) = b := ⟨_, rfl⟩
                rw [hbF] at HZ
                have HF := Lib.hid hbF
                have r4 : yE.cell? ⟨B, 4, none⟩ = some (.int .i64 (lo / 281474976710656)) := HK.out yE hq 4 (by decide)
                have r5 : yE.cell? ⟨B, 5, none⟩ = some (.int .i64 (lo / 4294967296 % 65536)) := HK.out yE hq 5 (by decide)
                clear hbF
                go_upto_region 17 with fail
                go_cut [86] (fun v wc => v = .bool bF ∧ Below yE.heap.size yE wc)
                case first =>
                  by_cases ha : lo / 281474976710656 = 0
                  · have d1 : (lo / 281474976710656 == 0) = true := by rw [beq_iff_eq]; exact ha
                    by_cases hc : lo / 4294967296 % 65536 = 24318
                    · have d3 : (lo / 4294967296 % 65536 == 24318) = true := by rw [beq_iff_eq]; exact hc
                      have hB : bF = true := by rw [← HF.out]; exact decide_eq_true ⟨.inl ha, hc⟩
                      clear ha hc
                      go_wp2
                      go_meet
                      exact ⟨by rw [hB], Below.refl _ _⟩
                    · have d3 : (lo / 4294967296 % 65536 == 24318) = false := by rw [beq_eq_false_iff_ne]; exact hc
                      have hB : bF = false := by rw [← HF.out]; exact decide_eq_false fun h => hc h.2
                      clear ha hc
                      go_wp2
                      go_meet
                      exact ⟨by rw [hB], Below.refl _ _⟩
                  · have d1 : (lo / 281474976710656 == 0) = false := by rw [beq_eq_false_iff_ne]; exact ha
                    by_cases hb : lo / 281474976710656 = 512
                    · have d2 : (lo / 281474976710656 == 512) = true := by rw [beq_iff_eq]; exact hb
                      by_cases hc : lo / 4294967296 % 65536 = 24318
                      · have d3 : (lo / 4294967296 % 65536 == 24318) = true := by rw [beq_iff_eq]; exact hc
                        have hB : bF = true := by rw [← HF.out]; exact decide_eq_true ⟨.inr hb, hc⟩
                        clear ha hb hc
                        go_wp2
                        go_meet
                        exact ⟨by rw [hB], Below.refl _ _⟩
                      · have d3 : (lo / 4294967296 % 65536 == 24318) = false := by rw [beq_eq_false_iff_ne]; exact hc
                        have hB : bF = false := by rw [← HF.out]; exact decide_eq_false fun h => hc h.2
                        clear ha hb hc
                        go_wp2
                        go_meet
                        exact ⟨by rw [hB], Below.refl _ _⟩
                    · have d2 : (lo / 281474976710656 == 512) = false := by rw [beq_eq_false_iff_ne]; exact hb
                      have hB : bF = false := by rw [← HF.out]; exact decide_eq_false fun h => h.1.elim ha hb
                      clear ha hb
                      go_wp2
                      go_meet
                      exact ⟨by rw [hB], Below.refl _ _⟩
                case rest =>
                  rename World => yF0
                  obtain ⟨rfl, hcb⟩ := hcut
                  have hn' := Lib.hid (hn.out.below hcb)
                  have hq' : Below x1.heap.size x1 yF0 := hq.trans (hcb.mono hq.size)
                  clear hn hq hcb r4 r5
                  have hn := hn'
                  have hq := hq'
                  clear hn' hq'
                  go_upto_if 86 with fail
                  go_cut [3] (fun v wc => Rw x1 wc v (L5 ++ pa bF [lw]))
                  case first =>
                    cases bF with
                    | false =>
                      go_wp2
                      go_meet
                      exact ⟨by rw [pa_f, List.append_nil]; exact hn.out, hq⟩
                    | true =>
                      have ho1 : World.ownsRow yF0 x1.heap.size 91 1 _ L5.length (L5.map (Value.int .u32)) := hn.out
                      have tA1 : L5.length + 1 ≤ 9223372036854775807 := by have := hL5; omega
                      have tB1 : (L5.length + 1) * 4 ≤ 140737488355328 := by have := hL5; omega
                      have tC1 : x1.heap.size ≤ yF0.heap.size := hq.size
                      go_wp2_with (first
                        | (at_builtin; refine wp_append1 _ rfl _ _ 128 rfl x1.heap.size 91 i0 (.int .u32 0) 4 Tryz.underlying128 hi0 hz0 hz1 hz2 rfl _ L5.length _ rfl ho1 (.int .u32 lw) rfl rfl tA1 tB1 tC1 ?_; intro v1 z1 hown1 hk1))
                      go_meet
                      exact ⟨Nums.snoc hown1, hq.trans hk1⟩
                  case rest =>
                    rename World => yF
                    obtain ⟨hn', hq'⟩ := hcut
                    obtain ⟨L6, hL6, HL6⟩ : ∃ L : List Int, L.length ≤ 7 ∧ L = L5 ++ pa bF [lw] := ⟨_, by have := pa_len bF [lw]; simp only [List.length_append]; simp only [List.length_cons, List.length_nil] at this; omega, rfl⟩
                    rw [← HL6] at hn'
                    have GL6 := Lib.hid HL6
                    clear hn hq HL6
                    have hn := Lib.hid hn'
                    have hq := hq'
                    clear hn' hq'
                    go_wp2
                    go_ret
                    refine ⟨_, rfl, ?_, HC1.out.trans (hq.mono HC1.out.size)⟩
                    have hlist : innerZ hi lo = L6 := by rw [HZ.out, GL6.out, GL5.out, GL4.out, GL3.out, GL2.out, GL1.out, GL0.out, List.nil_append]
                    rw [hlist]
                    exact hn.out.mono HC1.out.size
end
section
open Go.RowKit
theorem make_ok (is : Bool) (hi lo : Int) (h0 : 0 ≤ hi) (h1 : hi ≤ 18446744073709551615) (l0 : 0 ≤ lo) (l1 : lo ≤ 18446744073709551615) : (AZ.make is hi lo).Ok := by
  cases is with
  | true => exact ⟨⟨h0, h1⟩, l0, l1⟩
  | false => exact ⟨by omega, by omega⟩
end
section
open Go.RowKit
def innerA : AZ → List Int
  | .four _ => []
  | .six hi lo => innerZ hi lo
set_option maxRecDepth 100000 in
set_option maxHeartbeats 1000000 in
theorem refInner_four (hi lo : Int) (w : World) :
    Calls Tryz.prog 64 #[.agg #[.bool false, .int .u64 hi, .int .u64 lo]] w (RetU32s w []) := by
  go_enter Tryz.func64, Tryz.ntmps64
  go_wp2
  go_ret
  exact ⟨_, rfl, Nums.nil _ _ _ _, (Below.refl _ _).alloc (Nat.le_refl _) _⟩
theorem refInner_any (a : AZ) (w : World) (h : a.Ok) :
    Calls Tryz.prog 64 #[refV (refA (some a))] w (RetU32s w (innerA a)) := by
  cases a with
  | four n => exact refInner_four _ _ w
  | six hi lo => exact refInner_six hi lo w h.1.1 h.1.2 h.2.1 h.2.2
theorem inner_any (a : AZ) (w : World) (h : a.Ok) :
    Calls Tryz.prog 44 #[a.val] w (RetFours w (innerA a)) := by
  cases a with
  | four n => exact inner_four n w
  | six hi lo => exact inner_six hi lo w h.1.1 h.1.2 h.2.1 h.2.2
theorem inner_len (hi lo : Int) : (innerZ hi lo).length ≤ 12 := by
  have hA : (inA hi (lo / 4294967296) (lo % 4294967296)).length ≤ 2 := by unfold inA; split <;> simp
  have hB : (inCo hi (lo / 4294967296) (lo % 4294967296)).length ≤ 2 := by unfold inCo; split <;> simp
  have hC : (inC hi (lo / 4294967296) (lo % 4294967296)).length ≤ 2 := by unfold inC; split <;> simp
  have hD : (inD hi).length ≤ 2 := by unfold inD; split <;> simp
  have hE : (inE hi (lo % 4294967296)).length ≤ 2 := by unfold inE; split <;> simp
  have hF : (inF (lo / 4294967296) (lo % 4294967296)).length ≤ 2 := by unfold inF; split <;> simp
  unfold innerZ
  simp only [List.length_append]
  omega
theorem innerA_len (a : AZ) : (innerA a).length ≤ 12 := by
  cases a with
  | four n => exact Nat.zero_le _
  | six hi lo => exact inner_len hi lo
end
end

section
open Go.RowKit
/-- an address as a wide number -/
def AZ.wd (a : AZ) : Nat := wideN a.hi.toNat a.lo.toNat
theorem AZ.ok_hl {a : AZ} (h : a.Ok) : ∃ hi lo : Nat, a.hi = hi ∧ a.lo = lo ∧ hi < 18446744073709551616 ∧ lo < 18446744073709551616 ∧ a.wd = wideN hi lo := by
  have : (0 ≤ a.hi ∧ a.hi ≤ 18446744073709551615) ∧ (0 ≤ a.lo ∧ a.lo ≤ 18446744073709551615) := by
    cases a with
    | four n => have := h.1; have := h.2; simp only [AZ.hi, AZ.lo]; omega
    | six x y => exact h
  exact ⟨a.hi.toNat, a.lo.toNat, by omega, by omega, by omega, by omega, rfl⟩
theorem bcell7 {W w1 : World} (hb : Below W.heap.size W w1) : (∀ b o, b < W.heap.size → w1.cell? ⟨b, o, none⟩ = W.cell? ⟨b, o, none⟩) ∧ (∀ b o, b < W.heap.size → w1.frozen? ⟨b, o, none⟩ = W.frozen? ⟨b, o, none⟩) :=
  ⟨fun b o h => hb.cell (p := ⟨b, o, none⟩) h, fun b o h => hb.frozen (p := ⟨b, o, none⟩) h⟩
theorem alloc_then {w W : World} {o : Obj} (h : Below (w.alloc o).heap.size (w.alloc o) W) : Below w.heap.size w W := alloc_keeps (h.mono (by simp))
theorem below_chain7 {x y z : World} (h : Below x.heap.size x y) (k : Below y.heap.size y z) : Below x.heap.size x z := h.trans (k.mono h.size)
theorem AZ.wd_lt {a : AZ} (h : a.Ok) : a.wd < 2 ^ 128 := by
  obtain ⟨hi, lo, _, _, h1, h2, e⟩ := AZ.ok_hl h
  rw [e]; exact wide_lt h1 h2
set_option maxRecDepth 100000 in
set_option maxHeartbeats 1000000 in
theorem pOf_four (n : Int) (k : Nat) (w : World) (h0 : 0 ≤ n) (h1 : n ≤ 4294967295) (hk : k ≤ 128) :
    Calls Tryz.prog 52 #[.iface 92 (.int .u32 n), .int .i64 k] w fun e w' => e = .returned (.tuple #[pfW (ofW (AZ.four n).wd k) k, .bool true]) ∧ Below w.heap.size w w' := by
  obtain ⟨hi, lo, e1, e2, b1, b2, e3⟩ := AZ.ok_hl (a := .four n) ⟨h0, h1⟩
  have HC : Hid (∀ W, Calls Tryz.prog 57 #[.int .u64 0, .int .u64 (281470681743360 + n), .int .i64 k] W fun e w' => e = .returned (pfW (ofW (AZ.four n).wd k) k) ∧ Below W.heap.size W w') := fun W => by
    have := highest_any hi lo k W b1 b2 hk
    rw [← e1, ← e2, ← e3] at this
    exact this
  have hv : ∃ x y : Int, pfW (ofW (AZ.four n).wd k) k = .agg #[.int .u64 x, .int .u64 y, .int .i64 k] := ⟨_, _, rfl⟩
  obtain ⟨x, y, hv⟩ := hv
  rw [hv]
  rw [hv] at HC
  have hma : ∀ w : World, (method 379 92 (.int .u32 n) "Wide").run Tryz.prog w = .ok (45, (.int .u32 n)) w := fun _ => by kernel_rfl
  clear e1 e2 e3 hv
  go_enter Tryz.func52, Tryz.ntmps52
  go_wp2_with fail
  refine (wide_any n _ h0 h1).mono ?_
  rintro e x1 ⟨rfl, rfl⟩
  go_wp2_with fail
  refine (HC.out _).mono ?_
  rintro e x2 ⟨rfl, hb2⟩
  obtain ⟨hc, hf⟩ := bcell7 hb2
  go_wp2
  refine bodyPost_ret (v := .tuple #[.agg #[.int .u64 x, .int .u64 y, .int .i64 k], .bool true]) (by simp [results, Tryz.results52, go_sem, hc]) rfl ⟨rfl, ?_⟩
  exact (((alloc_then hb2).setCell (Nat.le_refl _) _).setCell (Nat.le_refl _) _).setCell (Nat.le_refl _) _
set_option maxRecDepth 100000 in
set_option maxHeartbeats 1000000 in
theorem pOf_six (hi lo k : Nat) (w : World) (b1 : hi < 18446744073709551616) (b2 : lo < 18446744073709551616) (hk : k ≤ 128) :
    Calls Tryz.prog 52 #[.iface 96 (.agg #[.int .u64 hi, .int .u64 lo]), .int .i64 k] w fun e w' => e = .returned (.tuple #[pfW (ofW (wideN hi lo) k) k, .bool true]) ∧ Below w.heap.size w w' := by
  have HC : Hid (∀ W, Calls Tryz.prog 57 #[.int .u64 hi, .int .u64 lo, .int .i64 k] W fun e w' => e = .returned (pfW (ofW (wideN hi lo) k) k) ∧ Below W.heap.size W w') := fun W =>
    highest_any hi lo k W b1 b2 hk
  have hv : ∃ x y : Int, pfW (ofW (wideN hi lo) k) k = .agg #[.int .u64 x, .int .u64 y, .int .i64 k] := ⟨_, _, rfl⟩
  obtain ⟨x, y, hv⟩ := hv
  rw [hv]
  rw [hv] at HC
  have hma : ∀ w : World, (method 379 96 (.agg #[.int .u64 hi, .int .u64 lo]) "Wide").run Tryz.prog w = .ok (81, (.agg #[.int .u64 hi, .int .u64 lo])) w := fun _ => by kernel_rfl
  clear hv
  go_enter Tryz.func52, Tryz.ntmps52
  go_wp2_with fail
  refine (wide6_any _ _ _).mono ?_
  rintro e x1 ⟨rfl, hb1⟩
  obtain ⟨hc1, hf1⟩ := bcell7 hb1
  go_wp2_with fail
  refine (HC.out _).mono ?_
  rintro e x2 ⟨rfl, hb2⟩
  have hb3 := below_chain7 hb1 hb2
  clear hc1 hf1 hb1 hb2
  obtain ⟨hc, hf⟩ := bcell7 hb3
  go_wp2
  refine bodyPost_ret (v := .tuple #[.agg #[.int .u64 x, .int .u64 y, .int .i64 k], .bool true]) (by simp [results, Tryz.results52, go_sem, hc]) rfl ⟨rfl, ?_⟩
  exact (((alloc_then hb3).setCell (Nat.le_refl _) _).setCell (Nat.le_refl _) _).setCell (Nat.le_refl _) _
theorem pOf_any (a : AZ) (k : Nat) (w : World) (h : a.Ok) (hk : k ≤ 128) :
    Calls Tryz.prog 52 #[a.val, .int .i64 k] w fun e w' => e = .returned (.tuple #[pfW (ofW a.wd k) k, .bool true]) ∧ Below w.heap.size w w' := by
  cases a with
  | four n => exact pOf_four n k w h.1 h.2 hk
  | six x y =>
    obtain ⟨hi, lo, e1, e2, b1, b2, e3⟩ := AZ.ok_hl h
    simp only [AZ.hi, AZ.lo] at e1 e2
    subst e1 e2
    rw [e3]
    exact pOf_six hi lo k w b1 b2 hk
set_option maxRecDepth 100000 in
set_option maxHeartbeats 1000000 in
theorem pOf_out (x : Option AZ) (n : Int) (w : World) (h : n < 0 ∨ 128 < n) :
    Calls Tryz.prog 52 #[optV x, .int .i64 n] w fun e w' => e = .returned (.tuple #[pfW 0 0, .bool false]) ∧ Below w.heap.size w w' := by
  obtain ⟨v, hv⟩ : ∃ v, optV x = v := ⟨_, rfl⟩
  rw [hv]
  clear hv
  by_cases h0 : n < 0
  · clear h
    go_enter Tryz.func52, Tryz.ntmps52
    go_wp2
    refine bodyPost_ret (v := .tuple #[.agg #[.int .u64 0, .int .u64 0, .int .i64 0], .bool false]) (by simp [results, Tryz.results52, go_sem]) rfl ⟨rfl, ?_⟩
    exact (Below.refl _ _).alloc (Nat.le_refl _) _
  · have h1 : 128 < n := by omega
    clear h
    go_enter Tryz.func52, Tryz.ntmps52
    go_wp2
    refine bodyPost_ret (v := .tuple #[.agg #[.int .u64 0, .int .u64 0, .int .i64 0], .bool false]) (by simp [results, Tryz.results52, go_sem]) rfl ⟨rfl, ?_⟩
    exact (Below.refl _ _).alloc (Nat.le_refl _) _
set_option maxRecDepth 100000 in
set_option maxHeartbeats 1000000 in
theorem pOf_nil (k : Nat) (w : World) (h : k ≤ 128) :
    Calls Tryz.prog 52 #[.nilIface, .int .i64 k] w fun e w' => e = .returned (.tuple #[pfW 0 0, .bool false]) ∧ Below w.heap.size w w' := by
  go_enter Tryz.func52, Tryz.ntmps52
  go_wp2
  refine bodyPost_ret (v := .tuple #[.agg #[.int .u64 0, .int .u64 0, .int .i64 0], .bool false]) (by simp [results, Tryz.results52, go_sem]) rfl ⟨rfl, ?_⟩
  exact (Below.refl _ _).alloc (Nat.le_refl _) _
set_option maxRecDepth 100000 in
set_option maxHeartbeats 1000000 in
theorem pHas_in (hi lo k : Nat) (a : AZ) (w : World) (_ : hi < 18446744073709551616) (h2 : lo < 18446744073709551616) (ha : a.Ok) (hk : k ≤ 128) :
    Calls Tryz.prog 21 #[.agg #[.int .u64 hi, .int .u64 lo, .int .i64 k], a.val] w fun e w' => e = .returned (.bool (pHasB (wideN hi lo) k a.wd)) ∧ Below w.heap.size w w' := by
  obtain ⟨x, g1⟩ : ∃ x, hiN (ofW a.wd k) = x := ⟨_, rfl⟩
  obtain ⟨y, g2⟩ : ∃ y, loN (ofW a.wd k) = y := ⟨_, rfl⟩
  have HC : Hid (∀ W, Calls Tryz.prog 52 #[a.val, .int .i64 k] W fun e w' => e = .returned (.tuple #[.agg #[.int .u64 (x : Nat), .int .u64 (y : Nat), .int .i64 k], .bool true]) ∧ Below W.heap.size W w') := fun W => by
    have := pOf_any a k W ha hk
    unfold pfW at this
    rw [g1, g2] at this
    exact this
  have hb : ((x : Int) == hi && ((y : Int) == lo && (k : Int) == k)) = pHasB (wideN hi lo) k a.wd := by
    rw [Bool.eq_iff_iff, pHasB_nat]
    simp only [Bool.and_eq_true, beq_iff_eq, and_true]
    constructor
    · rintro ⟨q1, q2⟩
      have : ofW a.wd k = wideN hi lo := wide_inj (by rw [g1, hiN_wide h2]; omega) (by rw [g2, loN_wide h2]; omega)
      rw [← this]
      exact ⟨⟨hk, rt_of _ _⟩, qt_of _ _⟩
    · rintro ⟨⟨_, q1⟩, q2⟩
      have : ofW a.wd k = wideN hi lo := rt_same (rt_of _ _) q1 ((qt_of _ _).trans q2.symm)
      rw [this, hiN_wide h2] at g1
      rw [this, loN_wide h2] at g2
      omega
  have heq := eqPf x y k hi lo k
  rw [hb] at heq
  have hg := eqPf_guard
  obtain ⟨va, hva⟩ : ∃ v, a.val = v := ⟨_, rfl⟩
  rw [hva] at HC ⊢
  clear g1 g2 hb hva
  generalize pHasB (wideN hi lo) k a.wd = b at *
  go_enter Tryz.func21, Tryz.ntmps21
  go_wp2_with fail
  refine (HC.out _).mono ?_
  rintro e x2 ⟨rfl, hb2⟩
  obtain ⟨c0, c1, c2⟩ := keep_box w _ _ _ _ x2 (hb2.mono (by simp))
  have hz : w.heap.size < x2.heap.size := by have := hb2.size; simp at this; omega
  go_wp2
  go_ret
  exact ⟨rfl, (alloc_then hb2).alloc (alloc_then hb2).size _⟩
set_option maxRecDepth 100000 in
set_option maxHeartbeats 1000000 in
theorem pHas_no (hi lo : Nat) (n : Int) (v : Value) (w : World) (HC : Hid (∀ W, Calls Tryz.prog 52 #[v, .int .i64 n] W fun e w' => e = .returned (.tuple #[.agg #[.int .u64 0, .int .u64 0, .int .i64 0], .bool false]) ∧ Below W.heap.size W w')) :
    Calls Tryz.prog 21 #[.agg #[.int .u64 hi, .int .u64 lo, .int .i64 n], v] w fun e w' => e = .returned (.bool false) ∧ Below w.heap.size w w' := by
  go_enter Tryz.func21, Tryz.ntmps21
  go_wp2_with fail
  refine (HC.out _).mono ?_
  rintro e x2 ⟨rfl, hb2⟩
  obtain ⟨c0, c1, c2⟩ := keep_box w _ _ _ _ x2 (hb2.mono (by simp))
  have hz : w.heap.size < x2.heap.size := by have := hb2.size; simp at this; omega
  go_wp2
  go_ret
  exact ⟨rfl, (alloc_then hb2).alloc (alloc_then hb2).size _⟩
theorem pHas_any (hi lo : Nat) (n : Int) (a : AZ) (w : World) (h1 : hi < 18446744073709551616) (h2 : lo < 18446744073709551616) (ha : a.Ok) :
    Calls Tryz.prog 21 #[.agg #[.int .u64 hi, .int .u64 lo, .int .i64 n], a.val] w fun e w' => e = .returned (.bool (pHasB (wideN hi lo) n a.wd)) ∧ Below w.heap.size w w' := by
  by_cases h : n < 0 ∨ 128 < n
  · rw [show pHasB (wideN hi lo) n a.wd = false from by unfold pHasB; rw [pRightB_out h]; rfl]
    exact pHas_no hi lo n a.val w (fun W => pOf_out (some a) n W h)
  · obtain ⟨k, rfl⟩ := Int.eq_ofNat_of_zero_le (show 0 ≤ n by omega)
    exact pHas_in hi lo k a w h1 h2 ha (by omega)
end

section
open Go.RowKit
theorem div_two (X j : Nat) : X / 2 ^ j / 2 = X / 2 ^ (j + 1) := by rw [Nat.div_div_eq_div_mul, Nat.pow_succ]
set_option maxRecDepth 100000 in
set_option maxHeartbeats 1000000 in
theorem refBit_hi (hi lo i : Nat) (w : World) (h1 : hi < 18446744073709551616) (h2 : lo < 18446744073709551616) (hi2 : i < 64) :
    Calls Tryz.prog 83 #[.int .u64 hi, .int .u64 lo, .int .i64 i] w fun e w' => e = .returned (.int .i64 (bitW (wideN hi lo) i : Nat)) ∧ w = w' := by
  have HB := Lib.hid (bit_hi (hi := hi) (show lo < 2 ^ 64 from h2) i hi2)
  go_enter Tryz.func83, Tryz.ntmps83
  go_wp2
  go_loop [7, 8] (fun x k => ∃ j X : Nat, j ≤ 63 - i ∧ k = .int .i64 ((63 - i - j : Nat) : Int) ∧ x = .int .u64 X ∧ X < 18446744073709551616 ∧ Hid (X = hi / 2 ^ j)) (fun _ k => (intOf k).toNat)
  case atStart => exact ⟨0, hi, Nat.zero_le _, by simp; omega, rfl, h1, by show hi = _; simp⟩
  case round =>
    obtain ⟨j, X, hj, rfl, rfl, hX, HX⟩ := hrel
    by_cases hlt : 0 < 63 - i - j
    · go_wp2
      go_round
      case rel => exact ⟨j + 1, X / 2, by omega, by simp; omega, by simp, by omega, by show X / 2 = _; rw [HX.out, div_two]⟩
      case measure => simp [intOf]; omega
    · have e : 63 - i - j = 0 := by omega
      have HE : Hid ((X : Int) % 2 = (bitW (wideN hi lo) i : Nat)) := by
        show _ = _
        rw [← HB.out, ← show j = 63 - i from by omega, ← HX.out]; omega
      go_wp2
      go_ret
      exact ⟨retV (show Value.int .i64 _ = _ by rw [HE.out]), rfl⟩
set_option maxRecDepth 100000 in
set_option maxHeartbeats 1000000 in
theorem refBit_lo (hi lo i : Nat) (w : World) (h2 : lo < 18446744073709551616) (hi2 : 64 ≤ i) (hi3 : i < 128) :
    Calls Tryz.prog 83 #[.int .u64 hi, .int .u64 lo, .int .i64 i] w fun e w' => e = .returned (.int .i64 (bitW (wideN hi lo) i : Nat)) ∧ w = w' := by
  have HB := Lib.hid (bit_lo (hi := hi) (lo := lo) i hi2 hi3)
  go_enter Tryz.func83, Tryz.ntmps83
  go_wp2
  go_loop [7, 8] (fun x k => ∃ j X : Nat, j ≤ 127 - i ∧ k = .int .i64 ((127 - i - j : Nat) : Int) ∧ x = .int .u64 X ∧ X < 18446744073709551616 ∧ Hid (X = lo / 2 ^ j)) (fun _ k => (intOf k).toNat)
  case atStart => exact ⟨0, lo, Nat.zero_le _, by simp; omega, rfl, h2, by show lo = _; simp⟩
  case round =>
    obtain ⟨j, X, hj, rfl, rfl, hX, HX⟩ := hrel
    by_cases hlt : 0 < 127 - i - j
    · go_wp2
      go_round
      case rel => exact ⟨j + 1, X / 2, by omega, by simp; omega, by simp, by omega, by show X / 2 = _; rw [HX.out, div_two]⟩
      case measure => simp [intOf]; omega
    · have e : 127 - i - j = 0 := by omega
      have HE : Hid ((X : Int) % 2 = (bitW (wideN hi lo) i : Nat)) := by
        show _ = _
        rw [← HB.out, ← show j = 127 - i from by omega, ← HX.out]; omega
      go_wp2
      go_ret
      exact ⟨retV (show Value.int .i64 _ = _ by rw [HE.out]), rfl⟩
theorem refBit_any (hi lo i : Nat) (w : World) (h1 : hi < 18446744073709551616) (h2 : lo < 18446744073709551616) (h : i < 128) :
    Calls Tryz.prog 83 #[.int .u64 hi, .int .u64 lo, .int .i64 i] w fun e w' => e = .returned (.int .i64 (bitW (wideN hi lo) i : Nat)) ∧ w = w' := by
  by_cases h3 : i < 64
  · exact refBit_hi hi lo i w h1 h2 h3
  · exact refBit_lo hi lo i w h2 (by omega) h
theorem rt_bits {W n : Nat} (hn : n ≤ 128) : rt W n ↔ ∀ i, n ≤ i → i < 128 → bitW W i = 0 := (right_bits W n hn).symm
set_option maxRecDepth 100000 in
set_option maxHeartbeats 1000000 in
theorem refRight_in (hi lo n : Nat) (w : World) (h1 : hi < 18446744073709551616) (h2 : lo < 18446744073709551616) (hn : n ≤ 128) :
    Calls Tryz.prog 62 #[.agg #[.int .u64 hi, .int .u64 lo, .int .i64 n]] w fun e w' => e = .returned (.bool (pRightB (wideN hi lo) n)) ∧ Below w.heap.size w w' := by
  go_enter Tryz.func62, Tryz.ntmps62
  go_wp2
  go_loop [3] (fun x => ∃ i : Nat, n ≤ i ∧ i ≤ 128 ∧ x = .int .i64 i ∧ Hid (∀ j, n ≤ j → j < i → bitW (wideN hi lo) j = 0)) (fun x => 128 - (intOf x).toNat)
  case atStart => exact ⟨n, Nat.le_refl _, hn, rfl, fun j a b => by omega⟩
  case round =>
    obtain ⟨i, hi1, hi2, rfl, H⟩ := hrel
    by_cases hlt : i < 128
    · have hb2 := bitW_two (wideN hi lo) i
      by_cases hz : bitW (wideN hi lo) i = 0
      · have HN : Hid (∀ W, Calls Tryz.prog 83 #[.int .u64 hi, .int .u64 lo, .int .i64 i] W fun e w' => e = .returned (.int .i64 0) ∧ W = w') := fun W => by
          have := refBit_any hi lo i W h1 h2 hlt; rw [hz] at this; exact this
        have HZ := Lib.hid hz
        clear hz hb2
        go_wp2_with fail
        refine (HN.out _).mono ?_
        rintro e w' ⟨rfl, rfl⟩
        go_wp2
        go_round
        case rel =>
          refine ⟨i + 1, by omega, by omega, by go_num, fun j a b => ?_⟩
          by_cases e : j = i
          · rw [e]; exact HZ.out
          · exact H.out j a (by omega)
        case measure => simp [intOf]; omega
      · have hz1 : bitW (wideN hi lo) i = 1 := by omega
        have HN : Hid (∀ W, Calls Tryz.prog 83 #[.int .u64 hi, .int .u64 lo, .int .i64 i] W fun e w' => e = .returned (.int .i64 1) ∧ W = w') := fun W => by
          have := refBit_any hi lo i W h1 h2 hlt; rw [hz1] at this; exact this
        have HF : Hid (pRightB (wideN hi lo) n = false) := by
          show _ = _
          rw [Bool.eq_false_iff, ne_eq, pRightB_nat, rt_bits hn]
          exact fun g => hz (g.2 i hi1 hlt)
        clear hz hb2 hz1
        go_wp2_with fail
        refine (HN.out _).mono ?_
        rintro e w' ⟨rfl, rfl⟩
        go_wp2
        go_ret
        exact ⟨ret_bool HF.out.symm, (Below.refl _ _).alloc (Nat.le_refl _) _⟩
    · have HF : Hid (pRightB (wideN hi lo) n = true) := by
        show _ = _
        rw [pRightB_nat, rt_bits hn]
        exact ⟨hn, fun j a b => H.out j a (by omega)⟩
      have e : i = 128 := by omega
      subst e
      go_wp2
      go_ret
      exact ⟨ret_bool HF.out.symm, (Below.refl _ _).alloc (Nat.le_refl _) _⟩
set_option maxRecDepth 100000 in
set_option maxHeartbeats 1000000 in
theorem refRight_out (hi lo : Nat) (n : Int) (w : World) (h : n < 0 ∨ 128 < n) :
    Calls Tryz.prog 62 #[.agg #[.int .u64 hi, .int .u64 lo, .int .i64 n]] w fun e w' => e = .returned (.bool false) ∧ Below w.heap.size w w' := by
  by_cases h0 : n < 0
  · clear h
    go_enter Tryz.func62, Tryz.ntmps62
    go_wp2
    go_ret
    exact ⟨rfl, (Below.refl _ _).alloc (Nat.le_refl _) _⟩
  · have h1 : 128 < n := by omega
    clear h
    go_enter Tryz.func62, Tryz.ntmps62
    go_wp2
    go_ret
    exact ⟨rfl, (Below.refl _ _).alloc (Nat.le_refl _) _⟩
theorem refRight7_any (hi lo : Nat) (n : Int) (w : World) (h1 : hi < 18446744073709551616) (h2 : lo < 18446744073709551616) :
    Calls Tryz.prog 62 #[.agg #[.int .u64 hi, .int .u64 lo, .int .i64 n]] w fun e w' => e = .returned (.bool (pRightB (wideN hi lo) n)) ∧ Below w.heap.size w w' := by
  by_cases h : n < 0 ∨ 128 < n
  · rw [pRightB_out h]; exact refRight_out hi lo n w h
  · obtain ⟨k, rfl⟩ := Int.eq_ofNat_of_zero_le (show 0 ≤ n by omega)
    exact refRight_in hi lo k w h1 h2 (by omega)
end

section
open Go.RowKit
theorem keep_box33 (w : World) (a b c a' b' c' : Value) (t t' : TypeId) : ∀ W, Below (w.heap.size + 2) ((w.alloc (.cells #[a, b, c] t)).alloc (.cells #[a', b', c'] t')) W →
    (W.cell? ⟨w.heap.size, 0, none⟩ = some a ∧ W.cell? ⟨w.heap.size, 1, none⟩ = some b ∧ W.cell? ⟨w.heap.size, 2, none⟩ = some c) ∧ W.cell? ⟨w.heap.size + 1, 0, none⟩ = some a' ∧ W.cell? ⟨w.heap.size + 1, 1, none⟩ = some b' ∧ W.cell? ⟨w.heap.size + 1, 2, none⟩ = some c' := fun W h => by
  refine ⟨⟨?_, ?_, ?_⟩, ?_, ?_, ?_⟩
  · rw [h.cell (p := ⟨w.heap.size, _, none⟩) (by show w.heap.size < _; omega)]; simp [go_sem]
  · rw [h.cell (p := ⟨w.heap.size, _, none⟩) (by show w.heap.size < _; omega)]; simp [go_sem]
  · rw [h.cell (p := ⟨w.heap.size, _, none⟩) (by show w.heap.size < _; omega)]; simp [go_sem]
  · rw [h.cell (p := ⟨w.heap.size + 1, _, none⟩) (by show w.heap.size + 1 < _; omega)]; simp [go_sem]
  · rw [h.cell (p := ⟨w.heap.size + 1, _, none⟩) (by show w.heap.size + 1 < _; omega)]; simp [go_sem]
  · rw [h.cell (p := ⟨w.heap.size + 1, _, none⟩) (by show w.heap.size + 1 < _; omega)]; simp [go_sem]
theorem qt_bits {P A n : Nat} (hP : P < 2 ^ 128) (hA : A < 2 ^ 128) (hn : n ≤ 128) : qt P n = qt A n ↔ ∀ i, i < n → bitW P i = bitW A i := (has_bits P A n hP hA hn).symm
set_option maxRecDepth 100000 in
set_option maxHeartbeats 1000000 in
theorem refHas_in (hi lo n ah al : Nat) (s : Bool) (w : World) (h1 : hi < 18446744073709551616) (h2 : lo < 18446744073709551616) (h3 : ah < 18446744073709551616) (h4 : al < 18446744073709551616) (hr : pRightB (wideN hi lo) n = true) :
    Calls Tryz.prog 49 #[.agg #[.int .u64 hi, .int .u64 lo, .int .i64 n], .agg #[.bool s, .int .u64 ah, .int .u64 al]] w fun e w' => e = .returned (.bool (pHasB (wideN hi lo) n (wideN ah al))) ∧ Below w.heap.size w w' := by
  obtain ⟨hn, hrt⟩ := pRightB_nat.1 hr
  have HR : Hid (∀ W, Calls Tryz.prog 62 #[.agg #[.int .u64 hi, .int .u64 lo, .int .i64 n]] W fun e w' => e = .returned (.bool true) ∧ Below W.heap.size W w') := fun W => by
    have := refRight7_any hi lo n W h1 h2; rwa [hr] at this
  have HK := Lib.hid (keep_box33 w (.int .u64 hi) (.int .u64 lo) (.int .i64 n) (.bool s) (.int .u64 ah) (.int .u64 al) 50 31)
  have HRT := Lib.hid hrt
  clear hr hrt
  go_enter Tryz.func49, Tryz.ntmps49
  go_wp2_with fail
  refine (HR.out _).mono ?_
  rintro e x1 ⟨rfl, hb1⟩
  have hk1 : Below (w.heap.size + 2) ((w.alloc (.cells #[.int .u64 hi, .int .u64 lo, .int .i64 n] 50)).alloc (.cells #[.bool s, .int .u64 ah, .int .u64 al] 31)) x1 := hb1.mono (by simp)
  clear hb1
  go_wp2
  go_loopw [5] (fun x wr => ∃ i : Nat, i ≤ n ∧ x = .int .i64 i ∧ Below (w.heap.size + 2) ((w.alloc (.cells #[.int .u64 hi, .int .u64 lo, .int .i64 n] 50)).alloc (.cells #[.bool s, .int .u64 ah, .int .u64 al] 31)) wr ∧ Hid (∀ j, j < i → bitW (wideN hi lo) j = bitW (wideN ah al) j)) (fun x _ => n - (intOf x).toNat)
  case atStart => exact ⟨0, Nat.zero_le _, rfl, hk1, fun j a => by omega⟩
  case round =>
    obtain ⟨i, hi2, rfl, hk, H⟩ := hrel
    obtain ⟨⟨c0, c1, c2⟩, c3, c4, c5⟩ := HK.out wr hk
    by_cases hlt : i < n
    · have p1 : Hid (∀ W, Below (w.heap.size + 2) ((w.alloc (.cells #[.int .u64 hi, .int .u64 lo, .int .i64 n] 50)).alloc (.cells #[.bool s, .int .u64 ah, .int .u64 al] 31)) W → Calls Tryz.prog 83 #[.int .u64 hi, .int .u64 lo, .int .i64 i] W fun e w' => e = .returned (.int .i64 (bitW (wideN hi lo) i : Nat)) ∧ Below (w.heap.size + 2) ((w.alloc (.cells #[.int .u64 hi, .int .u64 lo, .int .i64 n] 50)).alloc (.cells #[.bool s, .int .u64 ah, .int .u64 al] 31)) w') := fun W hW => (refBit_any hi lo i W h1 h2 (by omega)).mono fun _ _ ⟨he, hw⟩ => ⟨he, hw ▸ hW⟩
      have p2 : Hid (∀ W, Below (w.heap.size + 2) ((w.alloc (.cells #[.int .u64 hi, .int .u64 lo, .int .i64 n] 50)).alloc (.cells #[.bool s, .int .u64 ah, .int .u64 al] 31)) W → Calls Tryz.prog 83 #[.int .u64 ah, .int .u64 al, .int .i64 i] W fun e w' => e = .returned (.int .i64 (bitW (wideN ah al) i : Nat)) ∧ Below (w.heap.size + 2) ((w.alloc (.cells #[.int .u64 hi, .int .u64 lo, .int .i64 n] 50)).alloc (.cells #[.bool s, .int .u64 ah, .int .u64 al] 31)) w') := fun W hW => (refBit_any ah al i W h3 h4 (by omega)).mono fun _ _ ⟨he, hw⟩ => ⟨he, hw ▸ hW⟩
      by_cases hz : bitW (wideN hi lo) i = bitW (wideN ah al) i
      · have t1 : ((bitW (wideN hi lo) i : Int) != (bitW (wideN ah al) i : Int)) = false := by simp [hz]
        have HZ := Lib.hid hz
        clear hz
        generalize (bitW (wideN hi lo) i : Int) = v1 at t1 p1
        generalize (bitW (wideN ah al) i : Int) = v2 at t1 p2
        go_wp2
        go_region_held3 (fun W => (W.cell? ⟨w.heap.size, 0, none⟩ = some (.int .u64 hi) ∧ W.cell? ⟨w.heap.size, 1, none⟩ = some (.int .u64 lo) ∧ W.cell? ⟨w.heap.size, 2, none⟩ = some (.int .i64 n)) ∧ W.cell? ⟨w.heap.size + 1, 0, none⟩ = some (.bool s) ∧ W.cell? ⟨w.heap.size + 1, 1, none⟩ = some (.int .u64 ah) ∧ W.cell? ⟨w.heap.size + 1, 2, none⟩ = some (.int .u64 al))
          (first | exact HK.out _ hk.drew | exact HK.out _ hd1 | exact HK.out _ hd2)
          (first
            | (go_simp; go_at_call 83; ((with_reducible refine (p1.out _ hk.drew).mono ?_); rintro e y1 ⟨rfl, hd1⟩))
            | (go_simp; go_at_call 83; ((with_reducible refine (p2.out _ hd1).mono ?_); rintro e y2 ⟨rfl, hd2⟩)))
        go_wp2
        go_roundw
        case rel =>
          refine ⟨i + 1, by omega, by go_num, hd2, fun j a => ?_⟩
          by_cases e : j = i
          · rw [e]; exact HZ.out
          · exact H.out j (by omega)
        case measure => simp [intOf]; omega
      · have t1 : ((bitW (wideN hi lo) i : Int) != (bitW (wideN ah al) i : Int)) = true := by
          have : (bitW (wideN hi lo) i : Int) ≠ (bitW (wideN ah al) i : Int) := by omega
          simp [this]
        have HF : Hid (pHasB (wideN hi lo) n (wideN ah al) = false) := by
          show _ = _
          rw [Bool.eq_false_iff, ne_eq, pHasB_nat, qt_bits (wide_lt h1 h2) (wide_lt h3 h4) hn]
          exact fun g => hz (g.2 i hlt)
        clear hz
        generalize (bitW (wideN hi lo) i : Int) = v1 at t1 p1
        generalize (bitW (wideN ah al) i : Int) = v2 at t1 p2
        go_wp2
        go_region_held3 (fun W => (W.cell? ⟨w.heap.size, 0, none⟩ = some (.int .u64 hi) ∧ W.cell? ⟨w.heap.size, 1, none⟩ = some (.int .u64 lo) ∧ W.cell? ⟨w.heap.size, 2, none⟩ = some (.int .i64 n)) ∧ W.cell? ⟨w.heap.size + 1, 0, none⟩ = some (.bool s) ∧ W.cell? ⟨w.heap.size + 1, 1, none⟩ = some (.int .u64 ah) ∧ W.cell? ⟨w.heap.size + 1, 2, none⟩ = some (.int .u64 al))
          (first | exact HK.out _ hk.drew | exact HK.out _ hd1 | exact HK.out _ hd2)
          (first
            | (go_simp; go_at_call 83; ((with_reducible refine (p1.out _ hk.drew).mono ?_); rintro e y1 ⟨rfl, hd1⟩))
            | (go_simp; go_at_call 83; ((with_reducible refine (p2.out _ hd1).mono ?_); rintro e y2 ⟨rfl, hd2⟩)))
        go_wp2
        go_ret
        exact ⟨ret_bool HF.out.symm, alloc_keeps2 hd2⟩
    · have HF : Hid (pHasB (wideN hi lo) n (wideN ah al) = true) := by
        show _ = _
        rw [pHasB_nat, qt_bits (wide_lt h1 h2) (wide_lt h3 h4) hn]
        exact ⟨⟨hn, HRT.out⟩, fun j a => H.out j (by omega)⟩
      have e : i = n := by omega
      subst e
      go_wp2
      go_ret
      exact ⟨ret_bool HF.out.symm, alloc_keeps2 hk⟩
set_option maxRecDepth 100000 in
set_option maxHeartbeats 1000000 in
theorem refHas_out (hi lo : Nat) (n : Int) (v1 v2 v3 : Value) (w : World) (h1 : hi < 18446744073709551616) (h2 : lo < 18446744073709551616) (hr : pRightB (wideN hi lo) n = false) :
    Calls Tryz.prog 49 #[.agg #[.int .u64 hi, .int .u64 lo, .int .i64 n], .agg #[v1, v2, v3]] w fun e w' => e = .returned (.bool false) ∧ Below w.heap.size w w' := by
  have HR : Hid (∀ W, Calls Tryz.prog 62 #[.agg #[.int .u64 hi, .int .u64 lo, .int .i64 n]] W fun e w' => e = .returned (.bool false) ∧ Below W.heap.size W w') := fun W => by
    have := refRight7_any hi lo n W h1 h2; rwa [hr] at this
  clear hr
  go_enter Tryz.func49, Tryz.ntmps49
  go_wp2_with fail
  refine (HR.out _).mono ?_
  rintro e x1 ⟨rfl, hb1⟩
  go_wp2
  go_ret
  exact ⟨rfl, alloc_keeps2 (hb1.mono (by simp))⟩
theorem refHas_any (hi lo : Nat) (n : Int) (ah al : Nat) (s : Bool) (w : World) (h1 : hi < 18446744073709551616) (h2 : lo < 18446744073709551616) (h3 : ah < 18446744073709551616) (h4 : al < 18446744073709551616) :
    Calls Tryz.prog 49 #[.agg #[.int .u64 hi, .int .u64 lo, .int .i64 n], .agg #[.bool s, .int .u64 ah, .int .u64 al]] w fun e w' => e = .returned (.bool (pHasB (wideN hi lo) n (wideN ah al))) ∧ Below w.heap.size w w' := by
  cases hr : pRightB (wideN hi lo) n with
  | false =>
    rw [show pHasB (wideN hi lo) n (wideN ah al) = false from by unfold pHasB; rw [hr]; rfl]
    exact refHas_out hi lo n _ _ _ w h1 h2 hr
  | true =>
    obtain ⟨k, rfl⟩ := Int.eq_ofNat_of_zero_le (pRightB_in hr).1
    exact refHas_in hi lo k ah al s w h1 h2 h3 h4 hr
end

end Go.Proofs.YtoobiaifogackaaGreatDoor
