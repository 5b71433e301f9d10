/-
  What the law HostTells leans on, and its walk (6 of 18).
-/
import Derived.Deep.DeepCutAuto
import Derived.Defers
import Derived.Recover
import Derived.Deep.OwnRows
import Derived.Test.YtphapecoimlngaaGreatDoorHostTellsPkE
import Derived.Test.YtphapecoimlngaaGreatDoorHostTellsPkC
import Derived.Test.YtphapecoimlngaaGreatDoorHostTellsPkH
namespace Go.Proofs.YtphapecoimlngaaGreatDoor
set_option maxRecDepth 100000
set_option maxHeartbeats 16000000
section
section
open Go.RowKit
/-- an address of either sort -/
inductive AZ where
 | four (n : Int)
 | six (hi lo : Int)
def AZ.val : AZ → Value
 | .four n => .iface 70 (.int .u32 n)
 | .six hi lo => .iface 73 (.agg #[.int .u64 hi, .int .u64 lo])
def AZ.Ok : AZ → Prop
 | .four n => 0 ≤ n ∧ n ≤ 4294967295
 | .six hi lo => (0 ≤ hi ∧ hi ≤ 18446744073709551615) ∧ (0 ≤ lo ∧ lo ≤ 18446744073709551615)
def AZ.make (is : Bool) (hi lo : Int) : AZ := if is then .six hi lo else .four (lo % 4294967296)
theorem as44 (v : Value) (w : World) : (Instr.typeAssert (.iface 70 v) 50 70 true).run Tryz.prog w = .ok (.tuple #[v, .bool true]) w := by kernel_rfl
theorem as64 (v : Value) (w : World) : (Instr.typeAssert (.iface 73 v) 50 70 true).run Tryz.prog w = .ok (.tuple #[.int .u32 0, .bool false]) w := by kernel_rfl
theorem asN4 (w : World) : (Instr.typeAssert .nilIface 50 70 true).run Tryz.prog w = .ok (.tuple #[.int .u32 0, .bool false]) w := by kernel_rfl
theorem as46 (v : Value) (w : World) : (Instr.typeAssert (.iface 70 v) 50 73 true).run Tryz.prog w = .ok (.tuple #[.agg #[.int .u64 0, .int .u64 0], .bool false]) w := by kernel_rfl
theorem as66 (v : Value) (w : World) : (Instr.typeAssert (.iface 73 v) 50 73 true).run Tryz.prog w = .ok (.tuple #[v, .bool true]) w := by kernel_rfl
theorem asN6 (w : World) : (Instr.typeAssert .nilIface 50 73 true).run Tryz.prog w = .ok (.tuple #[.agg #[.int .u64 0, .int .u64 0], .bool false]) w := by kernel_rfl
theorem zaF (x : Int) : IntKind.u32.wrap x = x % 4294967296 := by rw [IntKind.wrap_u32]
theorem zkG (n : Int) (w : World) :
  Calls Tryz.prog 192 #[.iface 70 (.int .u32 n)] w fun e w' => e = .returned (.tuple #[.int .u32 n, .bool true]) ∧ w = w' := by
 have hta := as44
 go_enter Tryz.func192, Tryz.ntmps192
 go_wp2
 go_ret2
 exact ⟨rfl, rfl⟩
theorem zmW (hi lo : Int) (w : World) :
  Calls Tryz.prog 192 #[.iface 73 (.agg #[.int .u64 hi, .int .u64 lo])] w fun e w' => e = .returned (.tuple #[.int .u32 0, .bool false]) ∧ w = w' := by
 have hta := as64
 go_enter Tryz.func192, Tryz.ntmps192
 go_wp2
 go_ret2
 exact ⟨rfl, rfl⟩
/-- what a text is -/
def zaX (l : List UInt8) : Option AZ :=
 if (zaO l).2 = true then some (.four (zaO l).1) else if (sixZ l).2 = true then some (.six (sixZ l).1.1 (sixZ l).1.2) else none
def optV : Option AZ → Value
 | none => .nilIface
 | some a => a.val
theorem ybC (l : List UInt8) : (0 ≤ (sixZ l).1.1 ∧ (sixZ l).1.1 ≤ 18446744073709551615) ∧ (0 ≤ (sixZ l).1.2 ∧ (sixZ l).1.2 ≤ 18446744073709551615) := ⟨z0E (z5C l), z1K (z5C l)⟩
theorem z7Q {l : List UInt8} {a : AZ} (h : zaX l = some a) : a.Ok := by
 unfold zaX at h
 split at h
 ·cases h; exact zfU l
 ·split at h
  ·cases h; exact ybC l
  ·cases h
def z7L (w : World) (x : Option AZ) (e : Ending) (w' : World) : Prop := e = .returned (.tuple #[optV x, .bool x.isSome]) ∧ Below w.heap.size w w'
theorem zbG (s : ByteArray) (w : World) (hs : s.size ≤ 1073741824) (hmax : MaxVar w) :
  Calls Tryz.prog 191 #[.string s] w (z7L w (zaX s.data.toList)) := by
 have HX := Lib.hid hmax
 clear hmax
 obtain ⟨y, b4, hy⟩ : ∃ x b, zaO s.data.toList = (x, b) := ⟨_, _, rfl⟩
 have HY := Lib.hid hy
 obtain ⟨h, l, b6, hz⟩ : ∃ h l b, sixZ s.data.toList = ((h, l), b) := ⟨_, _, _, rfl⟩
 have HZ := Lib.hid hz
 have HA : Hid (zaX s.data.toList = if b4 = true then some (.four y) else if b6 = true then some (.six h l) else none) := by
  show zaX s.data.toList = _
  unfold zaX; rw [hy, hz]
 clear hy hz
 cases b4 with
 | true =>
  go_enter Tryz.func191, Tryz.ntmps191
  go_wp2_with fail
  refine (zgD s _ hs).mono ?_
  rw [HY.out]
  rintro e w1 ⟨rfl, hb1⟩
  go_wp2
  go_ret2
  exact ⟨by rw [HA.out]; rfl, hb1⟩
 | false =>
  go_enter Tryz.func191, Tryz.ntmps191
  go_wp2_with fail
  refine (zgD s _ hs).mono ?_
  rw [HY.out]
  rintro e w1 ⟨rfl, hb1⟩
  go_wp2_with fail
  refine (zhX s _ hs (zaB HX.out hb1)).mono ?_
  rw [HZ.out]
  rintro e w2 ⟨rfl, hb2⟩
  have hc2 : Below w.heap.size w w2 := hb1.trans (hb2.mono hb1.size)
  cases b6 with
  | true =>
   go_wp2
   go_ret2
   exact ⟨by rw [HA.out]; rfl, hc2.alloc hc2.size _⟩
  | false =>
   go_wp2
   go_ret2
   exact ⟨by rw [HA.out]; rfl, hc2.alloc hc2.size _⟩
end
section
open Go.RowKit
def inA (hi th lw : Int) : List Int := if hi = 0 ∧ th = 65535 then [lw] else []
def inCo (hi th lw : Int) : List Int := if hi = 0 ∧ th = 0 ∧ 1 < lw then [lw] else []
def inC (hi th lw : Int) : List Int := if hi = 28428538856079360 ∧ th = 0 then [lw] else []
def inD (hi : Int) : List Int := if hi / 281474976710656 = 8194 then [hi / 65536 % 4294967296] else []
def inE (hi lw : Int) : List Int := if hi / 4294967296 = 536936448 then [hi % 4294967296, 4294967295 - lw] else []
def inF (th lw : Int) : List Int := if th = 24318 ∨ th = 33578750 then [lw] else []
def zaI (hi lo : Int) : List Int :=
 inA hi (lo / 4294967296) (lo % 4294967296) ++ inCo hi (lo / 4294967296) (lo % 4294967296) ++ inC hi (lo / 4294967296) (lo % 4294967296) ++ inD hi ++ inE hi (lo % 4294967296) ++ inF (lo / 4294967296) (lo % 4294967296)
theorem Tryz.infoFour : (Tryz.prog.info? 70).map (fun i => (i.zero, i.size, i.bytes)) = some (some (.int .u32 0), 1, 4) := by kernel_rfl
theorem z5Y (n : Int) (h0 : 0 ≤ n) (h1 : n ≤ 4294967295) : bits .xor .u32 (if IntKind.u32.signed = true then -1 else IntKind.u32.max) n = 4294967295 - n := by
 obtain ⟨a, rfl⟩ := Int.eq_ofNat_of_zero_le h0
 have ha : a < 2 ^ 32 := by omega
 have e1 : BitVec.ofInt 32 4294967295 = BitVec.allOnes 32 := by decide
 show IntKind.u32.wrap (((BitVec.ofInt 32 4294967295) ^^^ (BitVec.ofInt 32 (a : Int))).toNat : Int) = _
 rw [e1, BitVec.allOnes_xor, BitVec.toNat_not, BitVec.ofInt_natCast, BitVec.toNat_ofNat, Nat.mod_eq_of_lt ha, IntKind.wrap_u32]
 omega
def zbH (w : World) (l : List Int) (e : Ending) (w' : World) : Prop := ∃ v, e = .returned v ∧ Nums 70 .u32 w.heap.size w' v l ∧ Below w.heap.size w w'
theorem zzY (n : Int) (w : World) :
  Calls Tryz.prog 137 #[.iface 70 (.int .u32 n)] w (zbH w []) := by
 have hta := as46
 go_enter Tryz.func137, Tryz.ntmps137
 go_wp2
 go_ret
 exact ⟨_, rfl, Nums.nil _ _ _ _, (Below.refl _ _).alloc (Nat.le_refl _) _⟩
end
section
open Go.RowKit
theorem zmP (hi lo th lw : Int) (w : World) (hbd : (0 ≤ hi ∧ hi ≤ 18446744073709551615) ∧ (0 ≤ lo ∧ lo ≤ 18446744073709551615)) (hth : lo / 4294967296 = th) (hlw2 : lo % 4294967296 = lw) (hh : hi = 0) (hk : th = 65535) :
  Calls Tryz.prog 137 #[.iface 73 (.agg #[.int .u64 hi, .int .u64 lo])] w (zbH w (zaI hi lo)) := by
 obtain ⟨⟨h0, h1⟩, l0, l1⟩ := hbd
 obtain ⟨i0, hi0, hz0, hz1, hz2⟩ := info_parts Tryz.infoFour
 have hta := as66
 have hwl : IntKind.u32.wrap lo = lw := by rw [zaF]; exact hlw2
 have hwd : IntKind.u32.wrap (hi / 65536) = hi / 65536 % 4294967296 := zaF _
 have hwe : IntKind.u32.wrap hi = hi % 4294967296 := zaF _
 have hA : inA hi th lw = [lw] := if_pos (by omega)
 have hB : inCo hi th lw = [] := if_neg (by omega)
 have hC : inC hi th lw = [] := if_neg (by omega)
 have hD : inD hi = [] := if_neg (by omega)
 have hE : inE hi lw = [] := if_neg (by omega)
 have hF : inF th lw = [] := if_neg (by omega)
 have HZ : Hid (zaI hi lo = [lw]) := by show zaI hi lo = _; rw [zaI, hth, hlw2, hA, hB, hC, hD, hE, hF]; rfl
 clear hA hB hC hD hE hF
 have ht0 : 0 ≤ th := by omega
 have ht1 : th ≤ 4294967295 := by omega
 have hw0 : 0 ≤ lw := by omega
 have hw1 : lw ≤ 4294967295 := by omega
 have q1 : ((hi) == (0 : Int)) = true := by rw [beq_iff_eq]; omega
 have q2 : ((th) == (65535 : Int)) = true := by rw [beq_iff_eq]; omega
 have q3 : ((th) == (0 : Int)) = false := by rw [beq_eq_false_iff_ne]; omega
 have q5 : ((hi) == (28428538856079360 : Int)) = false := by rw [beq_eq_false_iff_ne]; omega
 have q6 : ((hi / 281474976710656) == (8194 : Int)) = false := by rw [beq_eq_false_iff_ne]; omega
 have q7 : ((hi / 4294967296) == (536936448 : Int)) = false := by rw [beq_eq_false_iff_ne]; omega
 have q8 : ((th) == (24318 : Int)) = false := by rw [beq_eq_false_iff_ne]; omega
 have q9 : ((th) == (33578750 : Int)) = false := by rw [beq_eq_false_iff_ne]; omega
 clear hlw2 hh hk
 have hc1 : Below w.heap.size w (w.alloc (.cells #[.int .u64 hi, .int .u64 lo] 73)) := (Below.refl _ w).alloc (Nat.le_refl _) _
 go_enter Tryz.func137, Tryz.ntmps137
 go_wp2_with fail
 refine (zbB hi lo _).mono ?_
 rintro e x1 ⟨rfl, hb1⟩
 have hc : Below w.heap.size w x1 := hc1.trans (hb1.mono hc1.size)
 have hsz := hc.size
 clear hb1 hc1 hta
 have hown0 := World.ownsRow_nil x1 w.heap.size 70 1
 go_wp2_with (first
  | (at_builtin; refine zaU _ rfl _ _ 162 rfl w.heap.size 70 i0 (.int .u32 0) 4 Tryz.underlying162 hi0 hz0 hz1 hz2 rfl _ 0 _ rfl hown0 (.int .u32 lw) rfl rfl (by decide) (by decide) hsz ?_; intro v1 y1 hown1 hk1))
 go_ret
 exact ⟨_, rfl, by rw [HZ.out]; exact hown1, (hc.trans hk1)⟩
theorem zjP (hi lo th lw : Int) (w : World) (hbd : (0 ≤ hi ∧ hi ≤ 18446744073709551615) ∧ (0 ≤ lo ∧ lo ≤ 18446744073709551615)) (hth : lo / 4294967296 = th) (hlw2 : lo % 4294967296 = lw) (hh : hi = 0) (hk : th = 0) (hlw : 1 < lw) :
  Calls Tryz.prog 137 #[.iface 73 (.agg #[.int .u64 hi, .int .u64 lo])] w (zbH w (zaI hi lo)) := by
 obtain ⟨⟨h0, h1⟩, l0, l1⟩ := hbd
 obtain ⟨i0, hi0, hz0, hz1, hz2⟩ := info_parts Tryz.infoFour
 have hta := as66
 have hwl : IntKind.u32.wrap lo = lw := by rw [zaF]; exact hlw2
 have hwd : IntKind.u32.wrap (hi / 65536) = hi / 65536 % 4294967296 := zaF _
 have hwe : IntKind.u32.wrap hi = hi % 4294967296 := zaF _
 have hA : inA hi th lw = [] := if_neg (by omega)
 have hB : inCo hi th lw = [lw] := if_pos (by omega)
 have hC : inC hi th lw = [] := if_neg (by omega)
 have hD : inD hi = [] := if_neg (by omega)
 have hE : inE hi lw = [] := if_neg (by omega)
 have hF : inF th lw = [] := if_neg (by omega)
 have HZ : Hid (zaI hi lo = [lw]) := by show zaI hi lo = _; rw [zaI, hth, hlw2, hA, hB, hC, hD, hE, hF]; rfl
 clear hA hB hC hD hE hF
 have ht0 : 0 ≤ th := by omega
 have ht1 : th ≤ 4294967295 := by omega
 have hw0 : 0 ≤ lw := by omega
 have hw1 : lw ≤ 4294967295 := by omega
 have q1 : ((hi) == (0 : Int)) = true := by rw [beq_iff_eq]; omega
 have q2 : ((th) == (65535 : Int)) = false := by rw [beq_eq_false_iff_ne]; omega
 have q3 : ((th) == (0 : Int)) = true := by rw [beq_iff_eq]; omega
 have q5 : ((hi) == (28428538856079360 : Int)) = false := by rw [beq_eq_false_iff_ne]; omega
 have q6 : ((hi / 281474976710656) == (8194 : Int)) = false := by rw [beq_eq_false_iff_ne]; omega
 have q7 : ((hi / 4294967296) == (536936448 : Int)) = false := by rw [beq_eq_false_iff_ne]; omega
 have q8 : ((th) == (24318 : Int)) = false := by rw [beq_eq_false_iff_ne]; omega
 have q9 : ((th) == (33578750 : Int)) = false := by rw [beq_eq_false_iff_ne]; omega
 have q4 : decide ((1 : Int) < lw) = true := decide_eq_true (by omega)
 clear hlw2 hh hk
 have hc1 : Below w.heap.size w (w.alloc (.cells #[.int .u64 hi, .int .u64 lo] 73)) := (Below.refl _ w).alloc (Nat.le_refl _) _
 go_enter Tryz.func137, Tryz.ntmps137
 go_wp2_with fail
 refine (zbB hi lo _).mono ?_
 rintro e x1 ⟨rfl, hb1⟩
 have hc : Below w.heap.size w x1 := hc1.trans (hb1.mono hc1.size)
 have hsz := hc.size
 clear hb1 hc1 hta
 have hown0 := World.ownsRow_nil x1 w.heap.size 70 1
 go_wp2_with (first
  | (at_builtin; refine zaU _ rfl _ _ 162 rfl w.heap.size 70 i0 (.int .u32 0) 4 Tryz.underlying162 hi0 hz0 hz1 hz2 rfl _ 0 _ rfl hown0 (.int .u32 lw) rfl rfl (by decide) (by decide) hsz ?_; intro v1 y1 hown1 hk1))
 go_ret
 exact ⟨_, rfl, by rw [HZ.out]; exact hown1, (hc.trans hk1)⟩
theorem zmN (hi lo th lw : Int) (w : World) (hbd : (0 ≤ hi ∧ hi ≤ 18446744073709551615) ∧ (0 ≤ lo ∧ lo ≤ 18446744073709551615)) (hth : lo / 4294967296 = th) (hlw2 : lo % 4294967296 = lw) (hh : hi = 0) (hk : th = 0) (hlw : lw ≤ 1) :
  Calls Tryz.prog 137 #[.iface 73 (.agg #[.int .u64 hi, .int .u64 lo])] w (zbH w (zaI hi lo)) := by
 obtain ⟨⟨h0, h1⟩, l0, l1⟩ := hbd
 obtain ⟨i0, hi0, hz0, hz1, hz2⟩ := info_parts Tryz.infoFour
 have hta := as66
 have hwl : IntKind.u32.wrap lo = lw := by rw [zaF]; exact hlw2
 have hwd : IntKind.u32.wrap (hi / 65536) = hi / 65536 % 4294967296 := zaF _
 have hwe : IntKind.u32.wrap hi = hi % 4294967296 := zaF _
 have hA : inA hi th lw = [] := if_neg (by omega)
 have hB : inCo hi th lw = [] := if_neg (by omega)
 have hC : inC hi th lw = [] := if_neg (by omega)
 have hD : inD hi = [] := if_neg (by omega)
 have hE : inE hi lw = [] := if_neg (by omega)
 have hF : inF th lw = [] := if_neg (by omega)
 have HZ : Hid (zaI hi lo = []) := by show zaI hi lo = _; rw [zaI, hth, hlw2, hA, hB, hC, hD, hE, hF]; rfl
 clear hA hB hC hD hE hF
 have ht0 : 0 ≤ th := by omega
 have ht1 : th ≤ 4294967295 := by omega
 have hw0 : 0 ≤ lw := by omega
 have hw1 : lw ≤ 4294967295 := by omega
 have q1 : ((hi) == (0 : Int)) = true := by rw [beq_iff_eq]; omega
 have q2 : ((th) == (65535 : Int)) = false := by rw [beq_eq_false_iff_ne]; omega
 have q3 : ((th) == (0 : Int)) = true := by rw [beq_iff_eq]; omega
 have q5 : ((hi) == (28428538856079360 : Int)) = false := by rw [beq_eq_false_iff_ne]; omega
 have q6 : ((hi / 281474976710656) == (8194 : Int)) = false := by rw [beq_eq_false_iff_ne]; omega
 have q7 : ((hi / 4294967296) == (536936448 : Int)) = false := by rw [beq_eq_false_iff_ne]; omega
 have q8 : ((th) == (24318 : Int)) = false := by rw [beq_eq_false_iff_ne]; omega
 have q9 : ((th) == (33578750 : Int)) = false := by rw [beq_eq_false_iff_ne]; omega
 have q4 : decide ((1 : Int) < lw) = false := decide_eq_false (by omega)
 clear hlw2 hh hk
 have hc1 : Below w.heap.size w (w.alloc (.cells #[.int .u64 hi, .int .u64 lo] 73)) := (Below.refl _ w).alloc (Nat.le_refl _) _
 go_enter Tryz.func137, Tryz.ntmps137
 go_wp2_with fail
 refine (zbB hi lo _).mono ?_
 rintro e x1 ⟨rfl, hb1⟩
 have hc : Below w.heap.size w x1 := hc1.trans (hb1.mono hc1.size)
 have hsz := hc.size
 clear hb1 hc1 hta
 have hown0 := World.ownsRow_nil x1 w.heap.size 70 1
 go_wp2
 go_ret
 exact ⟨_, rfl, by rw [HZ.out]; exact Nums.nil _ _ _ _, hc⟩
theorem zqR (hi lo th lw : Int) (w : World) (hbd : (0 ≤ hi ∧ hi ≤ 18446744073709551615) ∧ (0 ≤ lo ∧ lo ≤ 18446744073709551615)) (hth : lo / 4294967296 = th) (hlw2 : lo % 4294967296 = lw) (hh : hi = 0) (hk : th = 24318) :
  Calls Tryz.prog 137 #[.iface 73 (.agg #[.int .u64 hi, .int .u64 lo])] w (zbH w (zaI hi lo)) := by
 obtain ⟨⟨h0, h1⟩, l0, l1⟩ := hbd
 obtain ⟨i0, hi0, hz0, hz1, hz2⟩ := info_parts Tryz.infoFour
 have hta := as66
 have hwl : IntKind.u32.wrap lo = lw := by rw [zaF]; exact hlw2
 have hwd : IntKind.u32.wrap (hi / 65536) = hi / 65536 % 4294967296 := zaF _
 have hwe : IntKind.u32.wrap hi = hi % 4294967296 := zaF _
 have hA : inA hi th lw = [] := if_neg (by omega)
 have hB : inCo hi th lw = [] := if_neg (by omega)
 have hC : inC hi th lw = [] := if_neg (by omega)
 have hD : inD hi = [] := if_neg (by omega)
 have hE : inE hi lw = [] := if_neg (by omega)
 have hF : inF th lw = [lw] := if_pos (by omega)
 have HZ : Hid (zaI hi lo = [lw]) := by show zaI hi lo = _; rw [zaI, hth, hlw2, hA, hB, hC, hD, hE, hF]; rfl
 clear hA hB hC hD hE hF
 have ht0 : 0 ≤ th := by omega
 have ht1 : th ≤ 4294967295 := by omega
 have hw0 : 0 ≤ lw := by omega
 have hw1 : lw ≤ 4294967295 := by omega
 have q1 : ((hi) == (0 : Int)) = true := by rw [beq_iff_eq]; omega
 have q2 : ((th) == (65535 : Int)) = false := by rw [beq_eq_false_iff_ne]; omega
 have q3 : ((th) == (0 : Int)) = false := by rw [beq_eq_false_iff_ne]; omega
 have q5 : ((hi) == (28428538856079360 : Int)) = false := by rw [beq_eq_false_iff_ne]; omega
 have q6 : ((hi / 281474976710656) == (8194 : Int)) = false := by rw [beq_eq_false_iff_ne]; omega
 have q7 : ((hi / 4294967296) == (536936448 : Int)) = false := by rw [beq_eq_false_iff_ne]; omega
 have q8 : ((th) == (24318 : Int)) = true := by rw [beq_iff_eq]; omega
 have q9 : ((th) == (33578750 : Int)) = false := by rw [beq_eq_false_iff_ne]; omega
 clear hlw2 hh hk
 have hc1 : Below w.heap.size w (w.alloc (.cells #[.int .u64 hi, .int .u64 lo] 73)) := (Below.refl _ w).alloc (Nat.le_refl _) _
 go_enter Tryz.func137, Tryz.ntmps137
 go_wp2_with fail
 refine (zbB hi lo _).mono ?_
 rintro e x1 ⟨rfl, hb1⟩
 have hc : Below w.heap.size w x1 := hc1.trans (hb1.mono hc1.size)
 have hsz := hc.size
 clear hb1 hc1 hta
 have hown0 := World.ownsRow_nil x1 w.heap.size 70 1
 go_wp2_with (first
  | (at_builtin; refine zaU _ rfl _ _ 162 rfl w.heap.size 70 i0 (.int .u32 0) 4 Tryz.underlying162 hi0 hz0 hz1 hz2 rfl _ 0 _ rfl hown0 (.int .u32 lw) rfl rfl (by decide) (by decide) hsz ?_; intro v1 y1 hown1 hk1))
 go_ret
 exact ⟨_, rfl, by rw [HZ.out]; exact hown1, (hc.trans hk1)⟩
theorem zqV (hi lo th lw : Int) (w : World) (hbd : (0 ≤ hi ∧ hi ≤ 18446744073709551615) ∧ (0 ≤ lo ∧ lo ≤ 18446744073709551615)) (hth : lo / 4294967296 = th) (hlw2 : lo % 4294967296 = lw) (hh : hi = 0) (hk : th = 33578750) :
  Calls Tryz.prog 137 #[.iface 73 (.agg #[.int .u64 hi, .int .u64 lo])] w (zbH w (zaI hi lo)) := by
 obtain ⟨⟨h0, h1⟩, l0, l1⟩ := hbd
 obtain ⟨i0, hi0, hz0, hz1, hz2⟩ := info_parts Tryz.infoFour
 have hta := as66
 have hwl : IntKind.u32.wrap lo = lw := by rw [zaF]; exact hlw2
 have hwd : IntKind.u32.wrap (hi / 65536) = hi / 65536 % 4294967296 := zaF _
 have hwe : IntKind.u32.wrap hi = hi % 4294967296 := zaF _
 have hA : inA hi th lw = [] := if_neg (by omega)
 have hB : inCo hi th lw = [] := if_neg (by omega)
 have hC : inC hi th lw = [] := if_neg (by omega)
 have hD : inD hi = [] := if_neg (by omega)
 have hE : inE hi lw = [] := if_neg (by omega)
 have hF : inF th lw = [lw] := if_pos (by omega)
 have HZ : Hid (zaI hi lo = [lw]) := by show zaI hi lo = _; rw [zaI, hth, hlw2, hA, hB, hC, hD, hE, hF]; rfl
 clear hA hB hC hD hE hF
 have ht0 : 0 ≤ th := by omega
 have ht1 : th ≤ 4294967295 := by omega
 have hw0 : 0 ≤ lw := by omega
 have hw1 : lw ≤ 4294967295 := by omega
 have q1 : ((hi) == (0 : Int)) = true := by rw [beq_iff_eq]; omega
 have q2 : ((th) == (65535 : Int)) = false := by rw [beq_eq_false_iff_ne]; omega
 have q3 : ((th) == (0 : Int)) = false := by rw [beq_eq_false_iff_ne]; omega
 have q5 : ((hi) == (28428538856079360 : Int)) = false := by rw [beq_eq_false_iff_ne]; omega
 have q6 : ((hi / 281474976710656) == (8194 : Int)) = false := by rw [beq_eq_false_iff_ne]; omega
 have q7 : ((hi / 4294967296) == (536936448 : Int)) = false := by rw [beq_eq_false_iff_ne]; omega
 have q8 : ((th) == (24318 : Int)) = false := by rw [beq_eq_false_iff_ne]; omega
 have q9 : ((th) == (33578750 : Int)) = true := by rw [beq_iff_eq]; omega
 clear hlw2 hh hk
 have hc1 : Below w.heap.size w (w.alloc (.cells #[.int .u64 hi, .int .u64 lo] 73)) := (Below.refl _ w).alloc (Nat.le_refl _) _
 go_enter Tryz.func137, Tryz.ntmps137
 go_wp2_with fail
 refine (zbB hi lo _).mono ?_
 rintro e x1 ⟨rfl, hb1⟩
 have hc : Below w.heap.size w x1 := hc1.trans (hb1.mono hc1.size)
 have hsz := hc.size
 clear hb1 hc1 hta
 have hown0 := World.ownsRow_nil x1 w.heap.size 70 1
 go_wp2_with (first
  | (at_builtin; refine zaU _ rfl _ _ 162 rfl w.heap.size 70 i0 (.int .u32 0) 4 Tryz.underlying162 hi0 hz0 hz1 hz2 rfl _ 0 _ rfl hown0 (.int .u32 lw) rfl rfl (by decide) (by decide) hsz ?_; intro v1 y1 hown1 hk1))
 go_ret
 exact ⟨_, rfl, by rw [HZ.out]; exact hown1, (hc.trans hk1)⟩
theorem znZ (hi lo th lw : Int) (w : World) (hbd : (0 ≤ hi ∧ hi ≤ 18446744073709551615) ∧ (0 ≤ lo ∧ lo ≤ 18446744073709551615)) (hth : lo / 4294967296 = th) (hlw2 : lo % 4294967296 = lw) (hh : hi = 0) (hk : th ≠ 65535 ∧ th ≠ 0 ∧ th ≠ 24318 ∧ th ≠ 33578750) :
  Calls Tryz.prog 137 #[.iface 73 (.agg #[.int .u64 hi, .int .u64 lo])] w (zbH w (zaI hi lo)) := by
 obtain ⟨⟨h0, h1⟩, l0, l1⟩ := hbd
 obtain ⟨i0, hi0, hz0, hz1, hz2⟩ := info_parts Tryz.infoFour
 have hta := as66
 have hwl : IntKind.u32.wrap lo = lw := by rw [zaF]; exact hlw2
 have hwd : IntKind.u32.wrap (hi / 65536) = hi / 65536 % 4294967296 := zaF _
 have hwe : IntKind.u32.wrap hi = hi % 4294967296 := zaF _
 have hA : inA hi th lw = [] := if_neg (by omega)
 have hB : inCo hi th lw = [] := if_neg (by omega)
 have hC : inC hi th lw = [] := if_neg (by omega)
 have hD : inD hi = [] := if_neg (by omega)
 have hE : inE hi lw = [] := if_neg (by omega)
 have hF : inF th lw = [] := if_neg (by omega)
 have HZ : Hid (zaI hi lo = []) := by show zaI hi lo = _; rw [zaI, hth, hlw2, hA, hB, hC, hD, hE, hF]; rfl
 clear hA hB hC hD hE hF
 have ht0 : 0 ≤ th := by omega
 have ht1 : th ≤ 4294967295 := by omega
 have hw0 : 0 ≤ lw := by omega
 have hw1 : lw ≤ 4294967295 := by omega
 have q1 : ((hi) == (0 : Int)) = true := by rw [beq_iff_eq]; omega
 have q2 : ((th) == (65535 : Int)) = false := by rw [beq_eq_false_iff_ne]; omega
 have q3 : ((th) == (0 : Int)) = false := by rw [beq_eq_false_iff_ne]; omega
 have q5 : ((hi) == (28428538856079360 : Int)) = false := by rw [beq_eq_false_iff_ne]; omega
 have q6 : ((hi / 281474976710656) == (8194 : Int)) = false := by rw [beq_eq_false_iff_ne]; omega
 have q7 : ((hi / 4294967296) == (536936448 : Int)) = false := by rw [beq_eq_false_iff_ne]; omega
 have q8 : ((th) == (24318 : Int)) = false := by rw [beq_eq_false_iff_ne]; omega
 have q9 : ((th) == (33578750 : Int)) = false := by rw [beq_eq_false_iff_ne]; omega
 clear hlw2 hh hk
 have hc1 : Below w.heap.size w (w.alloc (.cells #[.int .u64 hi, .int .u64 lo] 73)) := (Below.refl _ w).alloc (Nat.le_refl _) _
 go_enter Tryz.func137, Tryz.ntmps137
 go_wp2_with fail
 refine (zbB hi lo _).mono ?_
 rintro e x1 ⟨rfl, hb1⟩
 have hc : Below w.heap.size w x1 := hc1.trans (hb1.mono hc1.size)
 have hsz := hc.size
 clear hb1 hc1 hta
 have hown0 := World.ownsRow_nil x1 w.heap.size 70 1
 go_wp2
 go_ret
 exact ⟨_, rfl, by rw [HZ.out]; exact Nums.nil _ _ _ _, hc⟩
theorem zqE (hi lo th lw : Int) (w : World) (hbd : (0 ≤ hi ∧ hi ≤ 18446744073709551615) ∧ (0 ≤ lo ∧ lo ≤ 18446744073709551615)) (hth : lo / 4294967296 = th) (hlw2 : lo % 4294967296 = lw) (hh : hi = 28428538856079360) (hk : th = 65535) :
  Calls Tryz.prog 137 #[.iface 73 (.agg #[.int .u64 hi, .int .u64 lo])] w (zbH w (zaI hi lo)) := by
 obtain ⟨⟨h0, h1⟩, l0, l1⟩ := hbd
 obtain ⟨i0, hi0, hz0, hz1, hz2⟩ := info_parts Tryz.infoFour
 have hta := as66
 have hwl : IntKind.u32.wrap lo = lw := by rw [zaF]; exact hlw2
 have hwd : IntKind.u32.wrap (hi / 65536) = hi / 65536 % 4294967296 := zaF _
 have hwe : IntKind.u32.wrap hi = hi % 4294967296 := zaF _
 have hA : inA hi th lw = [] := if_neg (by omega)
 have hB : inCo hi th lw = [] := if_neg (by omega)
 have hC : inC hi th lw = [] := if_neg (by omega)
 have hD : inD hi = [] := if_neg (by omega)
 have hE : inE hi lw = [] := if_neg (by omega)
 have hF : inF th lw = [] := if_neg (by omega)
 have HZ : Hid (zaI hi lo = []) := by show zaI hi lo = _; rw [zaI, hth, hlw2, hA, hB, hC, hD, hE, hF]; rfl
 clear hA hB hC hD hE hF
 have ht0 : 0 ≤ th := by omega
 have ht1 : th ≤ 4294967295 := by omega
 have hw0 : 0 ≤ lw := by omega
 have hw1 : lw ≤ 4294967295 := by omega
 have q1 : ((hi) == (0 : Int)) = false := by rw [beq_eq_false_iff_ne]; omega
 have q2 : ((th) == (65535 : Int)) = true := by rw [beq_iff_eq]; omega
 have q3 : ((th) == (0 : Int)) = false := by rw [beq_eq_false_iff_ne]; omega
 have q5 : ((hi) == (28428538856079360 : Int)) = true := by rw [beq_iff_eq]; omega
 have q6 : ((hi / 281474976710656) == (8194 : Int)) = false := by rw [beq_eq_false_iff_ne]; omega
 have q7 : ((hi / 4294967296) == (536936448 : Int)) = false := by rw [beq_eq_false_iff_ne]; omega
 have q8 : ((th) == (24318 : Int)) = false := by rw [beq_eq_false_iff_ne]; omega
 have q9 : ((th) == (33578750 : Int)) = false := by rw [beq_eq_false_iff_ne]; omega
 clear hlw2 hh hk
 have hc1 : Below w.heap.size w (w.alloc (.cells #[.int .u64 hi, .int .u64 lo] 73)) := (Below.refl _ w).alloc (Nat.le_refl _) _
 go_enter Tryz.func137, Tryz.ntmps137
 go_wp2_with fail
 refine (zbB hi lo _).mono ?_
 rintro e x1 ⟨rfl, hb1⟩
 have hc : Below w.heap.size w x1 := hc1.trans (hb1.mono hc1.size)
 have hsz := hc.size
 clear hb1 hc1 hta
 have hown0 := World.ownsRow_nil x1 w.heap.size 70 1
 go_wp2
 go_ret
 exact ⟨_, rfl, by rw [HZ.out]; exact Nums.nil _ _ _ _, hc⟩
theorem zrA (hi lo th lw : Int) (w : World) (hbd : (0 ≤ hi ∧ hi ≤ 18446744073709551615) ∧ (0 ≤ lo ∧ lo ≤ 18446744073709551615)) (hth : lo / 4294967296 = th) (hlw2 : lo % 4294967296 = lw) (hh : hi = 28428538856079360) (hk : th = 0) :
  Calls Tryz.prog 137 #[.iface 73 (.agg #[.int .u64 hi, .int .u64 lo])] w (zbH w (zaI hi lo)) := by
 obtain ⟨⟨h0, h1⟩, l0, l1⟩ := hbd
 obtain ⟨i0, hi0, hz0, hz1, hz2⟩ := info_parts Tryz.infoFour
 have hta := as66
 have hwl : IntKind.u32.wrap lo = lw := by rw [zaF]; exact hlw2
 have hwd : IntKind.u32.wrap (hi / 65536) = hi / 65536 % 4294967296 := zaF _
 have hwe : IntKind.u32.wrap hi = hi % 4294967296 := zaF _
 have hA : inA hi th lw = [] := if_neg (by omega)
 have hB : inCo hi th lw = [] := if_neg (by omega)
 have hC : inC hi th lw = [lw] := if_pos (by omega)
 have hD : inD hi = [] := if_neg (by omega)
 have hE : inE hi lw = [] := if_neg (by omega)
 have hF : inF th lw = [] := if_neg (by omega)
 have HZ : Hid (zaI hi lo = [lw]) := by show zaI hi lo = _; rw [zaI, hth, hlw2, hA, hB, hC, hD, hE, hF]; rfl
 clear hA hB hC hD hE hF
 have ht0 : 0 ≤ th := by omega
 have ht1 : th ≤ 4294967295 := by omega
 have hw0 : 0 ≤ lw := by omega
 have hw1 : lw ≤ 4294967295 := by omega
 have q1 : ((hi) == (0 : Int)) = false := by rw [beq_eq_false_iff_ne]; omega
 have q2 : ((th) == (65535 : Int)) = false := by rw [beq_eq_false_iff_ne]; omega
 have q3 : ((th) == (0 : Int)) = true := by rw [beq_iff_eq]; omega
 have q5 : ((hi) == (28428538856079360 : Int)) = true := by rw [beq_iff_eq]; omega
 have q6 : ((hi / 281474976710656) == (8194 : Int)) = false := by rw [beq_eq_false_iff_ne]; omega
 have q7 : ((hi / 4294967296) == (536936448 : Int)) = false := by rw [beq_eq_false_iff_ne]; omega
 have q8 : ((th) == (24318 : Int)) = false := by rw [beq_eq_false_iff_ne]; omega
 have q9 : ((th) == (33578750 : Int)) = false := by rw [beq_eq_false_iff_ne]; omega
 clear hlw2 hh hk
 have hc1 : Below w.heap.size w (w.alloc (.cells #[.int .u64 hi, .int .u64 lo] 73)) := (Below.refl _ w).alloc (Nat.le_refl _) _
 go_enter Tryz.func137, Tryz.ntmps137
 go_wp2_with fail
 refine (zbB hi lo _).mono ?_
 rintro e x1 ⟨rfl, hb1⟩
 have hc : Below w.heap.size w x1 := hc1.trans (hb1.mono hc1.size)
 have hsz := hc.size
 clear hb1 hc1 hta
 have hown0 := World.ownsRow_nil x1 w.heap.size 70 1
 go_wp2_with (first
  | (at_builtin; refine zaU _ rfl _ _ 162 rfl w.heap.size 70 i0 (.int .u32 0) 4 Tryz.underlying162 hi0 hz0 hz1 hz2 rfl _ 0 _ rfl hown0 (.int .u32 lw) rfl rfl (by decide) (by decide) hsz ?_; intro v1 y1 hown1 hk1))
 go_ret
 exact ⟨_, rfl, by rw [HZ.out]; exact hown1, (hc.trans hk1)⟩
theorem zvA (hi lo th lw : Int) (w : World) (hbd : (0 ≤ hi ∧ hi ≤ 18446744073709551615) ∧ (0 ≤ lo ∧ lo ≤ 18446744073709551615)) (hth : lo / 4294967296 = th) (hlw2 : lo % 4294967296 = lw) (hh : hi = 28428538856079360) (hk : th = 24318) :
  Calls Tryz.prog 137 #[.iface 73 (.agg #[.int .u64 hi, .int .u64 lo])] w (zbH w (zaI hi lo)) := by
 obtain ⟨⟨h0, h1⟩, l0, l1⟩ := hbd
 obtain ⟨i0, hi0, hz0, hz1, hz2⟩ := info_parts Tryz.infoFour
 have hta := as66
 have hwl : IntKind.u32.wrap lo = lw := by rw [zaF]; exact hlw2
 have hwd : IntKind.u32.wrap (hi / 65536) = hi / 65536 % 4294967296 := zaF _
 have hwe : IntKind.u32.wrap hi = hi % 4294967296 := zaF _
 have hA : inA hi th lw = [] := if_neg (by omega)
 have hB : inCo hi th lw = [] := if_neg (by omega)
 have hC : inC hi th lw = [] := if_neg (by omega)
 have hD : inD hi = [] := if_neg (by omega)
 have hE : inE hi lw = [] := if_neg (by omega)
 have hF : inF th lw = [lw] := if_pos (by omega)
 have HZ : Hid (zaI hi lo = [lw]) := by show zaI hi lo = _; rw [zaI, hth, hlw2, hA, hB, hC, hD, hE, hF]; rfl
 clear hA hB hC hD hE hF
 have ht0 : 0 ≤ th := by omega
 have ht1 : th ≤ 4294967295 := by omega
 have hw0 : 0 ≤ lw := by omega
 have hw1 : lw ≤ 4294967295 := by omega
 have q1 : ((hi) == (0 : Int)) = false := by rw [beq_eq_false_iff_ne]; omega
 have q2 : ((th) == (65535 : Int)) = false := by rw [beq_eq_false_iff_ne]; omega
 have q3 : ((th) == (0 : Int)) = false := by rw [beq_eq_false_iff_ne]; omega
 have q5 : ((hi) == (28428538856079360 : Int)) = true := by rw [beq_iff_eq]; omega
 have q6 : ((hi / 281474976710656) == (8194 : Int)) = false := by rw [beq_eq_false_iff_ne]; omega
 have q7 : ((hi / 4294967296) == (536936448 : Int)) = false := by rw [beq_eq_false_iff_ne]; omega
 have q8 : ((th) == (24318 : Int)) = true := by rw [beq_iff_eq]; omega
 have q9 : ((th) == (33578750 : Int)) = false := by rw [beq_eq_false_iff_ne]; omega
 clear hlw2 hh hk
 have hc1 : Below w.heap.size w (w.alloc (.cells #[.int .u64 hi, .int .u64 lo] 73)) := (Below.refl _ w).alloc (Nat.le_refl _) _
 go_enter Tryz.func137, Tryz.ntmps137
 go_wp2_with fail
 refine (zbB hi lo _).mono ?_
 rintro e x1 ⟨rfl, hb1⟩
 have hc : Below w.heap.size w x1 := hc1.trans (hb1.mono hc1.size)
 have hsz := hc.size
 clear hb1 hc1 hta
 have hown0 := World.ownsRow_nil x1 w.heap.size 70 1
 go_wp2_with (first
  | (at_builtin; refine zaU _ rfl _ _ 162 rfl w.heap.size 70 i0 (.int .u32 0) 4 Tryz.underlying162 hi0 hz0 hz1 hz2 rfl _ 0 _ rfl hown0 (.int .u32 lw) rfl rfl (by decide) (by decide) hsz ?_; intro v1 y1 hown1 hk1))
 go_ret
 exact ⟨_, rfl, by rw [HZ.out]; exact hown1, (hc.trans hk1)⟩
theorem zvW (hi lo th lw : Int) (w : World) (hbd : (0 ≤ hi ∧ hi ≤ 18446744073709551615) ∧ (0 ≤ lo ∧ lo ≤ 18446744073709551615)) (hth : lo / 4294967296 = th) (hlw2 : lo % 4294967296 = lw) (hh : hi = 28428538856079360) (hk : th = 33578750) :
  Calls Tryz.prog 137 #[.iface 73 (.agg #[.int .u64 hi, .int .u64 lo])] w (zbH w (zaI hi lo)) := by
 obtain ⟨⟨h0, h1⟩, l0, l1⟩ := hbd
 obtain ⟨i0, hi0, hz0, hz1, hz2⟩ := info_parts Tryz.infoFour
 have hta := as66
 have hwl : IntKind.u32.wrap lo = lw := by rw [zaF]; exact hlw2
 have hwd : IntKind.u32.wrap (hi / 65536) = hi / 65536 % 4294967296 := zaF _
 have hwe : IntKind.u32.wrap hi = hi % 4294967296 := zaF _
 have hA : inA hi th lw = [] := if_neg (by omega)
 have hB : inCo hi th lw = [] := if_neg (by omega)
 have hC : inC hi th lw = [] := if_neg (by omega)
 have hD : inD hi = [] := if_neg (by omega)
 have hE : inE hi lw = [] := if_neg (by omega)
 have hF : inF th lw = [lw] := if_pos (by omega)
 have HZ : Hid (zaI hi lo = [lw]) := by show zaI hi lo = _; rw [zaI, hth, hlw2, hA, hB, hC, hD, hE, hF]; rfl
 clear hA hB hC hD hE hF
 have ht0 : 0 ≤ th := by omega
 have ht1 : th ≤ 4294967295 := by omega
 have hw0 : 0 ≤ lw := by omega
 have hw1 : lw ≤ 4294967295 := by omega
 have q1 : ((hi) == (0 : Int)) = false := by rw [beq_eq_false_iff_ne]; omega
 have q2 : ((th) == (65535 : Int)) = false := by rw [beq_eq_false_iff_ne]; omega
 have q3 : ((th) == (0 : Int)) = false := by rw [beq_eq_false_iff_ne]; omega
 have q5 : ((hi) == (28428538856079360 : Int)) = true := by rw [beq_iff_eq]; omega
 have q6 : ((hi / 281474976710656) == (8194 : Int)) = false := by rw [beq_eq_false_iff_ne]; omega
 have q7 : ((hi / 4294967296) == (536936448 : Int)) = false := by rw [beq_eq_false_iff_ne]; omega
 have q8 : ((th) == (24318 : Int)) = false := by rw [beq_eq_false_iff_ne]; omega
 have q9 : ((th) == (33578750 : Int)) = true := by rw [beq_iff_eq]; omega
 clear hlw2 hh hk
 have hc1 : Below w.heap.size w (w.alloc (.cells #[.int .u64 hi, .int .u64 lo] 73)) := (Below.refl _ w).alloc (Nat.le_refl _) _
 go_enter Tryz.func137, Tryz.ntmps137
 go_wp2_with fail
 refine (zbB hi lo _).mono ?_
 rintro e x1 ⟨rfl, hb1⟩
 have hc : Below w.heap.size w x1 := hc1.trans (hb1.mono hc1.size)
 have hsz := hc.size
 clear hb1 hc1 hta
 have hown0 := World.ownsRow_nil x1 w.heap.size 70 1
 go_wp2_with (first
  | (at_builtin; refine zaU _ rfl _ _ 162 rfl w.heap.size 70 i0 (.int .u32 0) 4 Tryz.underlying162 hi0 hz0 hz1 hz2 rfl _ 0 _ rfl hown0 (.int .u32 lw) rfl rfl (by decide) (by decide) hsz ?_; intro v1 y1 hown1 hk1))
 go_ret
 exact ⟨_, rfl, by rw [HZ.out]; exact hown1, (hc.trans hk1)⟩
theorem zrI (hi lo th lw : Int) (w : World) (hbd : (0 ≤ hi ∧ hi ≤ 18446744073709551615) ∧ (0 ≤ lo ∧ lo ≤ 18446744073709551615)) (hth : lo / 4294967296 = th) (hlw2 : lo % 4294967296 = lw) (hh : hi = 28428538856079360) (hk : th ≠ 65535 ∧ th ≠ 0 ∧ th ≠ 24318 ∧ th ≠ 33578750) :
  Calls Tryz.prog 137 #[.iface 73 (.agg #[.int .u64 hi, .int .u64 lo])] w (zbH w (zaI hi lo)) := by
 obtain ⟨⟨h0, h1⟩, l0, l1⟩ := hbd
 obtain ⟨i0, hi0, hz0, hz1, hz2⟩ := info_parts Tryz.infoFour
 have hta := as66
 have hwl : IntKind.u32.wrap lo = lw := by rw [zaF]; exact hlw2
 have hwd : IntKind.u32.wrap (hi / 65536) = hi / 65536 % 4294967296 := zaF _
 have hwe : IntKind.u32.wrap hi = hi % 4294967296 := zaF _
 have hA : inA hi th lw = [] := if_neg (by omega)
 have hB : inCo hi th lw = [] := if_neg (by omega)
 have hC : inC hi th lw = [] := if_neg (by omega)
 have hD : inD hi = [] := if_neg (by omega)
 have hE : inE hi lw = [] := if_neg (by omega)
 have hF : inF th lw = [] := if_neg (by omega)
 have HZ : Hid (zaI hi lo = []) := by show zaI hi lo = _; rw [zaI, hth, hlw2, hA, hB, hC, hD, hE, hF]; rfl
 clear hA hB hC hD hE hF
 have ht0 : 0 ≤ th := by omega
 have ht1 : th ≤ 4294967295 := by omega
 have hw0 : 0 ≤ lw := by omega
 have hw1 : lw ≤ 4294967295 := by omega
 have q1 : ((hi) == (0 : Int)) = false := by rw [beq_eq_false_iff_ne]; omega
 have q2 : ((th) == (65535 : Int)) = false := by rw [beq_eq_false_iff_ne]; omega
 have q3 : ((th) == (0 : Int)) = false := by rw [beq_eq_false_iff_ne]; omega
 have q5 : ((hi) == (28428538856079360 : Int)) = true := by rw [beq_iff_eq]; omega
 have q6 : ((hi / 281474976710656) == (8194 : Int)) = false := by rw [beq_eq_false_iff_ne]; omega
 have q7 : ((hi / 4294967296) == (536936448 : Int)) = false := by rw [beq_eq_false_iff_ne]; omega
 have q8 : ((th) == (24318 : Int)) = false := by rw [beq_eq_false_iff_ne]; omega
 have q9 : ((th) == (33578750 : Int)) = false := by rw [beq_eq_false_iff_ne]; omega
 clear hlw2 hh hk
 have hc1 : Below w.heap.size w (w.alloc (.cells #[.int .u64 hi, .int .u64 lo] 73)) := (Below.refl _ w).alloc (Nat.le_refl _) _
 go_enter Tryz.func137, Tryz.ntmps137
 go_wp2_with fail
 refine (zbB hi lo _).mono ?_
 rintro e x1 ⟨rfl, hb1⟩
 have hc : Below w.heap.size w x1 := hc1.trans (hb1.mono hc1.size)
 have hsz := hc.size
 clear hb1 hc1 hta
 have hown0 := World.ownsRow_nil x1 w.heap.size 70 1
 go_wp2
 go_ret
 exact ⟨_, rfl, by rw [HZ.out]; exact Nums.nil _ _ _ _, hc⟩
theorem zsU (hi lo th lw : Int) (w : World) (hbd : (0 ≤ hi ∧ hi ≤ 18446744073709551615) ∧ (0 ≤ lo ∧ lo ≤ 18446744073709551615)) (hth : lo / 4294967296 = th) (hlw2 : lo % 4294967296 = lw) (hh : hi / 281474976710656 = 8194) (hk : th = 65535) :
  Calls Tryz.prog 137 #[.iface 73 (.agg #[.int .u64 hi, .int .u64 lo])] w (zbH w (zaI hi lo)) := by
 obtain ⟨⟨h0, h1⟩, l0, l1⟩ := hbd
 obtain ⟨i0, hi0, hz0, hz1, hz2⟩ := info_parts Tryz.infoFour
 have hta := as66
 have hwl : IntKind.u32.wrap lo = lw := by rw [zaF]; exact hlw2
 have hwd : IntKind.u32.wrap (hi / 65536) = hi / 65536 % 4294967296 := zaF _
 have hwe : IntKind.u32.wrap hi = hi % 4294967296 := zaF _
 have hA : inA hi th lw = [] := if_neg (by omega)
 have hB : inCo hi th lw = [] := if_neg (by omega)
 have hC : inC hi th lw = [] := if_neg (by omega)
 have hD : inD hi = [hi / 65536 % 4294967296] := if_pos (by omega)
 have hE : inE hi lw = [] := if_neg (by omega)
 have hF : inF th lw = [] := if_neg (by omega)
 have HZ : Hid (zaI hi lo = [hi / 65536 % 4294967296]) := by show zaI hi lo = _; rw [zaI, hth, hlw2, hA, hB, hC, hD, hE, hF]; rfl
 clear hA hB hC hD hE hF
 have ht0 : 0 ≤ th := by omega
 have ht1 : th ≤ 4294967295 := by omega
 have hw0 : 0 ≤ lw := by omega
 have hw1 : lw ≤ 4294967295 := by omega
 have q1 : ((hi) == (0 : Int)) = false := by rw [beq_eq_false_iff_ne]; omega
 have q2 : ((th) == (65535 : Int)) = true := by rw [beq_iff_eq]; omega
 have q3 : ((th) == (0 : Int)) = false := by rw [beq_eq_false_iff_ne]; omega
 have q5 : ((hi) == (28428538856079360 : Int)) = false := by rw [beq_eq_false_iff_ne]; omega
 have q6 : ((hi / 281474976710656) == (8194 : Int)) = true := by rw [beq_iff_eq]; omega
 have q7 : ((hi / 4294967296) == (536936448 : Int)) = false := by rw [beq_eq_false_iff_ne]; omega
 have q8 : ((th) == (24318 : Int)) = false := by rw [beq_eq_false_iff_ne]; omega
 have q9 : ((th) == (33578750 : Int)) = false := by rw [beq_eq_false_iff_ne]; omega
 clear hlw2 hh hk
 have hc1 : Below w.heap.size w (w.alloc (.cells #[.int .u64 hi, .int .u64 lo] 73)) := (Below.refl _ w).alloc (Nat.le_refl _) _
 go_enter Tryz.func137, Tryz.ntmps137
 go_wp2_with fail
 refine (zbB hi lo _).mono ?_
 rintro e x1 ⟨rfl, hb1⟩
 have hc : Below w.heap.size w x1 := hc1.trans (hb1.mono hc1.size)
 have hsz := hc.size
 clear hb1 hc1 hta
 have hown0 := World.ownsRow_nil x1 w.heap.size 70 1
 go_wp2_with (first
  | (at_builtin; refine zaU _ rfl _ _ 162 rfl w.heap.size 70 i0 (.int .u32 0) 4 Tryz.underlying162 hi0 hz0 hz1 hz2 rfl _ 0 _ rfl hown0 (.int .u32 (hi / 65536 % 4294967296)) rfl rfl (by decide) (by decide) hsz ?_; intro v1 y1 hown1 hk1))
 go_ret
 exact ⟨_, rfl, by rw [HZ.out]; exact hown1, (hc.trans hk1)⟩
theorem ztU (hi lo th lw : Int) (w : World) (hbd : (0 ≤ hi ∧ hi ≤ 18446744073709551615) ∧ (0 ≤ lo ∧ lo ≤ 18446744073709551615)) (hth : lo / 4294967296 = th) (hlw2 : lo % 4294967296 = lw) (hh : hi / 281474976710656 = 8194) (hk : th = 0) :
  Calls Tryz.prog 137 #[.iface 73 (.agg #[.int .u64 hi, .int .u64 lo])] w (zbH w (zaI hi lo)) := by
 obtain ⟨⟨h0, h1⟩, l0, l1⟩ := hbd
 obtain ⟨i0, hi0, hz0, hz1, hz2⟩ := info_parts Tryz.infoFour
 have hta := as66
 have hwl : IntKind.u32.wrap lo = lw := by rw [zaF]; exact hlw2
 have hwd : IntKind.u32.wrap (hi / 65536) = hi / 65536 % 4294967296 := zaF _
 have hwe : IntKind.u32.wrap hi = hi % 4294967296 := zaF _
 have hA : inA hi th lw = [] := if_neg (by omega)
 have hB : inCo hi th lw = [] := if_neg (by omega)
 have hC : inC hi th lw = [] := if_neg (by omega)
 have hD : inD hi = [hi / 65536 % 4294967296] := if_pos (by omega)
 have hE : inE hi lw = [] := if_neg (by omega)
 have hF : inF th lw = [] := if_neg (by omega)
 have HZ : Hid (zaI hi lo = [hi / 65536 % 4294967296]) := by show zaI hi lo = _; rw [zaI, hth, hlw2, hA, hB, hC, hD, hE, hF]; rfl
 clear hA hB hC hD hE hF
 have ht0 : 0 ≤ th := by omega
 have ht1 : th ≤ 4294967295 := by omega
 have hw0 : 0 ≤ lw := by omega
 have hw1 : lw ≤ 4294967295 := by omega
 have q1 : ((hi) == (0 : Int)) = false := by rw [beq_eq_false_iff_ne]; omega
 have q2 : ((th) == (65535 : Int)) = false := by rw [beq_eq_false_iff_ne]; omega
 have q3 : ((th) == (0 : Int)) = true := by rw [beq_iff_eq]; omega
 have q5 : ((hi) == (28428538856079360 : Int)) = false := by rw [beq_eq_false_iff_ne]; omega
 have q6 : ((hi / 281474976710656) == (8194 : Int)) = true := by rw [beq_iff_eq]; omega
 have q7 : ((hi / 4294967296) == (536936448 : Int)) = false := by rw [beq_eq_false_iff_ne]; omega
 have q8 : ((th) == (24318 : Int)) = false := by rw [beq_eq_false_iff_ne]; omega
 have q9 : ((th) == (33578750 : Int)) = false := by rw [beq_eq_false_iff_ne]; omega
 clear hlw2 hh hk
 have hc1 : Below w.heap.size w (w.alloc (.cells #[.int .u64 hi, .int .u64 lo] 73)) := (Below.refl _ w).alloc (Nat.le_refl _) _
 go_enter Tryz.func137, Tryz.ntmps137
 go_wp2_with fail
 refine (zbB hi lo _).mono ?_
 rintro e x1 ⟨rfl, hb1⟩
 have hc : Below w.heap.size w x1 := hc1.trans (hb1.mono hc1.size)
 have hsz := hc.size
 clear hb1 hc1 hta
 have hown0 := World.ownsRow_nil x1 w.heap.size 70 1
 go_wp2_with (first
  | (at_builtin; refine zaU _ rfl _ _ 162 rfl w.heap.size 70 i0 (.int .u32 0) 4 Tryz.underlying162 hi0 hz0 hz1 hz2 rfl _ 0 _ rfl hown0 (.int .u32 (hi / 65536 % 4294967296)) rfl rfl (by decide) (by decide) hsz ?_; intro v1 y1 hown1 hk1))
 go_ret
 exact ⟨_, rfl, by rw [HZ.out]; exact hown1, (hc.trans hk1)⟩
theorem z1O (hi lo th lw : Int) (w : World) (hbd : (0 ≤ hi ∧ hi ≤ 18446744073709551615) ∧ (0 ≤ lo ∧ lo ≤ 18446744073709551615)) (hth : lo / 4294967296 = th) (hlw2 : lo % 4294967296 = lw) (hh : hi / 281474976710656 = 8194) (hk : th = 24318) :
  Calls Tryz.prog 137 #[.iface 73 (.agg #[.int .u64 hi, .int .u64 lo])] w (zbH w (zaI hi lo)) := by
 obtain ⟨⟨h0, h1⟩, l0, l1⟩ := hbd
 obtain ⟨i0, hi0, hz0, hz1, hz2⟩ := info_parts Tryz.infoFour
 have hta := as66
 have hwl : IntKind.u32.wrap lo = lw := by rw [zaF]; exact hlw2
 have hwd : IntKind.u32.wrap (hi / 65536) = hi / 65536 % 4294967296 := zaF _
 have hwe : IntKind.u32.wrap hi = hi % 4294967296 := zaF _
 have hA : inA hi th lw = [] := if_neg (by omega)
 have hB : inCo hi th lw = [] := if_neg (by omega)
 have hC : inC hi th lw = [] := if_neg (by omega)
 have hD : inD hi = [hi / 65536 % 4294967296] := if_pos (by omega)
 have hE : inE hi lw = [] := if_neg (by omega)
 have hF : inF th lw = [lw] := if_pos (by omega)
 have HZ : Hid (zaI hi lo = [hi / 65536 % 4294967296, lw]) := by show zaI hi lo = _; rw [zaI, hth, hlw2, hA, hB, hC, hD, hE, hF]; rfl
 clear hA hB hC hD hE hF
 have ht0 : 0 ≤ th := by omega
 have ht1 : th ≤ 4294967295 := by omega
 have hw0 : 0 ≤ lw := by omega
 have hw1 : lw ≤ 4294967295 := by omega
 have q1 : ((hi) == (0 : Int)) = false := by rw [beq_eq_false_iff_ne]; omega
 have q2 : ((th) == (65535 : Int)) = false := by rw [beq_eq_false_iff_ne]; omega
 have q3 : ((th) == (0 : Int)) = false := by rw [beq_eq_false_iff_ne]; omega
 have q5 : ((hi) == (28428538856079360 : Int)) = false := by rw [beq_eq_false_iff_ne]; omega
 have q6 : ((hi / 281474976710656) == (8194 : Int)) = true := by rw [beq_iff_eq]; omega
 have q7 : ((hi / 4294967296) == (536936448 : Int)) = false := by rw [beq_eq_false_iff_ne]; omega
 have q8 : ((th) == (24318 : Int)) = true := by rw [beq_iff_eq]; omega
 have q9 : ((th) == (33578750 : Int)) = false := by rw [beq_eq_false_iff_ne]; omega
 clear hlw2 hh hk
 have hc1 : Below w.heap.size w (w.alloc (.cells #[.int .u64 hi, .int .u64 lo] 73)) := (Below.refl _ w).alloc (Nat.le_refl _) _
 go_enter Tryz.func137, Tryz.ntmps137
 go_wp2_with fail
 refine (zbB hi lo _).mono ?_
 rintro e x1 ⟨rfl, hb1⟩
 have hc : Below w.heap.size w x1 := hc1.trans (hb1.mono hc1.size)
 have hsz := hc.size
 clear hb1 hc1 hta
 have hown0 := World.ownsRow_nil x1 w.heap.size 70 1
 go_wp2_with (first
  | (at_builtin; refine zaU _ rfl _ _ 162 rfl w.heap.size 70 i0 (.int .u32 0) 4 Tryz.underlying162 hi0 hz0 hz1 hz2 rfl _ 0 _ rfl hown0 (.int .u32 (hi / 65536 % 4294967296)) rfl rfl (by decide) (by decide) hsz ?_; intro v1 y1 hown1 hk1)
  | (at_builtin; refine zaU _ rfl _ _ 162 rfl w.heap.size 70 i0 (.int .u32 0) 4 Tryz.underlying162 hi0 hz0 hz1 hz2 rfl _ 1 _ rfl hown1 (.int .u32 lw) rfl rfl (by decide) (by decide) (hc.trans hk1).size ?_; intro v2 y2 hown2 hk2))
 go_ret
 exact ⟨_, rfl, by rw [HZ.out]; exact hown2, ((hc.trans hk1).trans hk2)⟩
theorem z0F (hi lo th lw : Int) (w : World) (hbd : (0 ≤ hi ∧ hi ≤ 18446744073709551615) ∧ (0 ≤ lo ∧ lo ≤ 18446744073709551615)) (hth : lo / 4294967296 = th) (hlw2 : lo % 4294967296 = lw) (hh : hi / 281474976710656 = 8194) (hk : th = 33578750) :
  Calls Tryz.prog 137 #[.iface 73 (.agg #[.int .u64 hi, .int .u64 lo])] w (zbH w (zaI hi lo)) := by
 obtain ⟨⟨h0, h1⟩, l0, l1⟩ := hbd
 obtain ⟨i0, hi0, hz0, hz1, hz2⟩ := info_parts Tryz.infoFour
 have hta := as66
 have hwl : IntKind.u32.wrap lo = lw := by rw [zaF]; exact hlw2
 have hwd : IntKind.u32.wrap (hi / 65536) = hi / 65536 % 4294967296 := zaF _
 have hwe : IntKind.u32.wrap hi = hi % 4294967296 := zaF _
 have hA : inA hi th lw = [] := if_neg (by omega)
 have hB : inCo hi th lw = [] := if_neg (by omega)
 have hC : inC hi th lw = [] := if_neg (by omega)
 have hD : inD hi = [hi / 65536 % 4294967296] := if_pos (by omega)
 have hE : inE hi lw = [] := if_neg (by omega)
 have hF : inF th lw = [lw] := if_pos (by omega)
 have HZ : Hid (zaI hi lo = [hi / 65536 % 4294967296, lw]) := by show zaI hi lo = _; rw [zaI, hth, hlw2, hA, hB, hC, hD, hE, hF]; rfl
 clear hA hB hC hD hE hF
 have ht0 : 0 ≤ th := by omega
 have ht1 : th ≤ 4294967295 := by omega
 have hw0 : 0 ≤ lw := by omega
 have hw1 : lw ≤ 4294967295 := by omega
 have q1 : ((hi) == (0 : Int)) = false := by rw [beq_eq_false_iff_ne]; omega
 have q2 : ((th) == (65535 : Int)) = false := by rw [beq_eq_false_iff_ne]; omega
 have q3 : ((th) == (0 : Int)) = false := by rw [beq_eq_false_iff_ne]; omega
 have q5 : ((hi) == (28428538856079360 : Int)) = false := by rw [beq_eq_false_iff_ne]; omega
 have q6 : ((hi / 281474976710656) == (8194 : Int)) = true := by rw [beq_iff_eq]; omega
 have q7 : ((hi / 4294967296) == (536936448 : Int)) = false := by rw [beq_eq_false_iff_ne]; omega
 have q8 : ((th) == (24318 : Int)) = false := by rw [beq_eq_false_iff_ne]; omega
 have q9 : ((th) == (33578750 : Int)) = true := by rw [beq_iff_eq]; omega
 clear hlw2 hh hk
 have hc1 : Below w.heap.size w (w.alloc (.cells #[.int .u64 hi, .int .u64 lo] 73)) := (Below.refl _ w).alloc (Nat.le_refl _) _
 go_enter Tryz.func137, Tryz.ntmps137
 go_wp2_with fail
 refine (zbB hi lo _).mono ?_
 rintro e x1 ⟨rfl, hb1⟩
 have hc : Below w.heap.size w x1 := hc1.trans (hb1.mono hc1.size)
 have hsz := hc.size
 clear hb1 hc1 hta
 have hown0 := World.ownsRow_nil x1 w.heap.size 70 1
 go_wp2_with (first
  | (at_builtin; refine zaU _ rfl _ _ 162 rfl w.heap.size 70 i0 (.int .u32 0) 4 Tryz.underlying162 hi0 hz0 hz1 hz2 rfl _ 0 _ rfl hown0 (.int .u32 (hi / 65536 % 4294967296)) rfl rfl (by decide) (by decide) hsz ?_; intro v1 y1 hown1 hk1)
  | (at_builtin; refine zaU _ rfl _ _ 162 rfl w.heap.size 70 i0 (.int .u32 0) 4 Tryz.underlying162 hi0 hz0 hz1 hz2 rfl _ 1 _ rfl hown1 (.int .u32 lw) rfl rfl (by decide) (by decide) (hc.trans hk1).size ?_; intro v2 y2 hown2 hk2))
 go_ret
 exact ⟨_, rfl, by rw [HZ.out]; exact hown2, ((hc.trans hk1).trans hk2)⟩
theorem zvC (hi lo th lw : Int) (w : World) (hbd : (0 ≤ hi ∧ hi ≤ 18446744073709551615) ∧ (0 ≤ lo ∧ lo ≤ 18446744073709551615)) (hth : lo / 4294967296 = th) (hlw2 : lo % 4294967296 = lw) (hh : hi / 281474976710656 = 8194) (hk : th ≠ 65535 ∧ th ≠ 0 ∧ th ≠ 24318 ∧ th ≠ 33578750) :
  Calls Tryz.prog 137 #[.iface 73 (.agg #[.int .u64 hi, .int .u64 lo])] w (zbH w (zaI hi lo)) := by
 obtain ⟨⟨h0, h1⟩, l0, l1⟩ := hbd
 obtain ⟨i0, hi0, hz0, hz1, hz2⟩ := info_parts Tryz.infoFour
 have hta := as66
 have hwl : IntKind.u32.wrap lo = lw := by rw [zaF]; exact hlw2
 have hwd : IntKind.u32.wrap (hi / 65536) = hi / 65536 % 4294967296 := zaF _
 have hwe : IntKind.u32.wrap hi = hi % 4294967296 := zaF _
 have hA : inA hi th lw = [] := if_neg (by omega)
 have hB : inCo hi th lw = [] := if_neg (by omega)
 have hC : inC hi th lw = [] := if_neg (by omega)
 have hD : inD hi = [hi / 65536 % 4294967296] := if_pos (by omega)
 have hE : inE hi lw = [] := if_neg (by omega)
 have hF : inF th lw = [] := if_neg (by omega)
 have HZ : Hid (zaI hi lo = [hi / 65536 % 4294967296]) := by show zaI hi lo = _; rw [zaI, hth, hlw2, hA, hB, hC, hD, hE, hF]; rfl
 clear hA hB hC hD hE hF
 have ht0 : 0 ≤ th := by omega
 have ht1 : th ≤ 4294967295 := by omega
 have hw0 : 0 ≤ lw := by omega
 have hw1 : lw ≤ 4294967295 := by omega
 have q1 : ((hi) == (0 : Int)) = false := by rw [beq_eq_false_iff_ne]; omega
 have q2 : ((th) == (65535 : Int)) = false := by rw [beq_eq_false_iff_ne]; omega
 have q3 : ((th) == (0 : Int)) = false := by rw [beq_eq_false_iff_ne]; omega
 have q5 : ((hi) == (28428538856079360 : Int)) = false := by rw [beq_eq_false_iff_ne]; omega
 have q6 : ((hi / 281474976710656) == (8194 : Int)) = true := by rw [beq_iff_eq]; omega
 have q7 : ((hi / 4294967296) == (536936448 : Int)) = false := by rw [beq_eq_false_iff_ne]; omega
 have q8 : ((th) == (24318 : Int)) = false := by rw [beq_eq_false_iff_ne]; omega
 have q9 : ((th) == (33578750 : Int)) = false := by rw [beq_eq_false_iff_ne]; omega
 clear hlw2 hh hk
 have hc1 : Below w.heap.size w (w.alloc (.cells #[.int .u64 hi, .int .u64 lo] 73)) := (Below.refl _ w).alloc (Nat.le_refl _) _
 go_enter Tryz.func137, Tryz.ntmps137
 go_wp2_with fail
 refine (zbB hi lo _).mono ?_
 rintro e x1 ⟨rfl, hb1⟩
 have hc : Below w.heap.size w x1 := hc1.trans (hb1.mono hc1.size)
 have hsz := hc.size
 clear hb1 hc1 hta
 have hown0 := World.ownsRow_nil x1 w.heap.size 70 1
 go_wp2_with (first
  | (at_builtin; refine zaU _ rfl _ _ 162 rfl w.heap.size 70 i0 (.int .u32 0) 4 Tryz.underlying162 hi0 hz0 hz1 hz2 rfl _ 0 _ rfl hown0 (.int .u32 (hi / 65536 % 4294967296)) rfl rfl (by decide) (by decide) hsz ?_; intro v1 y1 hown1 hk1))
 go_ret
 exact ⟨_, rfl, by rw [HZ.out]; exact hown1, (hc.trans hk1)⟩
theorem zsF (hi lo th lw : Int) (w : World) (hbd : (0 ≤ hi ∧ hi ≤ 18446744073709551615) ∧ (0 ≤ lo ∧ lo ≤ 18446744073709551615)) (hth : lo / 4294967296 = th) (hlw2 : lo % 4294967296 = lw) (hh : hi / 4294967296 = 536936448) (hk : th = 65535) :
  Calls Tryz.prog 137 #[.iface 73 (.agg #[.int .u64 hi, .int .u64 lo])] w (zbH w (zaI hi lo)) := by
 obtain ⟨⟨h0, h1⟩, l0, l1⟩ := hbd
 obtain ⟨i0, hi0, hz0, hz1, hz2⟩ := info_parts Tryz.infoFour
 have hta := as66
 have hwl : IntKind.u32.wrap lo = lw := by rw [zaF]; exact hlw2
 have hwd : IntKind.u32.wrap (hi / 65536) = hi / 65536 % 4294967296 := zaF _
 have hwe : IntKind.u32.wrap hi = hi % 4294967296 := zaF _
 have hA : inA hi th lw = [] := if_neg (by omega)
 have hB : inCo hi th lw = [] := if_neg (by omega)
 have hC : inC hi th lw = [] := if_neg (by omega)
 have hD : inD hi = [] := if_neg (by omega)
 have hE : inE hi lw = [hi % 4294967296, 4294967295 - lw] := if_pos (by omega)
 have hF : inF th lw = [] := if_neg (by omega)
 have HZ : Hid (zaI hi lo = [hi % 4294967296, 4294967295 - lw]) := by show zaI hi lo = _; rw [zaI, hth, hlw2, hA, hB, hC, hD, hE, hF]; rfl
 clear hA hB hC hD hE hF
 have ht0 : 0 ≤ th := by omega
 have ht1 : th ≤ 4294967295 := by omega
 have hw0 : 0 ≤ lw := by omega
 have hw1 : lw ≤ 4294967295 := by omega
 have q1 : ((hi) == (0 : Int)) = false := by rw [beq_eq_false_iff_ne]; omega
 have q2 : ((th) == (65535 : Int)) = true := by rw [beq_iff_eq]; omega
 have q3 : ((th) == (0 : Int)) = false := by rw [beq_eq_false_iff_ne]; omega
 have q5 : ((hi) == (28428538856079360 : Int)) = false := by rw [beq_eq_false_iff_ne]; omega
 have q6 : ((hi / 281474976710656) == (8194 : Int)) = false := by rw [beq_eq_false_iff_ne]; omega
 have q7 : ((hi / 4294967296) == (536936448 : Int)) = true := by rw [beq_iff_eq]; omega
 have q8 : ((th) == (24318 : Int)) = false := by rw [beq_eq_false_iff_ne]; omega
 have q9 : ((th) == (33578750 : Int)) = false := by rw [beq_eq_false_iff_ne]; omega
 have hxor := z5Y lw hw0 hw1
 clear hlw2 hh hk
 have hc1 : Below w.heap.size w (w.alloc (.cells #[.int .u64 hi, .int .u64 lo] 73)) := (Below.refl _ w).alloc (Nat.le_refl _) _
 go_enter Tryz.func137, Tryz.ntmps137
 go_wp2_with fail
 refine (zbB hi lo _).mono ?_
 rintro e x1 ⟨rfl, hb1⟩
 have hc : Below w.heap.size w x1 := hc1.trans (hb1.mono hc1.size)
 have hsz := hc.size
 clear hb1 hc1 hta
 have hown0 := World.ownsRow_nil x1 w.heap.size 70 1
 go_wp2_with (first
  | (at_builtin; refine zeR _ rfl _ _ 162 rfl w.heap.size 70 i0 (.int .u32 0) 4 Tryz.underlying162 hi0 hz0 hz1 hz2 rfl _ 0 _ rfl hown0 (.int .u32 (hi % 4294967296)) (.int .u32 (4294967295 - lw)) rfl rfl rfl (by unfold maxLen; omega) (by omega) hsz ?_; intro v1 y1 hown1 hk1))
 go_ret
 exact ⟨_, rfl, by rw [HZ.out]; exact hown1, (hc.trans hk1)⟩
theorem zuK (hi lo th lw : Int) (w : World) (hbd : (0 ≤ hi ∧ hi ≤ 18446744073709551615) ∧ (0 ≤ lo ∧ lo ≤ 18446744073709551615)) (hth : lo / 4294967296 = th) (hlw2 : lo % 4294967296 = lw) (hh : hi / 4294967296 = 536936448) (hk : th = 0) :
  Calls Tryz.prog 137 #[.iface 73 (.agg #[.int .u64 hi, .int .u64 lo])] w (zbH w (zaI hi lo)) := by
 obtain ⟨⟨h0, h1⟩, l0, l1⟩ := hbd
 obtain ⟨i0, hi0, hz0, hz1, hz2⟩ := info_parts Tryz.infoFour
 have hta := as66
 have hwl : IntKind.u32.wrap lo = lw := by rw [zaF]; exact hlw2
 have hwd : IntKind.u32.wrap (hi / 65536) = hi / 65536 % 4294967296 := zaF _
 have hwe : IntKind.u32.wrap hi = hi % 4294967296 := zaF _
 have hA : inA hi th lw = [] := if_neg (by omega)
 have hB : inCo hi th lw = [] := if_neg (by omega)
 have hC : inC hi th lw = [] := if_neg (by omega)
 have hD : inD hi = [] := if_neg (by omega)
 have hE : inE hi lw = [hi % 4294967296, 4294967295 - lw] := if_pos (by omega)
 have hF : inF th lw = [] := if_neg (by omega)
 have HZ : Hid (zaI hi lo = [hi % 4294967296, 4294967295 - lw]) := by show zaI hi lo = _; rw [zaI, hth, hlw2, hA, hB, hC, hD, hE, hF]; rfl
 clear hA hB hC hD hE hF
 have ht0 : 0 ≤ th := by omega
 have ht1 : th ≤ 4294967295 := by omega
 have hw0 : 0 ≤ lw := by omega
 have hw1 : lw ≤ 4294967295 := by omega
 have q1 : ((hi) == (0 : Int)) = false := by rw [beq_eq_false_iff_ne]; omega
 have q2 : ((th) == (65535 : Int)) = false := by rw [beq_eq_false_iff_ne]; omega
 have q3 : ((th) == (0 : Int)) = true := by rw [beq_iff_eq]; omega
 have q5 : ((hi) == (28428538856079360 : Int)) = false := by rw [beq_eq_false_iff_ne]; omega
 have q6 : ((hi / 281474976710656) == (8194 : Int)) = false := by rw [beq_eq_false_iff_ne]; omega
 have q7 : ((hi / 4294967296) == (536936448 : Int)) = true := by rw [beq_iff_eq]; omega
 have q8 : ((th) == (24318 : Int)) = false := by rw [beq_eq_false_iff_ne]; omega
 have q9 : ((th) == (33578750 : Int)) = false := by rw [beq_eq_false_iff_ne]; omega
 have hxor := z5Y lw hw0 hw1
 clear hlw2 hh hk
 have hc1 : Below w.heap.size w (w.alloc (.cells #[.int .u64 hi, .int .u64 lo] 73)) := (Below.refl _ w).alloc (Nat.le_refl _) _
 go_enter Tryz.func137, Tryz.ntmps137
 go_wp2_with fail
 refine (zbB hi lo _).mono ?_
 rintro e x1 ⟨rfl, hb1⟩
 have hc : Below w.heap.size w x1 := hc1.trans (hb1.mono hc1.size)
 have hsz := hc.size
 clear hb1 hc1 hta
 have hown0 := World.ownsRow_nil x1 w.heap.size 70 1
 go_wp2_with (first
  | (at_builtin; refine zeR _ rfl _ _ 162 rfl w.heap.size 70 i0 (.int .u32 0) 4 Tryz.underlying162 hi0 hz0 hz1 hz2 rfl _ 0 _ rfl hown0 (.int .u32 (hi % 4294967296)) (.int .u32 (4294967295 - lw)) rfl rfl rfl (by unfold maxLen; omega) (by omega) hsz ?_; intro v1 y1 hown1 hk1))
 go_ret
 exact ⟨_, rfl, by rw [HZ.out]; exact hown1, (hc.trans hk1)⟩
theorem zzN (hi lo th lw : Int) (w : World) (hbd : (0 ≤ hi ∧ hi ≤ 18446744073709551615) ∧ (0 ≤ lo ∧ lo ≤ 18446744073709551615)) (hth : lo / 4294967296 = th) (hlw2 : lo % 4294967296 = lw) (hh : hi / 4294967296 = 536936448) (hk : th = 24318) :
  Calls Tryz.prog 137 #[.iface 73 (.agg #[.int .u64 hi, .int .u64 lo])] w (zbH w (zaI hi lo)) := by
 obtain ⟨⟨h0, h1⟩, l0, l1⟩ := hbd
 obtain ⟨i0, hi0, hz0, hz1, hz2⟩ := info_parts Tryz.infoFour
 have hta := as66
 have hwl : IntKind.u32.wrap lo = lw := by rw [zaF]; exact hlw2
 have hwd : IntKind.u32.wrap (hi / 65536) = hi / 65536 % 4294967296 := zaF _
 have hwe : IntKind.u32.wrap hi = hi % 4294967296 := zaF _
 have hA : inA hi th lw = [] := if_neg (by omega)
 have hB : inCo hi th lw = [] := if_neg (by omega)
 have hC : inC hi th lw = [] := if_neg (by omega)
 have hD : inD hi = [] := if_neg (by omega)
 have hE : inE hi lw = [hi % 4294967296, 4294967295 - lw] := if_pos (by omega)
 have hF : inF th lw = [lw] := if_pos (by omega)
 have HZ : Hid (zaI hi lo = [hi % 4294967296, 4294967295 - lw, lw]) := by show zaI hi lo = _; rw [zaI, hth, hlw2, hA, hB, hC, hD, hE, hF]; rfl
 clear hA hB hC hD hE hF
 have ht0 : 0 ≤ th := by omega
 have ht1 : th ≤ 4294967295 := by omega
 have hw0 : 0 ≤ lw := by omega
 have hw1 : lw ≤ 4294967295 := by omega
 have q1 : ((hi) == (0 : Int)) = false := by rw [beq_eq_false_iff_ne]; omega
 have q2 : ((th) == (65535 : Int)) = false := by rw [beq_eq_false_iff_ne]; omega
 have q3 : ((th) == (0 : Int)) = false := by rw [beq_eq_false_iff_ne]; omega
 have q5 : ((hi) == (28428538856079360 : Int)) = false := by rw [beq_eq_false_iff_ne]; omega
 have q6 : ((hi / 281474976710656) == (8194 : Int)) = false := by rw [beq_eq_false_iff_ne]; omega
 have q7 : ((hi / 4294967296) == (536936448 : Int)) = true := by rw [beq_iff_eq]; omega
 have q8 : ((th) == (24318 : Int)) = true := by rw [beq_iff_eq]; omega
 have q9 : ((th) == (33578750 : Int)) = false := by rw [beq_eq_false_iff_ne]; omega
 have hxor := z5Y lw hw0 hw1
 clear hlw2 hh hk
 have hc1 : Below w.heap.size w (w.alloc (.cells #[.int .u64 hi, .int .u64 lo] 73)) := (Below.refl _ w).alloc (Nat.le_refl _) _
 go_enter Tryz.func137, Tryz.ntmps137
 go_wp2_with fail
 refine (zbB hi lo _).mono ?_
 rintro e x1 ⟨rfl, hb1⟩
 have hc : Below w.heap.size w x1 := hc1.trans (hb1.mono hc1.size)
 have hsz := hc.size
 clear hb1 hc1 hta
 have hown0 := World.ownsRow_nil x1 w.heap.size 70 1
 go_wp2_with (first
  | (at_builtin; refine zeR _ rfl _ _ 162 rfl w.heap.size 70 i0 (.int .u32 0) 4 Tryz.underlying162 hi0 hz0 hz1 hz2 rfl _ 0 _ rfl hown0 (.int .u32 (hi % 4294967296)) (.int .u32 (4294967295 - lw)) rfl rfl rfl (by unfold maxLen; omega) (by omega) hsz ?_; intro v1 y1 hown1 hk1)
  | (at_builtin; refine zaU _ rfl _ _ 162 rfl w.heap.size 70 i0 (.int .u32 0) 4 Tryz.underlying162 hi0 hz0 hz1 hz2 rfl _ 2 _ rfl hown1 (.int .u32 lw) rfl rfl (by decide) (by decide) (hc.trans hk1).size ?_; intro v2 y2 hown2 hk2))
 go_ret
 exact ⟨_, rfl, by rw [HZ.out]; exact hown2, ((hc.trans hk1).trans hk2)⟩
theorem zyZ (hi lo th lw : Int) (w : World) (hbd : (0 ≤ hi ∧ hi ≤ 18446744073709551615) ∧ (0 ≤ lo ∧ lo ≤ 18446744073709551615)) (hth : lo / 4294967296 = th) (hlw2 : lo % 4294967296 = lw) (hh : hi / 4294967296 = 536936448) (hk : th = 33578750) :
  Calls Tryz.prog 137 #[.iface 73 (.agg #[.int .u64 hi, .int .u64 lo])] w (zbH w (zaI hi lo)) := by
 obtain ⟨⟨h0, h1⟩, l0, l1⟩ := hbd
 obtain ⟨i0, hi0, hz0, hz1, hz2⟩ := info_parts Tryz.infoFour
 have hta := as66
 have hwl : IntKind.u32.wrap lo = lw := by rw [zaF]; exact hlw2
 have hwd : IntKind.u32.wrap (hi / 65536) = hi / 65536 % 4294967296 := zaF _
 have hwe : IntKind.u32.wrap hi = hi % 4294967296 := zaF _
 have hA : inA hi th lw = [] := if_neg (by omega)
 have hB : inCo hi th lw = [] := if_neg (by omega)
 have hC : inC hi th lw = [] := if_neg (by omega)
 have hD : inD hi = [] := if_neg (by omega)
 have hE : inE hi lw = [hi % 4294967296, 4294967295 - lw] := if_pos (by omega)
 have hF : inF th lw = [lw] := if_pos (by omega)
 have HZ : Hid (zaI hi lo = [hi % 4294967296, 4294967295 - lw, lw]) := by show zaI hi lo = _; rw [zaI, hth, hlw2, hA, hB, hC, hD, hE, hF]; rfl
 clear hA hB hC hD hE hF
 have ht0 : 0 ≤ th := by omega
 have ht1 : th ≤ 4294967295 := by omega
 have hw0 : 0 ≤ lw := by omega
 have hw1 : lw ≤ 4294967295 := by omega
 have q1 : ((hi) == (0 : Int)) = false := by rw [beq_eq_false_iff_ne]; omega
 have q2 : ((th) == (65535 : Int)) = false := by rw [beq_eq_false_iff_ne]; omega
 have q3 : ((th) == (0 : Int)) = false := by rw [beq_eq_false_iff_ne]; omega
 have q5 : ((hi) == (28428538856079360 : Int)) = false := by rw [beq_eq_false_iff_ne]; omega
 have q6 : ((hi / 281474976710656) == (8194 : Int)) = false := by rw [beq_eq_false_iff_ne]; omega
 have q7 : ((hi / 4294967296) == (536936448 : Int)) = true := by rw [beq_iff_eq]; omega
 have q8 : ((th) == (24318 : Int)) = false := by rw [beq_eq_false_iff_ne]; omega
 have q9 : ((th) == (33578750 : Int)) = true := by rw [beq_iff_eq]; omega
 have hxor := z5Y lw hw0 hw1
 clear hlw2 hh hk
 have hc1 : Below w.heap.size w (w.alloc (.cells #[.int .u64 hi, .int .u64 lo] 73)) := (Below.refl _ w).alloc (Nat.le_refl _) _
 go_enter Tryz.func137, Tryz.ntmps137
 go_wp2_with fail
 refine (zbB hi lo _).mono ?_
 rintro e x1 ⟨rfl, hb1⟩
 have hc : Below w.heap.size w x1 := hc1.trans (hb1.mono hc1.size)
 have hsz := hc.size
 clear hb1 hc1 hta
 have hown0 := World.ownsRow_nil x1 w.heap.size 70 1
 go_wp2_with (first
  | (at_builtin; refine zeR _ rfl _ _ 162 rfl w.heap.size 70 i0 (.int .u32 0) 4 Tryz.underlying162 hi0 hz0 hz1 hz2 rfl _ 0 _ rfl hown0 (.int .u32 (hi % 4294967296)) (.int .u32 (4294967295 - lw)) rfl rfl rfl (by unfold maxLen; omega) (by omega) hsz ?_; intro v1 y1 hown1 hk1)
  | (at_builtin; refine zaU _ rfl _ _ 162 rfl w.heap.size 70 i0 (.int .u32 0) 4 Tryz.underlying162 hi0 hz0 hz1 hz2 rfl _ 2 _ rfl hown1 (.int .u32 lw) rfl rfl (by decide) (by decide) (hc.trans hk1).size ?_; intro v2 y2 hown2 hk2))
 go_ret
 exact ⟨_, rfl, by rw [HZ.out]; exact hown2, ((hc.trans hk1).trans hk2)⟩
theorem zwF (hi lo th lw : Int) (w : World) (hbd : (0 ≤ hi ∧ hi ≤ 18446744073709551615) ∧ (0 ≤ lo ∧ lo ≤ 18446744073709551615)) (hth : lo / 4294967296 = th) (hlw2 : lo % 4294967296 = lw) (hh : hi / 4294967296 = 536936448) (hk : th ≠ 65535 ∧ th ≠ 0 ∧ th ≠ 24318 ∧ th ≠ 33578750) :
  Calls Tryz.prog 137 #[.iface 73 (.agg #[.int .u64 hi, .int .u64 lo])] w (zbH w (zaI hi lo)) := by
 obtain ⟨⟨h0, h1⟩, l0, l1⟩ := hbd
 obtain ⟨i0, hi0, hz0, hz1, hz2⟩ := info_parts Tryz.infoFour
 have hta := as66
 have hwl : IntKind.u32.wrap lo = lw := by rw [zaF]; exact hlw2
 have hwd : IntKind.u32.wrap (hi / 65536) = hi / 65536 % 4294967296 := zaF _
 have hwe : IntKind.u32.wrap hi = hi % 4294967296 := zaF _
 have hA : inA hi th lw = [] := if_neg (by omega)
 have hB : inCo hi th lw = [] := if_neg (by omega)
 have hC : inC hi th lw = [] := if_neg (by omega)
 have hD : inD hi = [] := if_neg (by omega)
 have hE : inE hi lw = [hi % 4294967296, 4294967295 - lw] := if_pos (by omega)
 have hF : inF th lw = [] := if_neg (by omega)
 have HZ : Hid (zaI hi lo = [hi % 4294967296, 4294967295 - lw]) := by show zaI hi lo = _; rw [zaI, hth, hlw2, hA, hB, hC, hD, hE, hF]; rfl
 clear hA hB hC hD hE hF
 have ht0 : 0 ≤ th := by omega
 have ht1 : th ≤ 4294967295 := by omega
 have hw0 : 0 ≤ lw := by omega
 have hw1 : lw ≤ 4294967295 := by omega
 have q1 : ((hi) == (0 : Int)) = false := by rw [beq_eq_false_iff_ne]; omega
 have q2 : ((th) == (65535 : Int)) = false := by rw [beq_eq_false_iff_ne]; omega
 have q3 : ((th) == (0 : Int)) = false := by rw [beq_eq_false_iff_ne]; omega
 have q5 : ((hi) == (28428538856079360 : Int)) = false := by rw [beq_eq_false_iff_ne]; omega
 have q6 : ((hi / 281474976710656) == (8194 : Int)) = false := by rw [beq_eq_false_iff_ne]; omega
 have q7 : ((hi / 4294967296) == (536936448 : Int)) = true := by rw [beq_iff_eq]; omega
 have q8 : ((th) == (24318 : Int)) = false := by rw [beq_eq_false_iff_ne]; omega
 have q9 : ((th) == (33578750 : Int)) = false := by rw [beq_eq_false_iff_ne]; omega
 have hxor := z5Y lw hw0 hw1
 clear hlw2 hh hk
 have hc1 : Below w.heap.size w (w.alloc (.cells #[.int .u64 hi, .int .u64 lo] 73)) := (Below.refl _ w).alloc (Nat.le_refl _) _
 go_enter Tryz.func137, Tryz.ntmps137
 go_wp2_with fail
 refine (zbB hi lo _).mono ?_
 rintro e x1 ⟨rfl, hb1⟩
 have hc : Below w.heap.size w x1 := hc1.trans (hb1.mono hc1.size)
 have hsz := hc.size
 clear hb1 hc1 hta
 have hown0 := World.ownsRow_nil x1 w.heap.size 70 1
 go_wp2_with (first
  | (at_builtin; refine zeR _ rfl _ _ 162 rfl w.heap.size 70 i0 (.int .u32 0) 4 Tryz.underlying162 hi0 hz0 hz1 hz2 rfl _ 0 _ rfl hown0 (.int .u32 (hi % 4294967296)) (.int .u32 (4294967295 - lw)) rfl rfl rfl (by unfold maxLen; omega) (by omega) hsz ?_; intro v1 y1 hown1 hk1))
 go_ret
 exact ⟨_, rfl, by rw [HZ.out]; exact hown1, (hc.trans hk1)⟩
theorem zoA (hi lo th lw : Int) (w : World) (hbd : (0 ≤ hi ∧ hi ≤ 18446744073709551615) ∧ (0 ≤ lo ∧ lo ≤ 18446744073709551615)) (hth : lo / 4294967296 = th) (hlw2 : lo % 4294967296 = lw) (hh : hi ≠ 0 ∧ hi ≠ 28428538856079360 ∧ hi / 281474976710656 ≠ 8194 ∧ hi / 4294967296 ≠ 536936448) (hk : th = 65535) :
  Calls Tryz.prog 137 #[.iface 73 (.agg #[.int .u64 hi, .int .u64 lo])] w (zbH w (zaI hi lo)) := by
 obtain ⟨⟨h0, h1⟩, l0, l1⟩ := hbd
 obtain ⟨i0, hi0, hz0, hz1, hz2⟩ := info_parts Tryz.infoFour
 have hta := as66
 have hwl : IntKind.u32.wrap lo = lw := by rw [zaF]; exact hlw2
 have hwd : IntKind.u32.wrap (hi / 65536) = hi / 65536 % 4294967296 := zaF _
 have hwe : IntKind.u32.wrap hi = hi % 4294967296 := zaF _
 have hA : inA hi th lw = [] := if_neg (by omega)
 have hB : inCo hi th lw = [] := if_neg (by omega)
 have hC : inC hi th lw = [] := if_neg (by omega)
 have hD : inD hi = [] := if_neg (by omega)
 have hE : inE hi lw = [] := if_neg (by omega)
 have hF : inF th lw = [] := if_neg (by omega)
 have HZ : Hid (zaI hi lo = []) := by show zaI hi lo = _; rw [zaI, hth, hlw2, hA, hB, hC, hD, hE, hF]; rfl
 clear hA hB hC hD hE hF
 have ht0 : 0 ≤ th := by omega
 have ht1 : th ≤ 4294967295 := by omega
 have hw0 : 0 ≤ lw := by omega
 have hw1 : lw ≤ 4294967295 := by omega
 have q1 : ((hi) == (0 : Int)) = false := by rw [beq_eq_false_iff_ne]; omega
 have q2 : ((th) == (65535 : Int)) = true := by rw [beq_iff_eq]; omega
 have q3 : ((th) == (0 : Int)) = false := by rw [beq_eq_false_iff_ne]; omega
 have q5 : ((hi) == (28428538856079360 : Int)) = false := by rw [beq_eq_false_iff_ne]; omega
 have q6 : ((hi / 281474976710656) == (8194 : Int)) = false := by rw [beq_eq_false_iff_ne]; omega
 have q7 : ((hi / 4294967296) == (536936448 : Int)) = false := by rw [beq_eq_false_iff_ne]; omega
 have q8 : ((th) == (24318 : Int)) = false := by rw [beq_eq_false_iff_ne]; omega
 have q9 : ((th) == (33578750 : Int)) = false := by rw [beq_eq_false_iff_ne]; omega
 clear hlw2 hh hk
 have hc1 : Below w.heap.size w (w.alloc (.cells #[.int .u64 hi, .int .u64 lo] 73)) := (Below.refl _ w).alloc (Nat.le_refl _) _
 go_enter Tryz.func137, Tryz.ntmps137
 go_wp2_with fail
 refine (zbB hi lo _).mono ?_
 rintro e x1 ⟨rfl, hb1⟩
 have hc : Below w.heap.size w x1 := hc1.trans (hb1.mono hc1.size)
 have hsz := hc.size
 clear hb1 hc1 hta
 have hown0 := World.ownsRow_nil x1 w.heap.size 70 1
 go_wp2
 go_ret
 exact ⟨_, rfl, by rw [HZ.out]; exact Nums.nil _ _ _ _, hc⟩
theorem zoB (hi lo th lw : Int) (w : World) (hbd : (0 ≤ hi ∧ hi ≤ 18446744073709551615) ∧ (0 ≤ lo ∧ lo ≤ 18446744073709551615)) (hth : lo / 4294967296 = th) (hlw2 : lo % 4294967296 = lw) (hh : hi ≠ 0 ∧ hi ≠ 28428538856079360 ∧ hi / 281474976710656 ≠ 8194 ∧ hi / 4294967296 ≠ 536936448) (hk : th = 0) :
  Calls Tryz.prog 137 #[.iface 73 (.agg #[.int .u64 hi, .int .u64 lo])] w (zbH w (zaI hi lo)) := by
 obtain ⟨⟨h0, h1⟩, l0, l1⟩ := hbd
 obtain ⟨i0, hi0, hz0, hz1, hz2⟩ := info_parts Tryz.infoFour
 have hta := as66
 have hwl : IntKind.u32.wrap lo = lw := by rw [zaF]; exact hlw2
 have hwd : IntKind.u32.wrap (hi / 65536) = hi / 65536 % 4294967296 := zaF _
 have hwe : IntKind.u32.wrap hi = hi % 4294967296 := zaF _
 have hA : inA hi th lw = [] := if_neg (by omega)
 have hB : inCo hi th lw = [] := if_neg (by omega)
 have hC : inC hi th lw = [] := if_neg (by omega)
 have hD : inD hi = [] := if_neg (by omega)
 have hE : inE hi lw = [] := if_neg (by omega)
 have hF : inF th lw = [] := if_neg (by omega)
 have HZ : Hid (zaI hi lo = []) := by show zaI hi lo = _; rw [zaI, hth, hlw2, hA, hB, hC, hD, hE, hF]; rfl
 clear hA hB hC hD hE hF
 have ht0 : 0 ≤ th := by omega
 have ht1 : th ≤ 4294967295 := by omega
 have hw0 : 0 ≤ lw := by omega
 have hw1 : lw ≤ 4294967295 := by omega
 have q1 : ((hi) == (0 : Int)) = false := by rw [beq_eq_false_iff_ne]; omega
 have q2 : ((th) == (65535 : Int)) = false := by rw [beq_eq_false_iff_ne]; omega
 have q3 : ((th) == (0 : Int)) = true := by rw [beq_iff_eq]; omega
 have q5 : ((hi) == (28428538856079360 : Int)) = false := by rw [beq_eq_false_iff_ne]; omega
 have q6 : ((hi / 281474976710656) == (8194 : Int)) = false := by rw [beq_eq_false_iff_ne]; omega
 have q7 : ((hi / 4294967296) == (536936448 : Int)) = false := by rw [beq_eq_false_iff_ne]; omega
 have q8 : ((th) == (24318 : Int)) = false := by rw [beq_eq_false_iff_ne]; omega
 have q9 : ((th) == (33578750 : Int)) = false := by rw [beq_eq_false_iff_ne]; omega
 clear hlw2 hh hk
 have hc1 : Below w.heap.size w (w.alloc (.cells #[.int .u64 hi, .int .u64 lo] 73)) := (Below.refl _ w).alloc (Nat.le_refl _) _
 go_enter Tryz.func137, Tryz.ntmps137
 go_wp2_with fail
 refine (zbB hi lo _).mono ?_
 rintro e x1 ⟨rfl, hb1⟩
 have hc : Below w.heap.size w x1 := hc1.trans (hb1.mono hc1.size)
 have hsz := hc.size
 clear hb1 hc1 hta
 have hown0 := World.ownsRow_nil x1 w.heap.size 70 1
 go_wp2
 go_ret
 exact ⟨_, rfl, by rw [HZ.out]; exact Nums.nil _ _ _ _, hc⟩
theorem ztK (hi lo th lw : Int) (w : World) (hbd : (0 ≤ hi ∧ hi ≤ 18446744073709551615) ∧ (0 ≤ lo ∧ lo ≤ 18446744073709551615)) (hth : lo / 4294967296 = th) (hlw2 : lo % 4294967296 = lw) (hh : hi ≠ 0 ∧ hi ≠ 28428538856079360 ∧ hi / 281474976710656 ≠ 8194 ∧ hi / 4294967296 ≠ 536936448) (hk : th = 24318) :
  Calls Tryz.prog 137 #[.iface 73 (.agg #[.int .u64 hi, .int .u64 lo])] w (zbH w (zaI hi lo)) := by
 obtain ⟨⟨h0, h1⟩, l0, l1⟩ := hbd
 obtain ⟨i0, hi0, hz0, hz1, hz2⟩ := info_parts Tryz.infoFour
 have hta := as66
 have hwl : IntKind.u32.wrap lo = lw := by rw [zaF]; exact hlw2
 have hwd : IntKind.u32.wrap (hi / 65536) = hi / 65536 % 4294967296 := zaF _
 have hwe : IntKind.u32.wrap hi = hi % 4294967296 := zaF _
 have hA : inA hi th lw = [] := if_neg (by omega)
 have hB : inCo hi th lw = [] := if_neg (by omega)
 have hC : inC hi th lw = [] := if_neg (by omega)
 have hD : inD hi = [] := if_neg (by omega)
 have hE : inE hi lw = [] := if_neg (by omega)
 have hF : inF th lw = [lw] := if_pos (by omega)
 have HZ : Hid (zaI hi lo = [lw]) := by show zaI hi lo = _; rw [zaI, hth, hlw2, hA, hB, hC, hD, hE, hF]; rfl
 clear hA hB hC hD hE hF
 have ht0 : 0 ≤ th := by omega
 have ht1 : th ≤ 4294967295 := by omega
 have hw0 : 0 ≤ lw := by omega
 have hw1 : lw ≤ 4294967295 := by omega
 have q1 : ((hi) == (0 : Int)) = false := by rw [beq_eq_false_iff_ne]; omega
 have q2 : ((th) == (65535 : Int)) = false := by rw [beq_eq_false_iff_ne]; omega
 have q3 : ((th) == (0 : Int)) = false := by rw [beq_eq_false_iff_ne]; omega
 have q5 : ((hi) == (28428538856079360 : Int)) = false := by rw [beq_eq_false_iff_ne]; omega
 have q6 : ((hi / 281474976710656) == (8194 : Int)) = false := by rw [beq_eq_false_iff_ne]; omega
 have q7 : ((hi / 4294967296) == (536936448 : Int)) = false := by rw [beq_eq_false_iff_ne]; omega
 have q8 : ((th) == (24318 : Int)) = true := by rw [beq_iff_eq]; omega
 have q9 : ((th) == (33578750 : Int)) = false := by rw [beq_eq_false_iff_ne]; omega
 clear hlw2 hh hk
 have hc1 : Below w.heap.size w (w.alloc (.cells #[.int .u64 hi, .int .u64 lo] 73)) := (Below.refl _ w).alloc (Nat.le_refl _) _
 go_enter Tryz.func137, Tryz.ntmps137
 go_wp2_with fail
 refine (zbB hi lo _).mono ?_
 rintro e x1 ⟨rfl, hb1⟩
 have hc : Below w.heap.size w x1 := hc1.trans (hb1.mono hc1.size)
 have hsz := hc.size
 clear hb1 hc1 hta
 have hown0 := World.ownsRow_nil x1 w.heap.size 70 1
 go_wp2_with (first
  | (at_builtin; refine zaU _ rfl _ _ 162 rfl w.heap.size 70 i0 (.int .u32 0) 4 Tryz.underlying162 hi0 hz0 hz1 hz2 rfl _ 0 _ rfl hown0 (.int .u32 lw) rfl rfl (by decide) (by decide) hsz ?_; intro v1 y1 hown1 hk1))
 go_ret
 exact ⟨_, rfl, by rw [HZ.out]; exact hown1, (hc.trans hk1)⟩
theorem ztP (hi lo th lw : Int) (w : World) (hbd : (0 ≤ hi ∧ hi ≤ 18446744073709551615) ∧ (0 ≤ lo ∧ lo ≤ 18446744073709551615)) (hth : lo / 4294967296 = th) (hlw2 : lo % 4294967296 = lw) (hh : hi ≠ 0 ∧ hi ≠ 28428538856079360 ∧ hi / 281474976710656 ≠ 8194 ∧ hi / 4294967296 ≠ 536936448) (hk : th = 33578750) :
  Calls Tryz.prog 137 #[.iface 73 (.agg #[.int .u64 hi, .int .u64 lo])] w (zbH w (zaI hi lo)) := by
 obtain ⟨⟨h0, h1⟩, l0, l1⟩ := hbd
 obtain ⟨i0, hi0, hz0, hz1, hz2⟩ := info_parts Tryz.infoFour
 have hta := as66
 have hwl : IntKind.u32.wrap lo = lw := by rw [zaF]; exact hlw2
 have hwd : IntKind.u32.wrap (hi / 65536) = hi / 65536 % 4294967296 := zaF _
 have hwe : IntKind.u32.wrap hi = hi % 4294967296 := zaF _
 have hA : inA hi th lw = [] := if_neg (by omega)
 have hB : inCo hi th lw = [] := if_neg (by omega)
 have hC : inC hi th lw = [] := if_neg (by omega)
 have hD : inD hi = [] := if_neg (by omega)
 have hE : inE hi lw = [] := if_neg (by omega)
 have hF : inF th lw = [lw] := if_pos (by omega)
 have HZ : Hid (zaI hi lo = [lw]) := by show zaI hi lo = _; rw [zaI, hth, hlw2, hA, hB, hC, hD, hE, hF]; rfl
 clear hA hB hC hD hE hF
 have ht0 : 0 ≤ th := by omega
 have ht1 : th ≤ 4294967295 := by omega
 have hw0 : 0 ≤ lw := by omega
 have hw1 : lw ≤ 4294967295 := by omega
 have q1 : ((hi) == (0 : Int)) = false := by rw [beq_eq_false_iff_ne]; omega
 have q2 : ((th) == (65535 : Int)) = false := by rw [beq_eq_false_iff_ne]; omega
 have q3 : ((th) == (0 : Int)) = false := by rw [beq_eq_false_iff_ne]; omega
 have q5 : ((hi) == (28428538856079360 : Int)) = false := by rw [beq_eq_false_iff_ne]; omega
 have q6 : ((hi / 281474976710656) == (8194 : Int)) = false := by rw [beq_eq_false_iff_ne]; omega
 have q7 : ((hi / 4294967296) == (536936448 : Int)) = false := by rw [beq_eq_false_iff_ne]; omega
 have q8 : ((th) == (24318 : Int)) = false := by rw [beq_eq_false_iff_ne]; omega
 have q9 : ((th) == (33578750 : Int)) = true := by rw [beq_iff_eq]; omega
 clear hlw2 hh hk
 have hc1 : Below w.heap.size w (w.alloc (.cells #[.int .u64 hi, .int .u64 lo] 73)) := (Below.refl _ w).alloc (Nat.le_refl _) _
 go_enter Tryz.func137, Tryz.ntmps137
 go_wp2_with fail
 refine (zbB hi lo _).mono ?_
 rintro e x1 ⟨rfl, hb1⟩
 have hc : Below w.heap.size w x1 := hc1.trans (hb1.mono hc1.size)
 have hsz := hc.size
 clear hb1 hc1 hta
 have hown0 := World.ownsRow_nil x1 w.heap.size 70 1
 go_wp2_with (first
  | (at_builtin; refine zaU _ rfl _ _ 162 rfl w.heap.size 70 i0 (.int .u32 0) 4 Tryz.underlying162 hi0 hz0 hz1 hz2 rfl _ 0 _ rfl hown0 (.int .u32 lw) rfl rfl (by decide) (by decide) hsz ?_; intro v1 y1 hown1 hk1))
 go_ret
 exact ⟨_, rfl, by rw [HZ.out]; exact hown1, (hc.trans hk1)⟩
theorem zqN (hi lo th lw : Int) (w : World) (hbd : (0 ≤ hi ∧ hi ≤ 18446744073709551615) ∧ (0 ≤ lo ∧ lo ≤ 18446744073709551615)) (hth : lo / 4294967296 = th) (hlw2 : lo % 4294967296 = lw) (hh : hi ≠ 0 ∧ hi ≠ 28428538856079360 ∧ hi / 281474976710656 ≠ 8194 ∧ hi / 4294967296 ≠ 536936448) (hk : th ≠ 65535 ∧ th ≠ 0 ∧ th ≠ 24318 ∧ th ≠ 33578750) :
  Calls Tryz.prog 137 #[.iface 73 (.agg #[.int .u64 hi, .int .u64 lo])] w (zbH w (zaI hi lo)) := by
 obtain ⟨⟨h0, h1⟩, l0, l1⟩ := hbd
 obtain ⟨i0, hi0, hz0, hz1, hz2⟩ := info_parts Tryz.infoFour
 have hta := as66
 have hwl : IntKind.u32.wrap lo = lw := by rw [zaF]; exact hlw2
 have hwd : IntKind.u32.wrap (hi / 65536) = hi / 65536 % 4294967296 := zaF _
 have hwe : IntKind.u32.wrap hi = hi % 4294967296 := zaF _
 have hA : inA hi th lw = [] := if_neg (by omega)
 have hB : inCo hi th lw = [] := if_neg (by omega)
 have hC : inC hi th lw = [] := if_neg (by omega)
 have hD : inD hi = [] := if_neg (by omega)
 have hE : inE hi lw = [] := if_neg (by omega)
 have hF : inF th lw = [] := if_neg (by omega)
 have HZ : Hid (zaI hi lo = []) := by show zaI hi lo = _; rw [zaI, hth, hlw2, hA, hB, hC, hD, hE, hF]; rfl
 clear hA hB hC hD hE hF
 have ht0 : 0 ≤ th := by omega
 have ht1 : th ≤ 4294967295 := by omega
 have hw0 : 0 ≤ lw := by omega
 have hw1 : lw ≤ 4294967295 := by omega
 have q1 : ((hi) == (0 : Int)) = false := by rw [beq_eq_false_iff_ne]; omega
 have q2 : ((th) == (65535 : Int)) = false := by rw [beq_eq_false_iff_ne]; omega
 have q3 : ((th) == (0 : Int)) = false := by rw [beq_eq_false_iff_ne]; omega
 have q5 : ((hi) == (28428538856079360 : Int)) = false := by rw [beq_eq_false_iff_ne]; omega
 have q6 : ((hi / 281474976710656) == (8194 : Int)) = false := by rw [beq_eq_false_iff_ne]; omega
 have q7 : ((hi / 4294967296) == (536936448 : Int)) = false := by rw [beq_eq_false_iff_ne]; omega
 have q8 : ((th) == (24318 : Int)) = false := by rw [beq_eq_false_iff_ne]; omega
 have q9 : ((th) == (33578750 : Int)) = false := by rw [beq_eq_false_iff_ne]; omega
 clear hlw2 hh hk
 have hc1 : Below w.heap.size w (w.alloc (.cells #[.int .u64 hi, .int .u64 lo] 73)) := (Below.refl _ w).alloc (Nat.le_refl _) _
 go_enter Tryz.func137, Tryz.ntmps137
 go_wp2_with fail
 refine (zbB hi lo _).mono ?_
 rintro e x1 ⟨rfl, hb1⟩
 have hc : Below w.heap.size w x1 := hc1.trans (hb1.mono hc1.size)
 have hsz := hc.size
 clear hb1 hc1 hta
 have hown0 := World.ownsRow_nil x1 w.heap.size 70 1
 go_wp2
 go_ret
 exact ⟨_, rfl, by rw [HZ.out]; exact Nums.nil _ _ _ _, hc⟩
theorem znK (hi lo : Int) (w : World) (h0 : 0 ≤ hi) (h1 : hi ≤ 18446744073709551615) (l0 : 0 ≤ lo) (l1 : lo ≤ 18446744073709551615) :
  Calls Tryz.prog 137 #[.iface 73 (.agg #[.int .u64 hi, .int .u64 lo])] w (zbH w (zaI hi lo)) := by
 obtain ⟨th, hth⟩ : ∃ th, lo / 4294967296 = th := ⟨_, rfl⟩
 obtain ⟨lw, hlw⟩ : ∃ lw, lo % 4294967296 = lw := ⟨_, rfl⟩
 rcases (show hi = 0 ∨ hi = 28428538856079360 ∨ hi / 281474976710656 = 8194 ∨ hi / 4294967296 = 536936448 ∨ (hi ≠ 0 ∧ hi ≠ 28428538856079360 ∧ hi / 281474976710656 ≠ 8194 ∧ hi / 4294967296 ≠ 536936448) from by omega) with hh | hh | hh | hh | hh
 ·rcases (show th = 65535 ∨ th = 0 ∨ th = 24318 ∨ th = 33578750 ∨ (th ≠ 65535 ∧ th ≠ 0 ∧ th ≠ 24318 ∧ th ≠ 33578750) from by omega) with hk | hk | hk | hk | hk
  ·exact zmP hi lo th lw w ⟨⟨h0, h1⟩, l0, l1⟩ hth hlw hh hk
  ·by_cases hl : 1 < lw
   ·exact zjP hi lo th lw w ⟨⟨h0, h1⟩, l0, l1⟩ hth hlw hh hk hl
   ·exact zmN hi lo th lw w ⟨⟨h0, h1⟩, l0, l1⟩ hth hlw hh hk (by omega)
  ·exact zqR hi lo th lw w ⟨⟨h0, h1⟩, l0, l1⟩ hth hlw hh hk
  ·exact zqV hi lo th lw w ⟨⟨h0, h1⟩, l0, l1⟩ hth hlw hh hk
  ·exact znZ hi lo th lw w ⟨⟨h0, h1⟩, l0, l1⟩ hth hlw hh hk
 ·rcases (show th = 65535 ∨ th = 0 ∨ th = 24318 ∨ th = 33578750 ∨ (th ≠ 65535 ∧ th ≠ 0 ∧ th ≠ 24318 ∧ th ≠ 33578750) from by omega) with hk | hk | hk | hk | hk
  ·exact zqE hi lo th lw w ⟨⟨h0, h1⟩, l0, l1⟩ hth hlw hh hk
  ·exact zrA hi lo th lw w ⟨⟨h0, h1⟩, l0, l1⟩ hth hlw hh hk
  ·exact zvA hi lo th lw w ⟨⟨h0, h1⟩, l0, l1⟩ hth hlw hh hk
  ·exact zvW hi lo th lw w ⟨⟨h0, h1⟩, l0, l1⟩ hth hlw hh hk
  ·exact zrI hi lo th lw w ⟨⟨h0, h1⟩, l0, l1⟩ hth hlw hh hk
 ·rcases (show th = 65535 ∨ th = 0 ∨ th = 24318 ∨ th = 33578750 ∨ (th ≠ 65535 ∧ th ≠ 0 ∧ th ≠ 24318 ∧ th ≠ 33578750) from by omega) with hk | hk | hk | hk | hk
  ·exact zsU hi lo th lw w ⟨⟨h0, h1⟩, l0, l1⟩ hth hlw hh hk
  ·exact ztU hi lo th lw w ⟨⟨h0, h1⟩, l0, l1⟩ hth hlw hh hk
  ·exact z1O hi lo th lw w ⟨⟨h0, h1⟩, l0, l1⟩ hth hlw hh hk
  ·exact z0F hi lo th lw w ⟨⟨h0, h1⟩, l0, l1⟩ hth hlw hh hk
  ·exact zvC hi lo th lw w ⟨⟨h0, h1⟩, l0, l1⟩ hth hlw hh hk
 ·rcases (show th = 65535 ∨ th = 0 ∨ th = 24318 ∨ th = 33578750 ∨ (th ≠ 65535 ∧ th ≠ 0 ∧ th ≠ 24318 ∧ th ≠ 33578750) from by omega) with hk | hk | hk | hk | hk
  ·exact zsF hi lo th lw w ⟨⟨h0, h1⟩, l0, l1⟩ hth hlw hh hk
  ·exact zuK hi lo th lw w ⟨⟨h0, h1⟩, l0, l1⟩ hth hlw hh hk
  ·exact zzN hi lo th lw w ⟨⟨h0, h1⟩, l0, l1⟩ hth hlw hh hk
  ·exact zyZ hi lo th lw w ⟨⟨h0, h1⟩, l0, l1⟩ hth hlw hh hk
  ·exact zwF hi lo th lw w ⟨⟨h0, h1⟩, l0, l1⟩ hth hlw hh hk
 ·rcases (show th = 65535 ∨ th = 0 ∨ th = 24318 ∨ th = 33578750 ∨ (th ≠ 65535 ∧ th ≠ 0 ∧ th ≠ 24318 ∧ th ≠ 33578750) from by omega) with hk | hk | hk | hk | hk
  ·exact zoA hi lo th lw w ⟨⟨h0, h1⟩, l0, l1⟩ hth hlw hh hk
  ·exact zoB hi lo th lw w ⟨⟨h0, h1⟩, l0, l1⟩ hth hlw hh hk
  ·exact ztK hi lo th lw w ⟨⟨h0, h1⟩, l0, l1⟩ hth hlw hh hk
  ·exact ztP hi lo th lw w ⟨⟨h0, h1⟩, l0, l1⟩ hth hlw hh hk
  ·exact zqN hi lo th lw w ⟨⟨h0, h1⟩, l0, l1⟩ hth hlw hh hk
end
section
open Go.RowKit
theorem zpL (v1 v2 : Value) (l1 l2 : List Int) (w : World) (h1 : RowR w v1 (l1.map (Value.int .u32))) (h2 : RowR w v2 (l2.map (Value.int .u32)))
  (hl1 : l1.length ≤ 1073741824) :
  Calls Tryz.prog 203 #[v1, v2] w fun e w' => e = .returned (.bool (decide (l1 = l2))) ∧ ∃ n, w' = w.drewN n := by
 obtain ⟨a1, c1, rfl, hc1⟩ := h1
 obtain ⟨a2, c2, rfl, hc2⟩ := h2
 simp only [List.length_map]
 have HC1 := Lib.hid hc1
 have HC2 := Lib.hid hc2
 clear hc1 hc2
 by_cases hne : l1.length = l2.length
 ·have HL := Lib.hid hne
  have hle1 : l1.length ≤ l2.length := by omega
  have hle2 : l2.length ≤ l1.length := by omega
  have hb : ((l1.length : Int) != (l2.length : Int)) = false := by simp [hne]
  clear hne
  go_enter Tryz.func203, Tryz.ntmps203
  go_wp2
  go_loopw [13] (fun i wr => ∃ k m : Nat, k ≤ l1.length ∧ i = .int .i64 k ∧ wr = w.drewN m ∧ Hid (l1.take k = l2.take k)) (fun i _ => l1.length - (intOf i).toNat)
  case atStart => exact ⟨0, 0, Nat.zero_le _, rfl, rfl, rfl⟩
  case round =>
   obtain ⟨k, m, hk, rfl, rfl, H⟩ := hrel
   by_cases hlt : k < l1.length
   ·have hlt2 : k < l2.length := by omega
    obtain ⟨x, hx⟩ : ∃ x, x = l1[k] := ⟨_, rfl⟩
    obtain ⟨y, hy⟩ : ∃ y, y = l2[k] := ⟨_, rfl⟩
    obtain ⟨d1, rfl, hd1⟩ := HC1.out k (.int .u32 x) (by simp [hx, hlt])
    obtain ⟨d2, rfl, hd2⟩ := HC2.out k (.int .u32 y) (by simp [hy, hlt2])
    have HX := Lib.hid hx
    have HY := Lib.hid hy
    clear hx hy
    by_cases hxy : x = y
    ·subst hxy
     go_wp2
     go_quiet (fail)
     go_wp2
     go_roundw
     case rel =>
      exact ⟨k + 1, _, by omega, by go_num, rfl, ztF H.out hlt hlt2 (HX.out.symm.trans HY.out)⟩
     case measure => simp [intOf]; omega
    ·have hb1 : (x != y) = true := by simp [hxy]
     have hfin : decide (l1 = l2) = false := by
      refine decide_eq_false fun e => hxy ?_
      rw [HX.out, HY.out]
      simp only [e]
     have HF := Lib.hid hfin
     clear hfin
     go_wp2
     go_quiet (fail)
     go_wp2
     go_ret
     exact ⟨zaQ HF.out.symm, _, World.drewN_drewN _ _ _⟩
   ·have hfin : decide (l1 = l2) = true := by
     refine decide_eq_true ?_
     have := H.out
     rwa [List.take_of_length_le (by omega), List.take_of_length_le (by omega)] at this
    have HF := Lib.hid hfin
    clear hfin
    go_wp2
    go_ret
    exact ⟨zaQ HF.out.symm, m, rfl⟩
 ·have hb : ((l1.length : Int) != (l2.length : Int)) = true := by simp; omega
  have hfin : decide (l1 = l2) = false := decide_eq_false fun e => hne (by rw [e])
  have HF := Lib.hid hfin
  clear hfin
  go_enter Tryz.func203, Tryz.ntmps203
  go_wp2
  go_ret
  exact ⟨zaQ HF.out.symm, 0, rfl⟩
theorem a6_a : zaX [58, 58, 102, 102, 102, 102, 58, 55, 102, 48, 48, 58, 49] = some (.six 0 281472812449793) := by
 unfold zaX
 rw [show zaO [58, 58, 102, 102, 102, 102, 58, 55, 102, 48, 48, 58, 49] = (0, false) from by decide +kernel, show sixZ [58, 58, 102, 102, 102, 102, 58, 55, 102, 48, 48, 58, 49] = ((0, 281472812449793), true) from by decide +kernel]
 rfl
theorem a6_b : zaX [50, 48, 48, 50, 58, 55, 102, 48, 48, 58, 49, 58, 58] = some (.six 2306545597143908352 0) := by
 unfold zaX
 rw [show zaO [50, 48, 48, 50, 58, 55, 102, 48, 48, 58, 49, 58, 58] = (0, false) from by decide +kernel, show sixZ [50, 48, 48, 50, 58, 55, 102, 48, 48, 58, 49, 58, 58] = ((2306545597143908352, 0), true) from by decide +kernel]
 rfl
theorem i6_a : zaI 0 281472812449793 = [2130706433] := by decide +kernel
theorem i6_b : zaI 2306545597143908352 0 = [2130706433] := by decide +kernel
theorem z1L (w : World) (hbru : BruTab w) (hmax : MaxVar w) :
  Calls Tryz.prog 202 #[] w fun e w' => e = .returned (.bool true) ∧ Below w.heap.size w w' := by
 have HT := Lib.hid hbru
 have HX := Lib.hid hmax
 clear hbru hmax
 go_enter Tryz.func202, Tryz.ntmps202
 go_wp2_with fail
 refine (zxF _ HT.out HX.out).mono ?_
 rintro e w1 ⟨rfl, hb1⟩
 go_wp2
 go_ret
 exact ⟨rfl, hb1⟩
theorem z4E (x : World) (n : Int) : RowR (x.alloc (.cells #[.int .u32 n] 70)) (.slice (some ⟨x.heap.size, 0, none⟩) 1 1) ([n].map (Value.int .u32)) := by
 refine ⟨some ⟨x.heap.size, 0, none⟩, 1, rfl, fun j u hj => ⟨_, rfl, ?_⟩⟩
 rw [Lib.add_plain, Nat.zero_add, cell_of_row _ _ j _ _ _ (heap_alloc_new x _)]
 simpa using hj
theorem zwB (w : World) (hbru : BruTab w) (hmax : MaxVar w) :
  Calls Tryz.prog 201 #[] w fun e w' => e = .returned (.bool true) ∧ Below w.heap.size w w' := by
 have HT := Lib.hid hbru
 have HX := Lib.hid hmax
 clear hbru hmax
 go_enter Tryz.func201, Tryz.ntmps201
 go_wp2_with fail
 refine (zbG _ _ (by decide) HX.out).mono ?_
 rw [show zaX (ByteArray.mk #[58, 58, 102, 102, 102, 102, 58, 55, 102, 48, 48, 58, 49]).data.toList = some (.six 0 281472812449793) from a6_a]
 rintro e x1 ⟨rfl, hb1⟩
 simp only [optV, AZ.val, Option.isSome]
 go_wp2_with fail
 refine (zbG _ _ (by decide) (zaB HX.out hb1)).mono ?_
 rw [show zaX (ByteArray.mk #[50, 48, 48, 50, 58, 55, 102, 48, 48, 58, 49, 58, 58]).data.toList = some (.six 2306545597143908352 0) from a6_b]
 rintro e x2 ⟨rfl, hb2⟩
 simp only [optV, AZ.val, Option.isSome]
 have hc2 : Below w.heap.size w x2 := hb1.trans (hb2.mono hb1.size)
 clear hb1 hb2
 go_wp2_with fail
 refine (z1L _ (zaY HT.out hc2) (zaB HX.out hc2)).mono ?_
 rintro e x3 ⟨rfl, hb3⟩
 have hc3 : Below w.heap.size w x3 := hc2.trans (hb3.mono hc2.size)
 clear hb3 hc2
 go_wp2_with fail
 refine (znK 0 281472812449793 _ (by decide) (by decide) (by decide) (by decide)).mono ?_
 rw [i6_a]
 rintro e x4 ⟨v4, rfl, hn4, hb4⟩
 have hc4 : Below w.heap.size w x4 := hc3.trans (hb4.mono hc3.size)
 have hc5 : Below w.heap.size w (x4.alloc (.cells #[.int .u32 2130706433] 70)) := hc4.alloc hc4.size _
 have HR4 := Lib.hid ((hn4.below ((Below.refl _ x4).alloc (Nat.le_refl _) (.cells #[.int .u32 2130706433] 70))).row)
 have HL4 := Lib.hid (z4E x4 2130706433)
 clear hb4 hc3 hn4 hc4
 go_wp2_with fail
 generalize x4.alloc (.cells #[.int .u32 2130706433] 70) = x5 at *
 refine (zpL _ _ [2130706433] [2130706433] _ HR4.out HL4.out (by decide)).mono ?_
 rintro e x6 ⟨rfl, m6, rfl⟩
 have hc6 : Below w.heap.size w (x5.drewN m6) := zbC hc5 m6
 generalize x5.drewN m6 = x6 at *
 rw [decide_eq_true (rfl : ([2130706433] : List Int) = [2130706433])]
 go_wp2_with fail
 refine (znK 2306545597143908352 0 _ (by decide) (by decide) (by decide) (by decide)).mono ?_
 rw [i6_b]
 rintro e x7 ⟨v7, rfl, hn7, hb7⟩
 have hc7 : Below w.heap.size w x7 := hc6.trans (hb7.mono hc6.size)
 have hc8 : Below w.heap.size w (x7.alloc (.cells #[.int .u32 2130706433] 70)) := hc7.alloc hc7.size _
 have HR7 := Lib.hid ((hn7.below ((Below.refl _ x7).alloc (Nat.le_refl _) (.cells #[.int .u32 2130706433] 70))).row)
 have HL7 := Lib.hid (z4E x7 2130706433)
 clear hb7 hn7 hc7
 go_wp2_with fail
 generalize x7.alloc (.cells #[.int .u32 2130706433] 70) = x8 at *
 refine (zpL _ _ [2130706433] [2130706433] _ HR7.out HL7.out (by decide)).mono ?_
 rintro e x9 ⟨rfl, m9, rfl⟩
 rw [decide_eq_true (rfl : ([2130706433] : List Int) = [2130706433])]
 go_wp2
 go_ret
 exact ⟨by first | rfl | exact zaQ (by simp), zbC hc8 m9⟩
/-- an address as the document's -/
def refA : Option AZ → Bool × Int × Int
 | none => (false, 0, 0)
 | some (.four n) => (false, 0, 281470681743360 + n)
 | some (.six hi lo) => (true, hi, lo)
def refV (x : Bool × Int × Int) : Value := .agg #[.bool x.1, .int .u64 x.2.1, .int .u64 x.2.2]
theorem zvD (n : Int) (w : World) (h0 : 0 ≤ n) (h1 : n ≤ 4294967295) :
  Calls Tryz.prog 61 #[.int .u32 n] w fun e w' => e = .returned (.agg #[.bool false, .int .u64 0, .int .u64 (281470681743360 + n)]) ∧ Below w.heap.size w w' := by
 go_enter Tryz.func61, Tryz.ntmps61
 go_wp2
 exact bodyPost_ret (v := .agg #[.bool false, .int .u64 0, .int .u64 (281470681743360 + n)]) (by simp [results, Tryz.results61, go_sem]) rfl ⟨rfl, (Below.refl _ _).alloc (Nat.le_refl _) _⟩
end
section
open Go.RowKit
theorem zzQ (n : Int) (w : World) (h0 : 0 ≤ n) (h1 : n ≤ 4294967295) :
  Calls Tryz.prog 30 #[.iface 70 (.int .u32 n)] w fun e w' => e = .returned (.agg #[.bool false, .int .u64 0, .int .u64 (281470681743360 + n)]) ∧ Below w.heap.size w w' := by
 have hta := as44
 have hB : (w.alloc (.cells #[.bool false, .int .u64 0, .int .u64 0] 42)).heap[w.heap.size]? = some (.cells #[.bool false, .int .u64 0, .int .u64 0] 42 (0, 0)) := heap_alloc_new w _
 have hg : w.heap.size < (w.alloc (.cells #[.bool false, .int .u64 0, .int .u64 0] 42)).heap.size := by simp
 have hb : Below w.heap.size w (w.alloc (.cells #[.bool false, .int .u64 0, .int .u64 0] 42)) := (Below.refl _ w).alloc (Nat.le_refl _) _
 have HB := Lib.hid hB
 clear hB
 go_enter Tryz.func30, Tryz.ntmps30
 go_wp2_with fail
 generalize w.alloc (.cells #[.bool false, .int .u64 0, .int .u64 0] 42) = x1 at *
 refine (zvD n _ h0 h1).mono ?_
 rintro e x2 ⟨rfl, hb2⟩
 have HB2 : Hid (x2.heap[w.heap.size]? = some (.cells #[.bool false, .int .u64 0, .int .u64 0] 42 (0, 0))) := (hb2.block w.heap.size hg).trans HB.out
 have k0 : x2.cell? ⟨w.heap.size, 0, none⟩ = some (.bool false) := by rw [cell_of_row x2 _ 0 _ _ _ HB2.out]; rfl
 have k1 : x2.cell? ⟨w.heap.size, 1, none⟩ = some (.int .u64 0) := by rw [cell_of_row x2 _ 1 _ _ _ HB2.out]; rfl
 have k2 : x2.cell? ⟨w.heap.size, 2, none⟩ = some (.int .u64 0) := by rw [cell_of_row x2 _ 2 _ _ _ HB2.out]; rfl
 have f0 := zaS HB2.out 0
 have f1 := zaS HB2.out 1
 have f2 := zaS HB2.out 2
 have hc2 : Below w.heap.size w x2 := hb.trans (hb2.mono hb.size)
 clear hb2 hta
 go_wp2
 exact bodyPost_ret (v := .agg #[.bool false, .int .u64 0, .int .u64 (281470681743360 + n)]) (by simp [results, Tryz.results30, go_sem, k0, k1, k2]) rfl ⟨rfl, ((hc2.setCell (Nat.le_refl _) _).setCell (Nat.le_refl _) _).setCell (Nat.le_refl _) _⟩
theorem z4D (hi lo : Int) (w : World) :
  Calls Tryz.prog 30 #[.iface 73 (.agg #[.int .u64 hi, .int .u64 lo])] w fun e w' => e = .returned (.agg #[.bool true, .int .u64 hi, .int .u64 lo]) ∧ Below w.heap.size w w' := by
 have hta := as64
 have htb := as66
 go_enter Tryz.func30, Tryz.ntmps30
 go_wp2
 exact bodyPost_ret (v := .agg #[.bool true, .int .u64 hi, .int .u64 lo]) (by simp [results, Tryz.results30, go_sem]) rfl ⟨rfl, by first | exact (((((Below.refl _ w).alloc (Nat.le_refl _) _).alloc (by simp) _).setCell (Nat.le_refl _) _).setCell (Nat.le_refl _) _).setCell (Nat.le_refl _) _ | exact ((Below.refl _ w).alloc (Nat.le_refl _) _).alloc (by simp) _⟩
theorem z5Z (w : World) :
  Calls Tryz.prog 30 #[.nilIface] w fun e w' => e = .returned (.agg #[.bool false, .int .u64 0, .int .u64 0]) ∧ Below w.heap.size w w' := by
 have hta := asN4
 have htb := asN6
 go_enter Tryz.func30, Tryz.ntmps30
 go_wp2
 exact bodyPost_ret (v := .agg #[.bool false, .int .u64 0, .int .u64 0]) (by simp [results, Tryz.results30, go_sem]) rfl ⟨rfl, by first | exact (((((Below.refl _ w).alloc (Nat.le_refl _) _).alloc (by simp) _).setCell (Nat.le_refl _) _).setCell (Nat.le_refl _) _).setCell (Nat.le_refl _) _ | exact ((Below.refl _ w).alloc (Nat.le_refl _) _).alloc (by simp) _⟩
theorem ztM (x : Option AZ) (w : World) (h : ∀ a, x = some a → a.Ok) :
  Calls Tryz.prog 30 #[optV x] w fun e w' => e = .returned (refV (refA x)) ∧ Below w.heap.size w w' := by
 match x with
 | none => exact z5Z w
 | some (.four n) => exact zzQ n w (h _ rfl).1 (h _ rfl).2
 | some (.six hi lo) => exact z4D hi lo w
end
section
open Go.RowKit
def AZ.hi : AZ → Int
 | .four _ => 0
 | .six hi _ => hi
def AZ.lo : AZ → Int
 | .four n => 281470681743360 + n
 | .six _ lo => lo
end
section
open Go.RowKit
end
section
open Go.RowKit
end
section
open Go.RowKit
def zlH (w : World) (e : Ending) (w' : World) : Prop := (∃ v, e = .panicked [{ v := .iface 15 v, recovered := false }]) ∧ Below w.heap.size w w'
theorem Nums.none {t : TypeId} {k : IntKind} {B : Nat} {w : World} {v : Value} (h : Nums t k B w v []) : ∃ a c, v = .slice a 0 c := by
 obtain ⟨a, c, hv, _⟩ := h.row
 exact ⟨a, c, by simpa using hv⟩
theorem z9A {x : World} {b : Nat} {t : TypeId} (h : x.heap[b]? = some (.cells #[.bool false] t (0, 0))) : (x.setCell ⟨b, 0, none⟩ (.bool true)).cell? ⟨b, 0, none⟩ = some (.bool true) := by
 simp [World.setCell, World.cell?, Array.getElem?_modify, h]
end
section
open Go.RowKit
theorem yaT (s : Bool) (hi lo : Int) (w : World) (l0 : 0 ≤ lo) (l1 : lo ≤ 18446744073709551615) :
  Calls Tryz.prog 94 #[.agg #[.bool s, .int .u64 hi, .int .u64 lo]] w fun e w' => e = .returned (.int .u32 (lo % 4294967296)) ∧ Below w.heap.size w w' := by
 have hw : IntKind.u32.wrap (lo % 4294967296) = lo % 4294967296 := by rw [zaF]; omega
 go_enter Tryz.func94, Tryz.ntmps94
 go_wp2
 go_ret
 exact ⟨rfl, (Below.refl _ _).alloc (Nat.le_refl _) _⟩
theorem zqO (n : Int) (w : World) (h0 : 0 ≤ n) (h1 : n ≤ 4294967295) (hpow : PowTab w) :
  Calls Tryz.prog 63 #[.agg #[.bool false, .int .u64 0, .int .u64 (281470681743360 + n)]] w (zgN w (txtZ n)) := by
 have HT := Lib.hid hpow
 clear hpow
 have hc1 : Below w.heap.size w (w.alloc (.cells #[.bool false, .int .u64 0, .int .u64 (281470681743360 + n)] 42)) := (Below.refl _ _).alloc (Nat.le_refl _) _
 go_enter Tryz.func63, Tryz.ntmps63
 go_wp2_with fail
 refine (yaT false 0 (281470681743360 + n) _ (by omega) (by omega)).mono ?_
 rw [show (281470681743360 + n) % 4294967296 = n from by omega]
 rintro e x1 ⟨rfl, hb1⟩
 have hc2 : Below w.heap.size w x1 := hc1.trans (hb1.mono hc1.size)
 clear hb1
 go_wp2_with fail
 refine (zsW n _ h0 h1 (zbF HT.out hc2)).mono ?_
 rintro e x2 ⟨rfl, hb2⟩
 go_wp2
 go_ret
 exact ⟨rfl, hc2.trans (hb2.mono hc2.size)⟩
theorem zsK (hi lo : Int) (w : World) (h0 : 0 ≤ hi) (h1 : hi ≤ 18446744073709551615) (l0 : 0 ≤ lo) (l1 : lo ≤ 18446744073709551615) :
  Calls Tryz.prog 63 #[.agg #[.bool true, .int .u64 hi, .int .u64 lo]] w (zgN w (zcV hi lo)) := by
 have hc1 : Below w.heap.size w (w.alloc (.cells #[.bool true, .int .u64 hi, .int .u64 lo] 42)) := (Below.refl _ _).alloc (Nat.le_refl _) _
 go_enter Tryz.func63, Tryz.ntmps63
 go_wp2_with fail
 refine (zrR hi lo _ h0 h1 l0 l1).mono ?_
 rintro e x2 ⟨rfl, hb2⟩
 go_wp2
 go_ret
 exact ⟨rfl, hc1.trans (hb2.mono hc1.size)⟩
end
section
open Go.RowKit
def pa (c : Bool) (l : List Int) : List Int := if c then l else []
end
section
open Go.RowKit
end
section
open Go.RowKit
def zeN : AZ → List Int
 | .four _ => []
 | .six hi lo => zaI hi lo
theorem z1T (a : AZ) (w : World) (h : a.Ok) :
  Calls Tryz.prog 137 #[a.val] w (zbH w (zeN a)) := by
 cases a with
 | four n => exact zzY n w
 | six hi lo => exact znK hi lo w h.1.1 h.1.2 h.2.1 h.2.2
theorem z6F (hi lo : Int) : (zaI hi lo).length ≤ 12 := by
 have hA : (inA hi (lo / 4294967296) (lo % 4294967296)).length ≤ 2 := by unfold inA; split <;> simp
 have hB : (inCo hi (lo / 4294967296) (lo % 4294967296)).length ≤ 2 := by unfold inCo; split <;> simp
 have hC : (inC hi (lo / 4294967296) (lo % 4294967296)).length ≤ 2 := by unfold inC; split <;> simp
 have hD : (inD hi).length ≤ 2 := by unfold inD; split <;> simp
 have hE : (inE hi (lo % 4294967296)).length ≤ 2 := by unfold inE; split <;> simp
 have hF : (inF (lo / 4294967296) (lo % 4294967296)).length ≤ 2 := by unfold inF; split <;> simp
 unfold zaI
 simp only [List.length_append]
 omega
theorem z0G (a : AZ) : (zeN a).length ≤ 12 := by
 cases a with
 | four n => exact Nat.zero_le _
 | six hi lo => exact z6F hi lo
end
end

section
open Go.RowKit
/-- an address as a wide number -/
def AZ.wd (a : AZ) : Nat := zaK a.hi.toNat a.lo.toNat
theorem AZ.ok_hl {a : AZ} (h : a.Ok) : ∃ hi lo : Nat, a.hi = hi ∧ a.lo = lo ∧ hi < 18446744073709551616 ∧ lo < 18446744073709551616 ∧ a.wd = zaK hi lo := by
 have : (0 ≤ a.hi ∧ a.hi ≤ 18446744073709551615) ∧ (0 ≤ a.lo ∧ a.lo ≤ 18446744073709551615) := by
  cases a with
  | four n => have := h.1; have := h.2; simp only [AZ.hi, AZ.lo]; omega
  | six x y => exact h
 exact ⟨a.hi.toNat, a.lo.toNat, by omega, by omega, by omega, by omega, rfl⟩
theorem z5U {W w1 : World} (hb : Below W.heap.size W w1) : (∀ b o, b < W.heap.size → w1.cell? ⟨b, o, none⟩ = W.cell? ⟨b, o, none⟩) ∧ (∀ b o, b < W.heap.size → w1.frozen? ⟨b, o, none⟩ = W.frozen? ⟨b, o, none⟩) :=
 ⟨fun b o h => hb.cell (p := ⟨b, o, none⟩) h, fun b o h => hb.frozen (p := ⟨b, o, none⟩) h⟩
theorem zcG {w W : World} {o : Obj} (h : Below (w.alloc o).heap.size (w.alloc o) W) : Below w.heap.size w W := zbK (h.mono (by simp))
theorem zaA {x y z : World} (h : Below x.heap.size x y) (k : Below y.heap.size y z) : Below x.heap.size x z := h.trans (k.mono h.size)
theorem AZ.wd_lt {a : AZ} (h : a.Ok) : a.wd < 2 ^ 128 := by
 obtain ⟨hi, lo, _, _, h1, h2, e⟩ := AZ.ok_hl h
 rw [e]; exact znD h1 h2
theorem yaD (n : Int) (k : Nat) (w : World) (h0 : 0 ≤ n) (h1 : n ≤ 4294967295) (hk : k ≤ 128) :
  Calls Tryz.prog 181 #[.iface 70 (.int .u32 n), .int .i64 k] w fun e w' => e = .returned (.tuple #[pfW (ofW (AZ.four n).wd k) k, .bool true]) ∧ Below w.heap.size w w' := by
 obtain ⟨hi, lo, e1, e2, b1, b2, e3⟩ := AZ.ok_hl (a := .four n) ⟨h0, h1⟩
 have HC : Hid (∀ W, Calls Tryz.prog 174 #[.int .u64 0, .int .u64 (281470681743360 + n), .int .i64 k] W fun e w' => e = .returned (pfW (ofW (AZ.four n).wd k) k) ∧ Below W.heap.size W w') := fun W => by
  have := zgT hi lo k W b1 b2 hk
  rw [← e1, ← e2, ← e3] at this
  exact this
 have hv : ∃ x y : Int, pfW (ofW (AZ.four n).wd k) k = .agg #[.int .u64 x, .int .u64 y, .int .i64 k] := ⟨_, _, rfl⟩
 obtain ⟨x, y, hv⟩ := hv
 rw [hv]
 rw [hv] at HC
 have hma : ∀ w : World, (method 352 70 (.int .u32 n) "Wide").run Tryz.prog w = .ok (238, (.int .u32 n)) w := fun _ => by kernel_rfl
 clear e1 e2 e3 hv
 go_enter Tryz.func181, Tryz.ntmps181
 go_wp2_with fail
 refine (zqS n _ h0 h1).mono ?_
 rintro e x1 ⟨rfl, rfl⟩
 go_wp2_with fail
 refine (HC.out _).mono ?_
 rintro e x2 ⟨rfl, hb2⟩
 obtain ⟨hc, hf⟩ := z5U hb2
 go_wp2
 refine bodyPost_ret (v := .tuple #[.agg #[.int .u64 x, .int .u64 y, .int .i64 k], .bool true]) (by simp [results, Tryz.results181, go_sem, hc]) rfl ⟨rfl, ?_⟩
 exact (((zcG hb2).setCell (Nat.le_refl _) _).setCell (Nat.le_refl _) _).setCell (Nat.le_refl _) _
theorem ybL (hi lo k : Nat) (w : World) (b1 : hi < 18446744073709551616) (b2 : lo < 18446744073709551616) (hk : k ≤ 128) :
  Calls Tryz.prog 181 #[.iface 73 (.agg #[.int .u64 hi, .int .u64 lo]), .int .i64 k] w fun e w' => e = .returned (.tuple #[pfW (ofW (zaK hi lo) k) k, .bool true]) ∧ Below w.heap.size w w' := by
 have HC : Hid (∀ W, Calls Tryz.prog 174 #[.int .u64 hi, .int .u64 lo, .int .i64 k] W fun e w' => e = .returned (pfW (ofW (zaK hi lo) k) k) ∧ Below W.heap.size W w') := fun W =>
  zgT hi lo k W b1 b2 hk
 have hv : ∃ x y : Int, pfW (ofW (zaK hi lo) k) k = .agg #[.int .u64 x, .int .u64 y, .int .i64 k] := ⟨_, _, rfl⟩
 obtain ⟨x, y, hv⟩ := hv
 rw [hv]
 rw [hv] at HC
 have hma : ∀ w : World, (method 352 73 (.agg #[.int .u64 hi, .int .u64 lo]) "Wide").run Tryz.prog w = .ok (163, (.agg #[.int .u64 hi, .int .u64 lo])) w := fun _ => by kernel_rfl
 clear hv
 go_enter Tryz.func181, Tryz.ntmps181
 go_wp2_with fail
 refine (zbB _ _ _).mono ?_
 rintro e x1 ⟨rfl, hb1⟩
 obtain ⟨hc1, hf1⟩ := z5U hb1
 go_wp2_with fail
 refine (HC.out _).mono ?_
 rintro e x2 ⟨rfl, hb2⟩
 have hb3 := zaA hb1 hb2
 clear hc1 hf1 hb1 hb2
 obtain ⟨hc, hf⟩ := z5U hb3
 go_wp2
 refine bodyPost_ret (v := .tuple #[.agg #[.int .u64 x, .int .u64 y, .int .i64 k], .bool true]) (by simp [results, Tryz.results181, go_sem, hc]) rfl ⟨rfl, ?_⟩
 exact (((zcG hb3).setCell (Nat.le_refl _) _).setCell (Nat.le_refl _) _).setCell (Nat.le_refl _) _
theorem z4Z (a : AZ) (k : Nat) (w : World) (h : a.Ok) (hk : k ≤ 128) :
  Calls Tryz.prog 181 #[a.val, .int .i64 k] w fun e w' => e = .returned (.tuple #[pfW (ofW a.wd k) k, .bool true]) ∧ Below w.heap.size w w' := by
 cases a with
 | four n => exact yaD n k w h.1 h.2 hk
 | six x y =>
  obtain ⟨hi, lo, e1, e2, b1, b2, e3⟩ := AZ.ok_hl h
  simp only [AZ.hi, AZ.lo] at e1 e2
  subst e1 e2
  rw [e3]
  exact ybL hi lo k w b1 b2 hk
theorem ycW (x : Option AZ) (n : Int) (w : World) (h : n < 0 ∨ 128 < n) :
  Calls Tryz.prog 181 #[optV x, .int .i64 n] w fun e w' => e = .returned (.tuple #[pfW 0 0, .bool false]) ∧ Below w.heap.size w w' := by
 obtain ⟨v, hv⟩ : ∃ v, optV x = v := ⟨_, rfl⟩
 rw [hv]
 clear hv
 by_cases h0 : n < 0
 ·clear h
  go_enter Tryz.func181, Tryz.ntmps181
  go_wp2
  refine bodyPost_ret (v := .tuple #[.agg #[.int .u64 0, .int .u64 0, .int .i64 0], .bool false]) (by simp [results, Tryz.results181, go_sem]) rfl ⟨rfl, ?_⟩
  exact (Below.refl _ _).alloc (Nat.le_refl _) _
 ·have h1 : 128 < n := by omega
  clear h
  go_enter Tryz.func181, Tryz.ntmps181
  go_wp2
  refine bodyPost_ret (v := .tuple #[.agg #[.int .u64 0, .int .u64 0, .int .i64 0], .bool false]) (by simp [results, Tryz.results181, go_sem]) rfl ⟨rfl, ?_⟩
  exact (Below.refl _ _).alloc (Nat.le_refl _) _
theorem yaZ (hi lo k : Nat) (a : AZ) (w : World) (_ : hi < 18446744073709551616) (h2 : lo < 18446744073709551616) (ha : a.Ok) (hk : k ≤ 128) :
  Calls Tryz.prog 179 #[.agg #[.int .u64 hi, .int .u64 lo, .int .i64 k], a.val] w fun e w' => e = .returned (.bool (zfT (zaK hi lo) k a.wd)) ∧ Below w.heap.size w w' := by
 obtain ⟨x, g1⟩ : ∃ x, hiN (ofW a.wd k) = x := ⟨_, rfl⟩
 obtain ⟨y, g2⟩ : ∃ y, loN (ofW a.wd k) = y := ⟨_, rfl⟩
 have HC : Hid (∀ W, Calls Tryz.prog 181 #[a.val, .int .i64 k] W fun e w' => e = .returned (.tuple #[.agg #[.int .u64 (x : Nat), .int .u64 (y : Nat), .int .i64 k], .bool true]) ∧ Below W.heap.size W w') := fun W => by
  have := z4Z a k W ha hk
  unfold pfW at this
  rw [g1, g2] at this
  exact this
 have hb : ((x : Int) == hi && ((y : Int) == lo && (k : Int) == k)) = zfT (zaK hi lo) k a.wd := by
  rw [Bool.eq_iff_iff, z1X]
  simp only [Bool.and_eq_true, beq_iff_eq, and_true]
  constructor
  ·rintro ⟨q1, q2⟩
   have : ofW a.wd k = zaK hi lo := zgP (by rw [g1, zeP h2]; omega) (by rw [g2, zfH h2]; omega)
   rw [← this]
   exact ⟨⟨hk, zoD _ _⟩, zqD _ _⟩
  ·rintro ⟨⟨_, q1⟩, q2⟩
   have : ofW a.wd k = zaK hi lo := zlX (zoD _ _) q1 ((zqD _ _).trans q2.symm)
   rw [this, zeP h2] at g1
   rw [this, zfH h2] at g2
   omega
 have heq := eqPf x y k hi lo k
 rw [hb] at heq
 have hg := zdS
 obtain ⟨va, hva⟩ : ∃ v, a.val = v := ⟨_, rfl⟩
 rw [hva] at HC ⊢
 clear g1 g2 hb hva
 generalize zfT (zaK hi lo) k a.wd = b at *
 go_enter Tryz.func179, Tryz.ntmps179
 go_wp2_with fail
 refine (HC.out _).mono ?_
 rintro e x2 ⟨rfl, hb2⟩
 obtain ⟨c0, c1, c2⟩ := zfJ w _ _ _ _ x2 (hb2.mono (by simp))
 have hz : w.heap.size < x2.heap.size := by have := hb2.size; simp at this; omega
 go_wp2
 go_ret
 exact ⟨rfl, (zcG hb2).alloc (zcG hb2).size _⟩
theorem ycC (hi lo : Nat) (n : Int) (v : Value) (w : World) (HC : Hid (∀ W, Calls Tryz.prog 181 #[v, .int .i64 n] W fun e w' => e = .returned (.tuple #[.agg #[.int .u64 0, .int .u64 0, .int .i64 0], .bool false]) ∧ Below W.heap.size W w')) :
  Calls Tryz.prog 179 #[.agg #[.int .u64 hi, .int .u64 lo, .int .i64 n], v] w fun e w' => e = .returned (.bool false) ∧ Below w.heap.size w w' := by
 go_enter Tryz.func179, Tryz.ntmps179
 go_wp2_with fail
 refine (HC.out _).mono ?_
 rintro e x2 ⟨rfl, hb2⟩
 obtain ⟨c0, c1, c2⟩ := zfJ w _ _ _ _ x2 (hb2.mono (by simp))
 have hz : w.heap.size < x2.heap.size := by have := hb2.size; simp at this; omega
 go_wp2
 go_ret
 exact ⟨rfl, (zcG hb2).alloc (zcG hb2).size _⟩
theorem zjT (hi lo : Nat) (n : Int) (a : AZ) (w : World) (h1 : hi < 18446744073709551616) (h2 : lo < 18446744073709551616) (ha : a.Ok) :
  Calls Tryz.prog 179 #[.agg #[.int .u64 hi, .int .u64 lo, .int .i64 n], a.val] w fun e w' => e = .returned (.bool (zfT (zaK hi lo) n a.wd)) ∧ Below w.heap.size w w' := by
 by_cases h : n < 0 ∨ 128 < n
 ·rw [show zfT (zaK hi lo) n a.wd = false from by unfold zfT; rw [znG h]; rfl]
  exact ycC hi lo n a.val w (fun W => ycW (some a) n W h)
 ·obtain ⟨k, rfl⟩ := Int.eq_ofNat_of_zero_le (show 0 ≤ n by omega)
  exact yaZ hi lo k a w h1 h2 ha (by omega)
end

end Go.Proofs.YtphapecoimlngaaGreatDoor
