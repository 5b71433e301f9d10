/-
  Layer 6: what an address of eight pieces embeds.
-/
import Derived.Test.YtgmfgcpfpopboaaGreatDoorAddB
namespace Go.Proofs.YtgmfgcpfpopboaaGreatDoor
open Go.RowKit


set_option maxRecDepth 100000 in
set_option maxHeartbeats 2000000 in
theorem inner_zero_ffff (hi lo th lw : Int) (w : World) (hbd : (0 ≤ hi ∧ hi ≤ 18446744073709551615) ∧ (0 ≤ lo ∧ lo ≤ 18446744073709551615)) (hth : lo / 4294967296 = th) (hlw2 : lo % 4294967296 = lw) (hh : hi = 0) (hk : th = 65535) :
    Calls Tryz.prog 6 #[.iface 46 (.agg #[.int .u64 hi, .int .u64 lo])] w (RetFours w (innerZ hi lo)) := by
  obtain ⟨⟨h0, h1⟩, l0, l1⟩ := hbd
  obtain ⟨i0, hi0, hz0, hz1, hz2⟩ := info_parts Tryz.infoFour
  have hta := as66
  have hwl : IntKind.u32.wrap lo = lw := by rw [u32_wrap]; exact hlw2
  have hwd : IntKind.u32.wrap (hi / 65536) = hi / 65536 % 4294967296 := u32_wrap _
  have hwe : IntKind.u32.wrap hi = hi % 4294967296 := u32_wrap _
  have hA : inA hi th lw = [lw] := if_pos (by omega)
  have hB : inCo hi th lw = [] := if_neg (by omega)
  have hC : inC hi th lw = [] := if_neg (by omega)
  have hD : inD hi = [] := if_neg (by omega)
  have hE : inE hi lw = [] := if_neg (by omega)
  have hF : inF th lw = [] := if_neg (by omega)
  have HZ : Hid (innerZ hi lo = [lw]) := by show innerZ hi lo = _; rw [innerZ, hth, hlw2, hA, hB, hC, hD, hE, hF]; rfl
  clear hA hB hC hD hE hF
  have ht0 : 0 ≤ th := by omega
  have ht1 : th ≤ 4294967295 := by omega
  have hw0 : 0 ≤ lw := by omega
  have hw1 : lw ≤ 4294967295 := by omega
  have q1 : ((hi) == (0 : Int)) = true := by rw [beq_iff_eq]; omega
  have q2 : ((th) == (65535 : Int)) = true := by rw [beq_iff_eq]; omega
  have q3 : ((th) == (0 : Int)) = false := by rw [beq_eq_false_iff_ne]; omega
  have q5 : ((hi) == (28428538856079360 : Int)) = false := by rw [beq_eq_false_iff_ne]; omega
  have q6 : ((hi / 281474976710656) == (8194 : Int)) = false := by rw [beq_eq_false_iff_ne]; omega
  have q7 : ((hi / 4294967296) == (536936448 : Int)) = false := by rw [beq_eq_false_iff_ne]; omega
  have q8 : ((th) == (24318 : Int)) = false := by rw [beq_eq_false_iff_ne]; omega
  have q9 : ((th) == (33578750 : Int)) = false := by rw [beq_eq_false_iff_ne]; omega
  clear hlw2 hh hk
  have hc1 : Below w.heap.size w (w.alloc (.cells #[.int .u64 hi, .int .u64 lo] 46)) := (Below.refl _ w).alloc (Nat.le_refl _) _
  go_enter Tryz.func6, Tryz.ntmps6
  go_wp2_with fail
  refine (wide6_any hi lo _).mono ?_
  rintro e x1 ⟨rfl, hb1⟩
  have hc : Below w.heap.size w x1 := hc1.trans (hb1.mono hc1.size)
  have hsz := hc.size
  clear hb1 hc1 hta
  have hown0 := World.ownsRow_nil x1 w.heap.size 31 1
  go_wp2_with (first
    | (at_builtin; refine wp_append1 _ rfl _ _ 28 rfl w.heap.size 31 i0 (.int .u32 0) 4 Tryz.underlying28 hi0 hz0 hz1 hz2 rfl _ 0 _ rfl hown0 (.int .u32 lw) rfl rfl (by decide) (by decide) hsz ?_; intro v1 y1 hown1 hk1))
  go_ret
  exact ⟨_, rfl, by rw [HZ.out]; exact hown1, (hc.trans hk1)⟩
set_option maxRecDepth 100000 in
set_option maxHeartbeats 2000000 in
theorem inner_zero_zero_lw (hi lo th lw : Int) (w : World) (hbd : (0 ≤ hi ∧ hi ≤ 18446744073709551615) ∧ (0 ≤ lo ∧ lo ≤ 18446744073709551615)) (hth : lo / 4294967296 = th) (hlw2 : lo % 4294967296 = lw) (hh : hi = 0) (hk : th = 0) (hlw : 1 < lw) :
    Calls Tryz.prog 6 #[.iface 46 (.agg #[.int .u64 hi, .int .u64 lo])] w (RetFours w (innerZ hi lo)) := by
  obtain ⟨⟨h0, h1⟩, l0, l1⟩ := hbd
  obtain ⟨i0, hi0, hz0, hz1, hz2⟩ := info_parts Tryz.infoFour
  have hta := as66
  have hwl : IntKind.u32.wrap lo = lw := by rw [u32_wrap]; exact hlw2
  have hwd : IntKind.u32.wrap (hi / 65536) = hi / 65536 % 4294967296 := u32_wrap _
  have hwe : IntKind.u32.wrap hi = hi % 4294967296 := u32_wrap _
  have hA : inA hi th lw = [] := if_neg (by omega)
  have hB : inCo hi th lw = [lw] := if_pos (by omega)
  have hC : inC hi th lw = [] := if_neg (by omega)
  have hD : inD hi = [] := if_neg (by omega)
  have hE : inE hi lw = [] := if_neg (by omega)
  have hF : inF th lw = [] := if_neg (by omega)
  have HZ : Hid (innerZ hi lo = [lw]) := by show innerZ hi lo = _; rw [innerZ, hth, hlw2, hA, hB, hC, hD, hE, hF]; rfl
  clear hA hB hC hD hE hF
  have ht0 : 0 ≤ th := by omega
  have ht1 : th ≤ 4294967295 := by omega
  have hw0 : 0 ≤ lw := by omega
  have hw1 : lw ≤ 4294967295 := by omega
  have q1 : ((hi) == (0 : Int)) = true := by rw [beq_iff_eq]; omega
  have q2 : ((th) == (65535 : Int)) = false := by rw [beq_eq_false_iff_ne]; omega
  have q3 : ((th) == (0 : Int)) = true := by rw [beq_iff_eq]; omega
  have q5 : ((hi) == (28428538856079360 : Int)) = false := by rw [beq_eq_false_iff_ne]; omega
  have q6 : ((hi / 281474976710656) == (8194 : Int)) = false := by rw [beq_eq_false_iff_ne]; omega
  have q7 : ((hi / 4294967296) == (536936448 : Int)) = false := by rw [beq_eq_false_iff_ne]; omega
  have q8 : ((th) == (24318 : Int)) = false := by rw [beq_eq_false_iff_ne]; omega
  have q9 : ((th) == (33578750 : Int)) = false := by rw [beq_eq_false_iff_ne]; omega
  have q4 : decide ((1 : Int) < lw) = true := decide_eq_true (by omega)
  clear hlw2 hh hk
  have hc1 : Below w.heap.size w (w.alloc (.cells #[.int .u64 hi, .int .u64 lo] 46)) := (Below.refl _ w).alloc (Nat.le_refl _) _
  go_enter Tryz.func6, Tryz.ntmps6
  go_wp2_with fail
  refine (wide6_any hi lo _).mono ?_
  rintro e x1 ⟨rfl, hb1⟩
  have hc : Below w.heap.size w x1 := hc1.trans (hb1.mono hc1.size)
  have hsz := hc.size
  clear hb1 hc1 hta
  have hown0 := World.ownsRow_nil x1 w.heap.size 31 1
  go_wp2_with (first
    | (at_builtin; refine wp_append1 _ rfl _ _ 28 rfl w.heap.size 31 i0 (.int .u32 0) 4 Tryz.underlying28 hi0 hz0 hz1 hz2 rfl _ 0 _ rfl hown0 (.int .u32 lw) rfl rfl (by decide) (by decide) hsz ?_; intro v1 y1 hown1 hk1))
  go_ret
  exact ⟨_, rfl, by rw [HZ.out]; exact hown1, (hc.trans hk1)⟩
set_option maxRecDepth 100000 in
set_option maxHeartbeats 2000000 in
theorem inner_zero_zero (hi lo th lw : Int) (w : World) (hbd : (0 ≤ hi ∧ hi ≤ 18446744073709551615) ∧ (0 ≤ lo ∧ lo ≤ 18446744073709551615)) (hth : lo / 4294967296 = th) (hlw2 : lo % 4294967296 = lw) (hh : hi = 0) (hk : th = 0) (hlw : lw ≤ 1) :
    Calls Tryz.prog 6 #[.iface 46 (.agg #[.int .u64 hi, .int .u64 lo])] w (RetFours w (innerZ hi lo)) := by
  obtain ⟨⟨h0, h1⟩, l0, l1⟩ := hbd
  obtain ⟨i0, hi0, hz0, hz1, hz2⟩ := info_parts Tryz.infoFour
  have hta := as66
  have hwl : IntKind.u32.wrap lo = lw := by rw [u32_wrap]; exact hlw2
  have hwd : IntKind.u32.wrap (hi / 65536) = hi / 65536 % 4294967296 := u32_wrap _
  have hwe : IntKind.u32.wrap hi = hi % 4294967296 := u32_wrap _
  have hA : inA hi th lw = [] := if_neg (by omega)
  have hB : inCo hi th lw = [] := if_neg (by omega)
  have hC : inC hi th lw = [] := if_neg (by omega)
  have hD : inD hi = [] := if_neg (by omega)
  have hE : inE hi lw = [] := if_neg (by omega)
  have hF : inF th lw = [] := if_neg (by omega)
  have HZ : Hid (innerZ hi lo = []) := by show innerZ hi lo = _; rw [innerZ, hth, hlw2, hA, hB, hC, hD, hE, hF]; rfl
  clear hA hB hC hD hE hF
  have ht0 : 0 ≤ th := by omega
  have ht1 : th ≤ 4294967295 := by omega
  have hw0 : 0 ≤ lw := by omega
  have hw1 : lw ≤ 4294967295 := by omega
  have q1 : ((hi) == (0 : Int)) = true := by rw [beq_iff_eq]; omega
  have q2 : ((th) == (65535 : Int)) = false := by rw [beq_eq_false_iff_ne]; omega
  have q3 : ((th) == (0 : Int)) = true := by rw [beq_iff_eq]; omega
  have q5 : ((hi) == (28428538856079360 : Int)) = false := by rw [beq_eq_false_iff_ne]; omega
  have q6 : ((hi / 281474976710656) == (8194 : Int)) = false := by rw [beq_eq_false_iff_ne]; omega
  have q7 : ((hi / 4294967296) == (536936448 : Int)) = false := by rw [beq_eq_false_iff_ne]; omega
  have q8 : ((th) == (24318 : Int)) = false := by rw [beq_eq_false_iff_ne]; omega
  have q9 : ((th) == (33578750 : Int)) = false := by rw [beq_eq_false_iff_ne]; omega
  have q4 : decide ((1 : Int) < lw) = false := decide_eq_false (by omega)
  clear hlw2 hh hk
  have hc1 : Below w.heap.size w (w.alloc (.cells #[.int .u64 hi, .int .u64 lo] 46)) := (Below.refl _ w).alloc (Nat.le_refl _) _
  go_enter Tryz.func6, Tryz.ntmps6
  go_wp2_with fail
  refine (wide6_any hi lo _).mono ?_
  rintro e x1 ⟨rfl, hb1⟩
  have hc : Below w.heap.size w x1 := hc1.trans (hb1.mono hc1.size)
  have hsz := hc.size
  clear hb1 hc1 hta
  have hown0 := World.ownsRow_nil x1 w.heap.size 31 1
  go_wp2
  go_ret
  exact ⟨_, rfl, by rw [HZ.out]; exact Nums.nil _ _ _ _, hc⟩
set_option maxRecDepth 100000 in
set_option maxHeartbeats 2000000 in
theorem inner_zero_i1 (hi lo th lw : Int) (w : World) (hbd : (0 ≤ hi ∧ hi ≤ 18446744073709551615) ∧ (0 ≤ lo ∧ lo ≤ 18446744073709551615)) (hth : lo / 4294967296 = th) (hlw2 : lo % 4294967296 = lw) (hh : hi = 0) (hk : th = 24318) :
    Calls Tryz.prog 6 #[.iface 46 (.agg #[.int .u64 hi, .int .u64 lo])] w (RetFours w (innerZ hi lo)) := by
  obtain ⟨⟨h0, h1⟩, l0, l1⟩ := hbd
  obtain ⟨i0, hi0, hz0, hz1, hz2⟩ := info_parts Tryz.infoFour
  have hta := as66
  have hwl : IntKind.u32.wrap lo = lw := by rw [u32_wrap]; exact hlw2
  have hwd : IntKind.u32.wrap (hi / 65536) = hi / 65536 % 4294967296 := u32_wrap _
  have hwe : IntKind.u32.wrap hi = hi % 4294967296 := u32_wrap _
  have hA : inA hi th lw = [] := if_neg (by omega)
  have hB : inCo hi th lw = [] := if_neg (by omega)
  have hC : inC hi th lw = [] := if_neg (by omega)
  have hD : inD hi = [] := if_neg (by omega)
  have hE : inE hi lw = [] := if_neg (by omega)
  have hF : inF th lw = [lw] := if_pos (by omega)
  have HZ : Hid (innerZ hi lo = [lw]) := by show innerZ hi lo = _; rw [innerZ, hth, hlw2, hA, hB, hC, hD, hE, hF]; rfl
  clear hA hB hC hD hE hF
  have ht0 : 0 ≤ th := by omega
  have ht1 : th ≤ 4294967295 := by omega
  have hw0 : 0 ≤ lw := by omega
  have hw1 : lw ≤ 4294967295 := by omega
  have q1 : ((hi) == (0 : Int)) = true := by rw [beq_iff_eq]; omega
  have q2 : ((th) == (65535 : Int)) = false := by rw [beq_eq_false_iff_ne]; omega
  have q3 : ((th) == (0 : Int)) = false := by rw [beq_eq_false_iff_ne]; omega
  have q5 : ((hi) == (28428538856079360 : Int)) = false := by rw [beq_eq_false_iff_ne]; omega
  have q6 : ((hi / 281474976710656) == (8194 : Int)) = false := by rw [beq_eq_false_iff_ne]; omega
  have q7 : ((hi / 4294967296) == (536936448 : Int)) = false := by rw [beq_eq_false_iff_ne]; omega
  have q8 : ((th) == (24318 : Int)) = true := by rw [beq_iff_eq]; omega
  have q9 : ((th) == (33578750 : Int)) = false := by rw [beq_eq_false_iff_ne]; omega
  clear hlw2 hh hk
  have hc1 : Below w.heap.size w (w.alloc (.cells #[.int .u64 hi, .int .u64 lo] 46)) := (Below.refl _ w).alloc (Nat.le_refl _) _
  go_enter Tryz.func6, Tryz.ntmps6
  go_wp2_with fail
  refine (wide6_any hi lo _).mono ?_
  rintro e x1 ⟨rfl, hb1⟩
  have hc : Below w.heap.size w x1 := hc1.trans (hb1.mono hc1.size)
  have hsz := hc.size
  clear hb1 hc1 hta
  have hown0 := World.ownsRow_nil x1 w.heap.size 31 1
  go_wp2_with (first
    | (at_builtin; refine wp_append1 _ rfl _ _ 28 rfl w.heap.size 31 i0 (.int .u32 0) 4 Tryz.underlying28 hi0 hz0 hz1 hz2 rfl _ 0 _ rfl hown0 (.int .u32 lw) rfl rfl (by decide) (by decide) hsz ?_; intro v1 y1 hown1 hk1))
  go_ret
  exact ⟨_, rfl, by rw [HZ.out]; exact hown1, (hc.trans hk1)⟩
set_option maxRecDepth 100000 in
set_option maxHeartbeats 2000000 in
theorem inner_zero_i2 (hi lo th lw : Int) (w : World) (hbd : (0 ≤ hi ∧ hi ≤ 18446744073709551615) ∧ (0 ≤ lo ∧ lo ≤ 18446744073709551615)) (hth : lo / 4294967296 = th) (hlw2 : lo % 4294967296 = lw) (hh : hi = 0) (hk : th = 33578750) :
    Calls Tryz.prog 6 #[.iface 46 (.agg #[.int .u64 hi, .int .u64 lo])] w (RetFours w (innerZ hi lo)) := by
  obtain ⟨⟨h0, h1⟩, l0, l1⟩ := hbd
  obtain ⟨i0, hi0, hz0, hz1, hz2⟩ := info_parts Tryz.infoFour
  have hta := as66
  have hwl : IntKind.u32.wrap lo = lw := by rw [u32_wrap]; exact hlw2
  have hwd : IntKind.u32.wrap (hi / 65536) = hi / 65536 % 4294967296 := u32_wrap _
  have hwe : IntKind.u32.wrap hi = hi % 4294967296 := u32_wrap _
  have hA : inA hi th lw = [] := if_neg (by omega)
  have hB : inCo hi th lw = [] := if_neg (by omega)
  have hC : inC hi th lw = [] := if_neg (by omega)
  have hD : inD hi = [] := if_neg (by omega)
  have hE : inE hi lw = [] := if_neg (by omega)
  have hF : inF th lw = [lw] := if_pos (by omega)
  have HZ : Hid (innerZ hi lo = [lw]) := by show innerZ hi lo = _; rw [innerZ, hth, hlw2, hA, hB, hC, hD, hE, hF]; rfl
  clear hA hB hC hD hE hF
  have ht0 : 0 ≤ th := by omega
  have ht1 : th ≤ 4294967295 := by omega
  have hw0 : 0 ≤ lw := by omega
  have hw1 : lw ≤ 4294967295 := by omega
  have q1 : ((hi) == (0 : Int)) = true := by rw [beq_iff_eq]; omega
  have q2 : ((th) == (65535 : Int)) = false := by rw [beq_eq_false_iff_ne]; omega
  have q3 : ((th) == (0 : Int)) = false := by rw [beq_eq_false_iff_ne]; omega
  have q5 : ((hi) == (28428538856079360 : Int)) = false := by rw [beq_eq_false_iff_ne]; omega
  have q6 : ((hi / 281474976710656) == (8194 : Int)) = false := by rw [beq_eq_false_iff_ne]; omega
  have q7 : ((hi / 4294967296) == (536936448 : Int)) = false := by rw [beq_eq_false_iff_ne]; omega
  have q8 : ((th) == (24318 : Int)) = false := by rw [beq_eq_false_iff_ne]; omega
  have q9 : ((th) == (33578750 : Int)) = true := by rw [beq_iff_eq]; omega
  clear hlw2 hh hk
  have hc1 : Below w.heap.size w (w.alloc (.cells #[.int .u64 hi, .int .u64 lo] 46)) := (Below.refl _ w).alloc (Nat.le_refl _) _
  go_enter Tryz.func6, Tryz.ntmps6
  go_wp2_with fail
  refine (wide6_any hi lo _).mono ?_
  rintro e x1 ⟨rfl, hb1⟩
  have hc : Below w.heap.size w x1 := hc1.trans (hb1.mono hc1.size)
  have hsz := hc.size
  clear hb1 hc1 hta
  have hown0 := World.ownsRow_nil x1 w.heap.size 31 1
  go_wp2_with (first
    | (at_builtin; refine wp_append1 _ rfl _ _ 28 rfl w.heap.size 31 i0 (.int .u32 0) 4 Tryz.underlying28 hi0 hz0 hz1 hz2 rfl _ 0 _ rfl hown0 (.int .u32 lw) rfl rfl (by decide) (by decide) hsz ?_; intro v1 y1 hown1 hk1))
  go_ret
  exact ⟨_, rfl, by rw [HZ.out]; exact hown1, (hc.trans hk1)⟩
set_option maxRecDepth 100000 in
set_option maxHeartbeats 2000000 in
theorem inner_zero_oth (hi lo th lw : Int) (w : World) (hbd : (0 ≤ hi ∧ hi ≤ 18446744073709551615) ∧ (0 ≤ lo ∧ lo ≤ 18446744073709551615)) (hth : lo / 4294967296 = th) (hlw2 : lo % 4294967296 = lw) (hh : hi = 0) (hk : th ≠ 65535 ∧ th ≠ 0 ∧ th ≠ 24318 ∧ th ≠ 33578750) :
    Calls Tryz.prog 6 #[.iface 46 (.agg #[.int .u64 hi, .int .u64 lo])] w (RetFours w (innerZ hi lo)) := by
  obtain ⟨⟨h0, h1⟩, l0, l1⟩ := hbd
  obtain ⟨i0, hi0, hz0, hz1, hz2⟩ := info_parts Tryz.infoFour
  have hta := as66
  have hwl : IntKind.u32.wrap lo = lw := by rw [u32_wrap]; exact hlw2
  have hwd : IntKind.u32.wrap (hi / 65536) = hi / 65536 % 4294967296 := u32_wrap _
  have hwe : IntKind.u32.wrap hi = hi % 4294967296 := u32_wrap _
  have hA : inA hi th lw = [] := if_neg (by omega)
  have hB : inCo hi th lw = [] := if_neg (by omega)
  have hC : inC hi th lw = [] := if_neg (by omega)
  have hD : inD hi = [] := if_neg (by omega)
  have hE : inE hi lw = [] := if_neg (by omega)
  have hF : inF th lw = [] := if_neg (by omega)
  have HZ : Hid (innerZ hi lo = []) := by show innerZ hi lo = _; rw [innerZ, hth, hlw2, hA, hB, hC, hD, hE, hF]; rfl
  clear hA hB hC hD hE hF
  have ht0 : 0 ≤ th := by omega
  have ht1 : th ≤ 4294967295 := by omega
  have hw0 : 0 ≤ lw := by omega
  have hw1 : lw ≤ 4294967295 := by omega
  have q1 : ((hi) == (0 : Int)) = true := by rw [beq_iff_eq]; omega
  have q2 : ((th) == (65535 : Int)) = false := by rw [beq_eq_false_iff_ne]; omega
  have q3 : ((th) == (0 : Int)) = false := by rw [beq_eq_false_iff_ne]; omega
  have q5 : ((hi) == (28428538856079360 : Int)) = false := by rw [beq_eq_false_iff_ne]; omega
  have q6 : ((hi / 281474976710656) == (8194 : Int)) = false := by rw [beq_eq_false_iff_ne]; omega
  have q7 : ((hi / 4294967296) == (536936448 : Int)) = false := by rw [beq_eq_false_iff_ne]; omega
  have q8 : ((th) == (24318 : Int)) = false := by rw [beq_eq_false_iff_ne]; omega
  have q9 : ((th) == (33578750 : Int)) = false := by rw [beq_eq_false_iff_ne]; omega
  clear hlw2 hh hk
  have hc1 : Below w.heap.size w (w.alloc (.cells #[.int .u64 hi, .int .u64 lo] 46)) := (Below.refl _ w).alloc (Nat.le_refl _) _
  go_enter Tryz.func6, Tryz.ntmps6
  go_wp2_with fail
  refine (wide6_any hi lo _).mono ?_
  rintro e x1 ⟨rfl, hb1⟩
  have hc : Below w.heap.size w x1 := hc1.trans (hb1.mono hc1.size)
  have hsz := hc.size
  clear hb1 hc1 hta
  have hown0 := World.ownsRow_nil x1 w.heap.size 31 1
  go_wp2
  go_ret
  exact ⟨_, rfl, by rw [HZ.out]; exact Nums.nil _ _ _ _, hc⟩
set_option maxRecDepth 100000 in
set_option maxHeartbeats 2000000 in
theorem inner_tr_ffff (hi lo th lw : Int) (w : World) (hbd : (0 ≤ hi ∧ hi ≤ 18446744073709551615) ∧ (0 ≤ lo ∧ lo ≤ 18446744073709551615)) (hth : lo / 4294967296 = th) (hlw2 : lo % 4294967296 = lw) (hh : hi = 28428538856079360) (hk : th = 65535) :
    Calls Tryz.prog 6 #[.iface 46 (.agg #[.int .u64 hi, .int .u64 lo])] w (RetFours w (innerZ hi lo)) := by
  obtain ⟨⟨h0, h1⟩, l0, l1⟩ := hbd
  obtain ⟨i0, hi0, hz0, hz1, hz2⟩ := info_parts Tryz.infoFour
  have hta := as66
  have hwl : IntKind.u32.wrap lo = lw := by rw [u32_wrap]; exact hlw2
  have hwd : IntKind.u32.wrap (hi / 65536) = hi / 65536 % 4294967296 := u32_wrap _
  have hwe : IntKind.u32.wrap hi = hi % 4294967296 := u32_wrap _
  have hA : inA hi th lw = [] := if_neg (by omega)
  have hB : inCo hi th lw = [] := if_neg (by omega)
  have hC : inC hi th lw = [] := if_neg (by omega)
  have hD : inD hi = [] := if_neg (by omega)
  have hE : inE hi lw = [] := if_neg (by omega)
  have hF : inF th lw = [] := if_neg (by omega)
  have HZ : Hid (innerZ hi lo = []) := by show innerZ hi lo = _; rw [innerZ, hth, hlw2, hA, hB, hC, hD, hE, hF]; rfl
  clear hA hB hC hD hE hF
  have ht0 : 0 ≤ th := by omega
  have ht1 : th ≤ 4294967295 := by omega
  have hw0 : 0 ≤ lw := by omega
  have hw1 : lw ≤ 4294967295 := by omega
  have q1 : ((hi) == (0 : Int)) = false := by rw [beq_eq_false_iff_ne]; omega
  have q2 : ((th) == (65535 : Int)) = true := by rw [beq_iff_eq]; omega
  have q3 : ((th) == (0 : Int)) = false := by rw [beq_eq_false_iff_ne]; omega
  have q5 : ((hi) == (28428538856079360 : Int)) = true := by rw [beq_iff_eq]; omega
  have q6 : ((hi / 281474976710656) == (8194 : Int)) = false := by rw [beq_eq_false_iff_ne]; omega
  have q7 : ((hi / 4294967296) == (536936448 : Int)) = false := by rw [beq_eq_false_iff_ne]; omega
  have q8 : ((th) == (24318 : Int)) = false := by rw [beq_eq_false_iff_ne]; omega
  have q9 : ((th) == (33578750 : Int)) = false := by rw [beq_eq_false_iff_ne]; omega
  clear hlw2 hh hk
  have hc1 : Below w.heap.size w (w.alloc (.cells #[.int .u64 hi, .int .u64 lo] 46)) := (Below.refl _ w).alloc (Nat.le_refl _) _
  go_enter Tryz.func6, Tryz.ntmps6
  go_wp2_with fail
  refine (wide6_any hi lo _).mono ?_
  rintro e x1 ⟨rfl, hb1⟩
  have hc : Below w.heap.size w x1 := hc1.trans (hb1.mono hc1.size)
  have hsz := hc.size
  clear hb1 hc1 hta
  have hown0 := World.ownsRow_nil x1 w.heap.size 31 1
  go_wp2
  go_ret
  exact ⟨_, rfl, by rw [HZ.out]; exact Nums.nil _ _ _ _, hc⟩
set_option maxRecDepth 100000 in
set_option maxHeartbeats 2000000 in
theorem inner_tr_zero (hi lo th lw : Int) (w : World) (hbd : (0 ≤ hi ∧ hi ≤ 18446744073709551615) ∧ (0 ≤ lo ∧ lo ≤ 18446744073709551615)) (hth : lo / 4294967296 = th) (hlw2 : lo % 4294967296 = lw) (hh : hi = 28428538856079360) (hk : th = 0) :
    Calls Tryz.prog 6 #[.iface 46 (.agg #[.int .u64 hi, .int .u64 lo])] w (RetFours w (innerZ hi lo)) := by
  obtain ⟨⟨h0, h1⟩, l0, l1⟩ := hbd
  obtain ⟨i0, hi0, hz0, hz1, hz2⟩ := info_parts Tryz.infoFour
  have hta := as66
  have hwl : IntKind.u32.wrap lo = lw := by rw [u32_wrap]; exact hlw2
  have hwd : IntKind.u32.wrap (hi / 65536) = hi / 65536 % 4294967296 := u32_wrap _
  have hwe : IntKind.u32.wrap hi = hi % 4294967296 := u32_wrap _
  have hA : inA hi th lw = [] := if_neg (by omega)
  have hB : inCo hi th lw = [] := if_neg (by omega)
  have hC : inC hi th lw = [lw] := if_pos (by omega)
  have hD : inD hi = [] := if_neg (by omega)
  have hE : inE hi lw = [] := if_neg (by omega)
  have hF : inF th lw = [] := if_neg (by omega)
  have HZ : Hid (innerZ hi lo = [lw]) := by show innerZ hi lo = _; rw [innerZ, hth, hlw2, hA, hB, hC, hD, hE, hF]; rfl
  clear hA hB hC hD hE hF
  have ht0 : 0 ≤ th := by omega
  have ht1 : th ≤ 4294967295 := by omega
  have hw0 : 0 ≤ lw := by omega
  have hw1 : lw ≤ 4294967295 := by omega
  have q1 : ((hi) == (0 : Int)) = false := by rw [beq_eq_false_iff_ne]; omega
  have q2 : ((th) == (65535 : Int)) = false := by rw [beq_eq_false_iff_ne]; omega
  have q3 : ((th) == (0 : Int)) = true := by rw [beq_iff_eq]; omega
  have q5 : ((hi) == (28428538856079360 : Int)) = true := by rw [beq_iff_eq]; omega
  have q6 : ((hi / 281474976710656) == (8194 : Int)) = false := by rw [beq_eq_false_iff_ne]; omega
  have q7 : ((hi / 4294967296) == (536936448 : Int)) = false := by rw [beq_eq_false_iff_ne]; omega
  have q8 : ((th) == (24318 : Int)) = false := by rw [beq_eq_false_iff_ne]; omega
  have q9 : ((th) == (33578750 : Int)) = false := by rw [beq_eq_false_iff_ne]; omega
  clear hlw2 hh hk
  have hc1 : Below w.heap.size w (w.alloc (.cells #[.int .u64 hi, .int .u64 lo] 46)) := (Below.refl _ w).alloc (Nat.le_refl _) _
  go_enter Tryz.func6, Tryz.ntmps6
  go_wp2_with fail
  refine (wide6_any hi lo _).mono ?_
  rintro e x1 ⟨rfl, hb1⟩
  have hc : Below w.heap.size w x1 := hc1.trans (hb1.mono hc1.size)
  have hsz := hc.size
  clear hb1 hc1 hta
  have hown0 := World.ownsRow_nil x1 w.heap.size 31 1
  go_wp2_with (first
    | (at_builtin; refine wp_append1 _ rfl _ _ 28 rfl w.heap.size 31 i0 (.int .u32 0) 4 Tryz.underlying28 hi0 hz0 hz1 hz2 rfl _ 0 _ rfl hown0 (.int .u32 lw) rfl rfl (by decide) (by decide) hsz ?_; intro v1 y1 hown1 hk1))
  go_ret
  exact ⟨_, rfl, by rw [HZ.out]; exact hown1, (hc.trans hk1)⟩
set_option maxRecDepth 100000 in
set_option maxHeartbeats 2000000 in
theorem inner_tr_i1 (hi lo th lw : Int) (w : World) (hbd : (0 ≤ hi ∧ hi ≤ 18446744073709551615) ∧ (0 ≤ lo ∧ lo ≤ 18446744073709551615)) (hth : lo / 4294967296 = th) (hlw2 : lo % 4294967296 = lw) (hh : hi = 28428538856079360) (hk : th = 24318) :
    Calls Tryz.prog 6 #[.iface 46 (.agg #[.int .u64 hi, .int .u64 lo])] w (RetFours w (innerZ hi lo)) := by
  obtain ⟨⟨h0, h1⟩, l0, l1⟩ := hbd
  obtain ⟨i0, hi0, hz0, hz1, hz2⟩ := info_parts Tryz.infoFour
  have hta := as66
  have hwl : IntKind.u32.wrap lo = lw := by rw [u32_wrap]; exact hlw2
  have hwd : IntKind.u32.wrap (hi / 65536) = hi / 65536 % 4294967296 := u32_wrap _
  have hwe : IntKind.u32.wrap hi = hi % 4294967296 := u32_wrap _
  have hA : inA hi th lw = [] := if_neg (by omega)
  have hB : inCo hi th lw = [] := if_neg (by omega)
  have hC : inC hi th lw = [] := if_neg (by omega)
  have hD : inD hi = [] := if_neg (by omega)
  have hE : inE hi lw = [] := if_neg (by omega)
  have hF : inF th lw = [lw] := if_pos (by omega)
  have HZ : Hid (innerZ hi lo = [lw]) := by show innerZ hi lo = _; rw [innerZ, hth, hlw2, hA, hB, hC, hD, hE, hF]; rfl
  clear hA hB hC hD hE hF
  have ht0 : 0 ≤ th := by omega
  have ht1 : th ≤ 4294967295 := by omega
  have hw0 : 0 ≤ lw := by omega
  have hw1 : lw ≤ 4294967295 := by omega
  have q1 : ((hi) == (0 : Int)) = false := by rw [beq_eq_false_iff_ne]; omega
  have q2 : ((th) == (65535 : Int)) = false := by rw [beq_eq_false_iff_ne]; omega
  have q3 : ((th) == (0 : Int)) = false := by rw [beq_eq_false_iff_ne]; omega
  have q5 : ((hi) == (28428538856079360 : Int)) = true := by rw [beq_iff_eq]; omega
  have q6 : ((hi / 281474976710656) == (8194 : Int)) = false := by rw [beq_eq_false_iff_ne]; omega
  have q7 : ((hi / 4294967296) == (536936448 : Int)) = false := by rw [beq_eq_false_iff_ne]; omega
  have q8 : ((th) == (24318 : Int)) = true := by rw [beq_iff_eq]; omega
  have q9 : ((th) == (33578750 : Int)) = false := by rw [beq_eq_false_iff_ne]; omega
  clear hlw2 hh hk
  have hc1 : Below w.heap.size w (w.alloc (.cells #[.int .u64 hi, .int .u64 lo] 46)) := (Below.refl _ w).alloc (Nat.le_refl _) _
  go_enter Tryz.func6, Tryz.ntmps6
  go_wp2_with fail
  refine (wide6_any hi lo _).mono ?_
  rintro e x1 ⟨rfl, hb1⟩
  have hc : Below w.heap.size w x1 := hc1.trans (hb1.mono hc1.size)
  have hsz := hc.size
  clear hb1 hc1 hta
  have hown0 := World.ownsRow_nil x1 w.heap.size 31 1
  go_wp2_with (first
    | (at_builtin; refine wp_append1 _ rfl _ _ 28 rfl w.heap.size 31 i0 (.int .u32 0) 4 Tryz.underlying28 hi0 hz0 hz1 hz2 rfl _ 0 _ rfl hown0 (.int .u32 lw) rfl rfl (by decide) (by decide) hsz ?_; intro v1 y1 hown1 hk1))
  go_ret
  exact ⟨_, rfl, by rw [HZ.out]; exact hown1, (hc.trans hk1)⟩
set_option maxRecDepth 100000 in
set_option maxHeartbeats 2000000 in
theorem inner_tr_i2 (hi lo th lw : Int) (w : World) (hbd : (0 ≤ hi ∧ hi ≤ 18446744073709551615) ∧ (0 ≤ lo ∧ lo ≤ 18446744073709551615)) (hth : lo / 4294967296 = th) (hlw2 : lo % 4294967296 = lw) (hh : hi = 28428538856079360) (hk : th = 33578750) :
    Calls Tryz.prog 6 #[.iface 46 (.agg #[.int .u64 hi, .int .u64 lo])] w (RetFours w (innerZ hi lo)) := by
  obtain ⟨⟨h0, h1⟩, l0, l1⟩ := hbd
  obtain ⟨i0, hi0, hz0, hz1, hz2⟩ := info_parts Tryz.infoFour
  have hta := as66
  have hwl : IntKind.u32.wrap lo = lw := by rw [u32_wrap]; exact hlw2
  have hwd : IntKind.u32.wrap (hi / 65536) = hi / 65536 % 4294967296 := u32_wrap _
  have hwe : IntKind.u32.wrap hi = hi % 4294967296 := u32_wrap _
  have hA : inA hi th lw = [] := if_neg (by omega)
  have hB : inCo hi th lw = [] := if_neg (by omega)
  have hC : inC hi th lw = [] := if_neg (by omega)
  have hD : inD hi = [] := if_neg (by omega)
  have hE : inE hi lw = [] := if_neg (by omega)
  have hF : inF th lw = [lw] := if_pos (by omega)
  have HZ : Hid (innerZ hi lo = [lw]) := by show innerZ hi lo = _; rw [innerZ, hth, hlw2, hA, hB, hC, hD, hE, hF]; rfl
  clear hA hB hC hD hE hF
  have ht0 : 0 ≤ th := by omega
  have ht1 : th ≤ 4294967295 := by omega
  have hw0 : 0 ≤ lw := by omega
  have hw1 : lw ≤ 4294967295 := by omega
  have q1 : ((hi) == (0 : Int)) = false := by rw [beq_eq_false_iff_ne]; omega
  have q2 : ((th) == (65535 : Int)) = false := by rw [beq_eq_false_iff_ne]; omega
  have q3 : ((th) == (0 : Int)) = false := by rw [beq_eq_false_iff_ne]; omega
  have q5 : ((hi) == (28428538856079360 : Int)) = true := by rw [beq_iff_eq]; omega
  have q6 : ((hi / 281474976710656) == (8194 : Int)) = false := by rw [beq_eq_false_iff_ne]; omega
  have q7 : ((hi / 4294967296) == (536936448 : Int)) = false := by rw [beq_eq_false_iff_ne]; omega
  have q8 : ((th) == (24318 : Int)) = false := by rw [beq_eq_false_iff_ne]; omega
  have q9 : ((th) == (33578750 : Int)) = true := by rw [beq_iff_eq]; omega
  clear hlw2 hh hk
  have hc1 : Below w.heap.size w (w.alloc (.cells #[.int .u64 hi, .int .u64 lo] 46)) := (Below.refl _ w).alloc (Nat.le_refl _) _
  go_enter Tryz.func6, Tryz.ntmps6
  go_wp2_with fail
  refine (wide6_any hi lo _).mono ?_
  rintro e x1 ⟨rfl, hb1⟩
  have hc : Below w.heap.size w x1 := hc1.trans (hb1.mono hc1.size)
  have hsz := hc.size
  clear hb1 hc1 hta
  have hown0 := World.ownsRow_nil x1 w.heap.size 31 1
  go_wp2_with (first
    | (at_builtin; refine wp_append1 _ rfl _ _ 28 rfl w.heap.size 31 i0 (.int .u32 0) 4 Tryz.underlying28 hi0 hz0 hz1 hz2 rfl _ 0 _ rfl hown0 (.int .u32 lw) rfl rfl (by decide) (by decide) hsz ?_; intro v1 y1 hown1 hk1))
  go_ret
  exact ⟨_, rfl, by rw [HZ.out]; exact hown1, (hc.trans hk1)⟩
set_option maxRecDepth 100000 in
set_option maxHeartbeats 2000000 in
theorem inner_tr_oth (hi lo th lw : Int) (w : World) (hbd : (0 ≤ hi ∧ hi ≤ 18446744073709551615) ∧ (0 ≤ lo ∧ lo ≤ 18446744073709551615)) (hth : lo / 4294967296 = th) (hlw2 : lo % 4294967296 = lw) (hh : hi = 28428538856079360) (hk : th ≠ 65535 ∧ th ≠ 0 ∧ th ≠ 24318 ∧ th ≠ 33578750) :
    Calls Tryz.prog 6 #[.iface 46 (.agg #[.int .u64 hi, .int .u64 lo])] w (RetFours w (innerZ hi lo)) := by
  obtain ⟨⟨h0, h1⟩, l0, l1⟩ := hbd
  obtain ⟨i0, hi0, hz0, hz1, hz2⟩ := info_parts Tryz.infoFour
  have hta := as66
  have hwl : IntKind.u32.wrap lo = lw := by rw [u32_wrap]; exact hlw2
  have hwd : IntKind.u32.wrap (hi / 65536) = hi / 65536 % 4294967296 := u32_wrap _
  have hwe : IntKind.u32.wrap hi = hi % 4294967296 := u32_wrap _
  have hA : inA hi th lw = [] := if_neg (by omega)
  have hB : inCo hi th lw = [] := if_neg (by omega)
  have hC : inC hi th lw = [] := if_neg (by omega)
  have hD : inD hi = [] := if_neg (by omega)
  have hE : inE hi lw = [] := if_neg (by omega)
  have hF : inF th lw = [] := if_neg (by omega)
  have HZ : Hid (innerZ hi lo = []) := by show innerZ hi lo = _; rw [innerZ, hth, hlw2, hA, hB, hC, hD, hE, hF]; rfl
  clear hA hB hC hD hE hF
  have ht0 : 0 ≤ th := by omega
  have ht1 : th ≤ 4294967295 := by omega
  have hw0 : 0 ≤ lw := by omega
  have hw1 : lw ≤ 4294967295 := by omega
  have q1 : ((hi) == (0 : Int)) = false := by rw [beq_eq_false_iff_ne]; omega
  have q2 : ((th) == (65535 : Int)) = false := by rw [beq_eq_false_iff_ne]; omega
  have q3 : ((th) == (0 : Int)) = false := by rw [beq_eq_false_iff_ne]; omega
  have q5 : ((hi) == (28428538856079360 : Int)) = true := by rw [beq_iff_eq]; omega
  have q6 : ((hi / 281474976710656) == (8194 : Int)) = false := by rw [beq_eq_false_iff_ne]; omega
  have q7 : ((hi / 4294967296) == (536936448 : Int)) = false := by rw [beq_eq_false_iff_ne]; omega
  have q8 : ((th) == (24318 : Int)) = false := by rw [beq_eq_false_iff_ne]; omega
  have q9 : ((th) == (33578750 : Int)) = false := by rw [beq_eq_false_iff_ne]; omega
  clear hlw2 hh hk
  have hc1 : Below w.heap.size w (w.alloc (.cells #[.int .u64 hi, .int .u64 lo] 46)) := (Below.refl _ w).alloc (Nat.le_refl _) _
  go_enter Tryz.func6, Tryz.ntmps6
  go_wp2_with fail
  refine (wide6_any hi lo _).mono ?_
  rintro e x1 ⟨rfl, hb1⟩
  have hc : Below w.heap.size w x1 := hc1.trans (hb1.mono hc1.size)
  have hsz := hc.size
  clear hb1 hc1 hta
  have hown0 := World.ownsRow_nil x1 w.heap.size 31 1
  go_wp2
  go_ret
  exact ⟨_, rfl, by rw [HZ.out]; exact Nums.nil _ _ _ _, hc⟩
set_option maxRecDepth 100000 in
set_option maxHeartbeats 2000000 in
theorem inner_d_ffff (hi lo th lw : Int) (w : World) (hbd : (0 ≤ hi ∧ hi ≤ 18446744073709551615) ∧ (0 ≤ lo ∧ lo ≤ 18446744073709551615)) (hth : lo / 4294967296 = th) (hlw2 : lo % 4294967296 = lw) (hh : hi / 281474976710656 = 8194) (hk : th = 65535) :
    Calls Tryz.prog 6 #[.iface 46 (.agg #[.int .u64 hi, .int .u64 lo])] w (RetFours w (innerZ hi lo)) := by
  obtain ⟨⟨h0, h1⟩, l0, l1⟩ := hbd
  obtain ⟨i0, hi0, hz0, hz1, hz2⟩ := info_parts Tryz.infoFour
  have hta := as66
  have hwl : IntKind.u32.wrap lo = lw := by rw [u32_wrap]; exact hlw2
  have hwd : IntKind.u32.wrap (hi / 65536) = hi / 65536 % 4294967296 := u32_wrap _
  have hwe : IntKind.u32.wrap hi = hi % 4294967296 := u32_wrap _
  have hA : inA hi th lw = [] := if_neg (by omega)
  have hB : inCo hi th lw = [] := if_neg (by omega)
  have hC : inC hi th lw = [] := if_neg (by omega)
  have hD : inD hi = [hi / 65536 % 4294967296] := if_pos (by omega)
  have hE : inE hi lw = [] := if_neg (by omega)
  have hF : inF th lw = [] := if_neg (by omega)
  have HZ : Hid (innerZ hi lo = [hi / 65536 % 4294967296]) := by show innerZ hi lo = _; rw [innerZ, hth, hlw2, hA, hB, hC, hD, hE, hF]; rfl
  clear hA hB hC hD hE hF
  have ht0 : 0 ≤ th := by omega
  have ht1 : th ≤ 4294967295 := by omega
  have hw0 : 0 ≤ lw := by omega
  have hw1 : lw ≤ 4294967295 := by omega
  have q1 : ((hi) == (0 : Int)) = false := by rw [beq_eq_false_iff_ne]; omega
  have q2 : ((th) == (65535 : Int)) = true := by rw [beq_iff_eq]; omega
  have q3 : ((th) == (0 : Int)) = false := by rw [beq_eq_false_iff_ne]; omega
  have q5 : ((hi) == (28428538856079360 : Int)) = false := by rw [beq_eq_false_iff_ne]; omega
  have q6 : ((hi / 281474976710656) == (8194 : Int)) = true := by rw [beq_iff_eq]; omega
  have q7 : ((hi / 4294967296) == (536936448 : Int)) = false := by rw [beq_eq_false_iff_ne]; omega
  have q8 : ((th) == (24318 : Int)) = false := by rw [beq_eq_false_iff_ne]; omega
  have q9 : ((th) == (33578750 : Int)) = false := by rw [beq_eq_false_iff_ne]; omega
  clear hlw2 hh hk
  have hc1 : Below w.heap.size w (w.alloc (.cells #[.int .u64 hi, .int .u64 lo] 46)) := (Below.refl _ w).alloc (Nat.le_refl _) _
  go_enter Tryz.func6, Tryz.ntmps6
  go_wp2_with fail
  refine (wide6_any hi lo _).mono ?_
  rintro e x1 ⟨rfl, hb1⟩
  have hc : Below w.heap.size w x1 := hc1.trans (hb1.mono hc1.size)
  have hsz := hc.size
  clear hb1 hc1 hta
  have hown0 := World.ownsRow_nil x1 w.heap.size 31 1
  go_wp2_with (first
    | (at_builtin; refine wp_append1 _ rfl _ _ 28 rfl w.heap.size 31 i0 (.int .u32 0) 4 Tryz.underlying28 hi0 hz0 hz1 hz2 rfl _ 0 _ rfl hown0 (.int .u32 (hi / 65536 % 4294967296)) rfl rfl (by decide) (by decide) hsz ?_; intro v1 y1 hown1 hk1))
  go_ret
  exact ⟨_, rfl, by rw [HZ.out]; exact hown1, (hc.trans hk1)⟩
set_option maxRecDepth 100000 in
set_option maxHeartbeats 2000000 in
theorem inner_d_zero (hi lo th lw : Int) (w : World) (hbd : (0 ≤ hi ∧ hi ≤ 18446744073709551615) ∧ (0 ≤ lo ∧ lo ≤ 18446744073709551615)) (hth : lo / 4294967296 = th) (hlw2 : lo % 4294967296 = lw) (hh : hi / 281474976710656 = 8194) (hk : th = 0) :
    Calls Tryz.prog 6 #[.iface 46 (.agg #[.int .u64 hi, .int .u64 lo])] w (RetFours w (innerZ hi lo)) := by
  obtain ⟨⟨h0, h1⟩, l0, l1⟩ := hbd
  obtain ⟨i0, hi0, hz0, hz1, hz2⟩ := info_parts Tryz.infoFour
  have hta := as66
  have hwl : IntKind.u32.wrap lo = lw := by rw [u32_wrap]; exact hlw2
  have hwd : IntKind.u32.wrap (hi / 65536) = hi / 65536 % 4294967296 := u32_wrap _
  have hwe : IntKind.u32.wrap hi = hi % 4294967296 := u32_wrap _
  have hA : inA hi th lw = [] := if_neg (by omega)
  have hB : inCo hi th lw = [] := if_neg (by omega)
  have hC : inC hi th lw = [] := if_neg (by omega)
  have hD : inD hi = [hi / 65536 % 4294967296] := if_pos (by omega)
  have hE : inE hi lw = [] := if_neg (by omega)
  have hF : inF th lw = [] := if_neg (by omega)
  have HZ : Hid (innerZ hi lo = [hi / 65536 % 4294967296]) := by show innerZ hi lo = _; rw [innerZ, hth, hlw2, hA, hB, hC, hD, hE, hF]; rfl
  clear hA hB hC hD hE hF
  have ht0 : 0 ≤ th := by omega
  have ht1 : th ≤ 4294967295 := by omega
  have hw0 : 0 ≤ lw := by omega
  have hw1 : lw ≤ 4294967295 := by omega
  have q1 : ((hi) == (0 : Int)) = false := by rw [beq_eq_false_iff_ne]; omega
  have q2 : ((th) == (65535 : Int)) = false := by rw [beq_eq_false_iff_ne]; omega
  have q3 : ((th) == (0 : Int)) = true := by rw [beq_iff_eq]; omega
  have q5 : ((hi) == (28428538856079360 : Int)) = false := by rw [beq_eq_false_iff_ne]; omega
  have q6 : ((hi / 281474976710656) == (8194 : Int)) = true := by rw [beq_iff_eq]; omega
  have q7 : ((hi / 4294967296) == (536936448 : Int)) = false := by rw [beq_eq_false_iff_ne]; omega
  have q8 : ((th) == (24318 : Int)) = false := by rw [beq_eq_false_iff_ne]; omega
  have q9 : ((th) == (33578750 : Int)) = false := by rw [beq_eq_false_iff_ne]; omega
  clear hlw2 hh hk
  have hc1 : Below w.heap.size w (w.alloc (.cells #[.int .u64 hi, .int .u64 lo] 46)) := (Below.refl _ w).alloc (Nat.le_refl _) _
  go_enter Tryz.func6, Tryz.ntmps6
  go_wp2_with fail
  refine (wide6_any hi lo _).mono ?_
  rintro e x1 ⟨rfl, hb1⟩
  have hc : Below w.heap.size w x1 := hc1.trans (hb1.mono hc1.size)
  have hsz := hc.size
  clear hb1 hc1 hta
  have hown0 := World.ownsRow_nil x1 w.heap.size 31 1
  go_wp2_with (first
    | (at_builtin; refine wp_append1 _ rfl _ _ 28 rfl w.heap.size 31 i0 (.int .u32 0) 4 Tryz.underlying28 hi0 hz0 hz1 hz2 rfl _ 0 _ rfl hown0 (.int .u32 (hi / 65536 % 4294967296)) rfl rfl (by decide) (by decide) hsz ?_; intro v1 y1 hown1 hk1))
  go_ret
  exact ⟨_, rfl, by rw [HZ.out]; exact hown1, (hc.trans hk1)⟩
set_option maxRecDepth 100000 in
set_option maxHeartbeats 2000000 in
theorem inner_d_i1 (hi lo th lw : Int) (w : World) (hbd : (0 ≤ hi ∧ hi ≤ 18446744073709551615) ∧ (0 ≤ lo ∧ lo ≤ 18446744073709551615)) (hth : lo / 4294967296 = th) (hlw2 : lo % 4294967296 = lw) (hh : hi / 281474976710656 = 8194) (hk : th = 24318) :
    Calls Tryz.prog 6 #[.iface 46 (.agg #[.int .u64 hi, .int .u64 lo])] w (RetFours w (innerZ hi lo)) := by
  obtain ⟨⟨h0, h1⟩, l0, l1⟩ := hbd
  obtain ⟨i0, hi0, hz0, hz1, hz2⟩ := info_parts Tryz.infoFour
  have hta := as66
  have hwl : IntKind.u32.wrap lo = lw := by rw [u32_wrap]; exact hlw2
  have hwd : IntKind.u32.wrap (hi / 65536) = hi / 65536 % 4294967296 := u32_wrap _
  have hwe : IntKind.u32.wrap hi = hi % 4294967296 := u32_wrap _
  have hA : inA hi th lw = [] := if_neg (by omega)
  have hB : inCo hi th lw = [] := if_neg (by omega)
  have hC : inC hi th lw = [] := if_neg (by omega)
  have hD : inD hi = [hi / 65536 % 4294967296] := if_pos (by omega)
  have hE : inE hi lw = [] := if_neg (by omega)
  have hF : inF th lw = [lw] := if_pos (by omega)
  have HZ : Hid (innerZ hi lo = [hi / 65536 % 4294967296, lw]) := by show innerZ hi lo = _; rw [innerZ, hth, hlw2, hA, hB, hC, hD, hE, hF]; rfl
  clear hA hB hC hD hE hF
  have ht0 : 0 ≤ th := by omega
  have ht1 : th ≤ 4294967295 := by omega
  have hw0 : 0 ≤ lw := by omega
  have hw1 : lw ≤ 4294967295 := by omega
  have q1 : ((hi) == (0 : Int)) = false := by rw [beq_eq_false_iff_ne]; omega
  have q2 : ((th) == (65535 : Int)) = false := by rw [beq_eq_false_iff_ne]; omega
  have q3 : ((th) == (0 : Int)) = false := by rw [beq_eq_false_iff_ne]; omega
  have q5 : ((hi) == (28428538856079360 : Int)) = false := by rw [beq_eq_false_iff_ne]; omega
  have q6 : ((hi / 281474976710656) == (8194 : Int)) = true := by rw [beq_iff_eq]; omega
  have q7 : ((hi / 4294967296) == (536936448 : Int)) = false := by rw [beq_eq_false_iff_ne]; omega
  have q8 : ((th) == (24318 : Int)) = true := by rw [beq_iff_eq]; omega
  have q9 : ((th) == (33578750 : Int)) = false := by rw [beq_eq_false_iff_ne]; omega
  clear hlw2 hh hk
  have hc1 : Below w.heap.size w (w.alloc (.cells #[.int .u64 hi, .int .u64 lo] 46)) := (Below.refl _ w).alloc (Nat.le_refl _) _
  go_enter Tryz.func6, Tryz.ntmps6
  go_wp2_with fail
  refine (wide6_any hi lo _).mono ?_
  rintro e x1 ⟨rfl, hb1⟩
  have hc : Below w.heap.size w x1 := hc1.trans (hb1.mono hc1.size)
  have hsz := hc.size
  clear hb1 hc1 hta
  have hown0 := World.ownsRow_nil x1 w.heap.size 31 1
  go_wp2_with (first
    | (at_builtin; refine wp_append1 _ rfl _ _ 28 rfl w.heap.size 31 i0 (.int .u32 0) 4 Tryz.underlying28 hi0 hz0 hz1 hz2 rfl _ 0 _ rfl hown0 (.int .u32 (hi / 65536 % 4294967296)) rfl rfl (by decide) (by decide) hsz ?_; intro v1 y1 hown1 hk1)
    | (at_builtin; refine wp_append1 _ rfl _ _ 28 rfl w.heap.size 31 i0 (.int .u32 0) 4 Tryz.underlying28 hi0 hz0 hz1 hz2 rfl _ 1 _ rfl hown1 (.int .u32 lw) rfl rfl (by decide) (by decide) (hc.trans hk1).size ?_; intro v2 y2 hown2 hk2))
  go_ret
  exact ⟨_, rfl, by rw [HZ.out]; exact hown2, ((hc.trans hk1).trans hk2)⟩
set_option maxRecDepth 100000 in
set_option maxHeartbeats 2000000 in
theorem inner_d_i2 (hi lo th lw : Int) (w : World) (hbd : (0 ≤ hi ∧ hi ≤ 18446744073709551615) ∧ (0 ≤ lo ∧ lo ≤ 18446744073709551615)) (hth : lo / 4294967296 = th) (hlw2 : lo % 4294967296 = lw) (hh : hi / 281474976710656 = 8194) (hk : th = 33578750) :
    Calls Tryz.prog 6 #[.iface 46 (.agg #[.int .u64 hi, .int .u64 lo])] w (RetFours w (innerZ hi lo)) := by
  obtain ⟨⟨h0, h1⟩, l0, l1⟩ := hbd
  obtain ⟨i0, hi0, hz0, hz1, hz2⟩ := info_parts Tryz.infoFour
  have hta := as66
  have hwl : IntKind.u32.wrap lo = lw := by rw [u32_wrap]; exact hlw2
  have hwd : IntKind.u32.wrap (hi / 65536) = hi / 65536 % 4294967296 := u32_wrap _
  have hwe : IntKind.u32.wrap hi = hi % 4294967296 := u32_wrap _
  have hA : inA hi th lw = [] := if_neg (by omega)
  have hB : inCo hi th lw = [] := if_neg (by omega)
  have hC : inC hi th lw = [] := if_neg (by omega)
  have hD : inD hi = [hi / 65536 % 4294967296] := if_pos (by omega)
  have hE : inE hi lw = [] := if_neg (by omega)
  have hF : inF th lw = [lw] := if_pos (by omega)
  have HZ : Hid (innerZ hi lo = [hi / 65536 % 4294967296, lw]) := by show innerZ hi lo = _; rw [innerZ, hth, hlw2, hA, hB, hC, hD, hE, hF]; rfl
  clear hA hB hC hD hE hF
  have ht0 : 0 ≤ th := by omega
  have ht1 : th ≤ 4294967295 := by omega
  have hw0 : 0 ≤ lw := by omega
  have hw1 : lw ≤ 4294967295 := by omega
  have q1 : ((hi) == (0 : Int)) = false := by rw [beq_eq_false_iff_ne]; omega
  have q2 : ((th) == (65535 : Int)) = false := by rw [beq_eq_false_iff_ne]; omega
  have q3 : ((th) == (0 : Int)) = false := by rw [beq_eq_false_iff_ne]; omega
  have q5 : ((hi) == (28428538856079360 : Int)) = false := by rw [beq_eq_false_iff_ne]; omega
  have q6 : ((hi / 281474976710656) == (8194 : Int)) = true := by rw [beq_iff_eq]; omega
  have q7 : ((hi / 4294967296) == (536936448 : Int)) = false := by rw [beq_eq_false_iff_ne]; omega
  have q8 : ((th) == (24318 : Int)) = false := by rw [beq_eq_false_iff_ne]; omega
  have q9 : ((th) == (33578750 : Int)) = true := by rw [beq_iff_eq]; omega
  clear hlw2 hh hk
  have hc1 : Below w.heap.size w (w.alloc (.cells #[.int .u64 hi, .int .u64 lo] 46)) := (Below.refl _ w).alloc (Nat.le_refl _) _
  go_enter Tryz.func6, Tryz.ntmps6
  go_wp2_with fail
  refine (wide6_any hi lo _).mono ?_
  rintro e x1 ⟨rfl, hb1⟩
  have hc : Below w.heap.size w x1 := hc1.trans (hb1.mono hc1.size)
  have hsz := hc.size
  clear hb1 hc1 hta
  have hown0 := World.ownsRow_nil x1 w.heap.size 31 1
  go_wp2_with (first
    | (at_builtin; refine wp_append1 _ rfl _ _ 28 rfl w.heap.size 31 i0 (.int .u32 0) 4 Tryz.underlying28 hi0 hz0 hz1 hz2 rfl _ 0 _ rfl hown0 (.int .u32 (hi / 65536 % 4294967296)) rfl rfl (by decide) (by decide) hsz ?_; intro v1 y1 hown1 hk1)
    | (at_builtin; refine wp_append1 _ rfl _ _ 28 rfl w.heap.size 31 i0 (.int .u32 0) 4 Tryz.underlying28 hi0 hz0 hz1 hz2 rfl _ 1 _ rfl hown1 (.int .u32 lw) rfl rfl (by decide) (by decide) (hc.trans hk1).size ?_; intro v2 y2 hown2 hk2))
  go_ret
  exact ⟨_, rfl, by rw [HZ.out]; exact hown2, ((hc.trans hk1).trans hk2)⟩
set_option maxRecDepth 100000 in
set_option maxHeartbeats 2000000 in
theorem inner_d_oth (hi lo th lw : Int) (w : World) (hbd : (0 ≤ hi ∧ hi ≤ 18446744073709551615) ∧ (0 ≤ lo ∧ lo ≤ 18446744073709551615)) (hth : lo / 4294967296 = th) (hlw2 : lo % 4294967296 = lw) (hh : hi / 281474976710656 = 8194) (hk : th ≠ 65535 ∧ th ≠ 0 ∧ th ≠ 24318 ∧ th ≠ 33578750) :
    Calls Tryz.prog 6 #[.iface 46 (.agg #[.int .u64 hi, .int .u64 lo])] w (RetFours w (innerZ hi lo)) := by
  obtain ⟨⟨h0, h1⟩, l0, l1⟩ := hbd
  obtain ⟨i0, hi0, hz0, hz1, hz2⟩ := info_parts Tryz.infoFour
  have hta := as66
  have hwl : IntKind.u32.wrap lo = lw := by rw [u32_wrap]; exact hlw2
  have hwd : IntKind.u32.wrap (hi / 65536) = hi / 65536 % 4294967296 := u32_wrap _
  have hwe : IntKind.u32.wrap hi = hi % 4294967296 := u32_wrap _
  have hA : inA hi th lw = [] := if_neg (by omega)
  have hB : inCo hi th lw = [] := if_neg (by omega)
  have hC : inC hi th lw = [] := if_neg (by omega)
  have hD : inD hi = [hi / 65536 % 4294967296] := if_pos (by omega)
  have hE : inE hi lw = [] := if_neg (by omega)
  have hF : inF th lw = [] := if_neg (by omega)
  have HZ : Hid (innerZ hi lo = [hi / 65536 % 4294967296]) := by show innerZ hi lo = _; rw [innerZ, hth, hlw2, hA, hB, hC, hD, hE, hF]; rfl
  clear hA hB hC hD hE hF
  have ht0 : 0 ≤ th := by omega
  have ht1 : th ≤ 4294967295 := by omega
  have hw0 : 0 ≤ lw := by omega
  have hw1 : lw ≤ 4294967295 := by omega
  have q1 : ((hi) == (0 : Int)) = false := by rw [beq_eq_false_iff_ne]; omega
  have q2 : ((th) == (65535 : Int)) = false := by rw [beq_eq_false_iff_ne]; omega
  have q3 : ((th) == (0 : Int)) = false := by rw [beq_eq_false_iff_ne]; omega
  have q5 : ((hi) == (28428538856079360 : Int)) = false := by rw [beq_eq_false_iff_ne]; omega
  have q6 : ((hi / 281474976710656) == (8194 : Int)) = true := by rw [beq_iff_eq]; omega
  have q7 : ((hi / 4294967296) == (536936448 : Int)) = false := by rw [beq_eq_false_iff_ne]; omega
  have q8 : ((th) == (24318 : Int)) = false := by rw [beq_eq_false_iff_ne]; omega
  have q9 : ((th) == (33578750 : Int)) = false := by rw [beq_eq_false_iff_ne]; omega
  clear hlw2 hh hk
  have hc1 : Below w.heap.size w (w.alloc (.cells #[.int .u64 hi, .int .u64 lo] 46)) := (Below.refl _ w).alloc (Nat.le_refl _) _
  go_enter Tryz.func6, Tryz.ntmps6
  go_wp2_with fail
  refine (wide6_any hi lo _).mono ?_
  rintro e x1 ⟨rfl, hb1⟩
  have hc : Below w.heap.size w x1 := hc1.trans (hb1.mono hc1.size)
  have hsz := hc.size
  clear hb1 hc1 hta
  have hown0 := World.ownsRow_nil x1 w.heap.size 31 1
  go_wp2_with (first
    | (at_builtin; refine wp_append1 _ rfl _ _ 28 rfl w.heap.size 31 i0 (.int .u32 0) 4 Tryz.underlying28 hi0 hz0 hz1 hz2 rfl _ 0 _ rfl hown0 (.int .u32 (hi / 65536 % 4294967296)) rfl rfl (by decide) (by decide) hsz ?_; intro v1 y1 hown1 hk1))
  go_ret
  exact ⟨_, rfl, by rw [HZ.out]; exact hown1, (hc.trans hk1)⟩
set_option maxRecDepth 100000 in
set_option maxHeartbeats 2000000 in
theorem inner_e_ffff (hi lo th lw : Int) (w : World) (hbd : (0 ≤ hi ∧ hi ≤ 18446744073709551615) ∧ (0 ≤ lo ∧ lo ≤ 18446744073709551615)) (hth : lo / 4294967296 = th) (hlw2 : lo % 4294967296 = lw) (hh : hi / 4294967296 = 536936448) (hk : th = 65535) :
    Calls Tryz.prog 6 #[.iface 46 (.agg #[.int .u64 hi, .int .u64 lo])] w (RetFours w (innerZ hi lo)) := by
  obtain ⟨⟨h0, h1⟩, l0, l1⟩ := hbd
  obtain ⟨i0, hi0, hz0, hz1, hz2⟩ := info_parts Tryz.infoFour
  have hta := as66
  have hwl : IntKind.u32.wrap lo = lw := by rw [u32_wrap]; exact hlw2
  have hwd : IntKind.u32.wrap (hi / 65536) = hi / 65536 % 4294967296 := u32_wrap _
  have hwe : IntKind.u32.wrap hi = hi % 4294967296 := u32_wrap _
  have hA : inA hi th lw = [] := if_neg (by omega)
  have hB : inCo hi th lw = [] := if_neg (by omega)
  have hC : inC hi th lw = [] := if_neg (by omega)
  have hD : inD hi = [] := if_neg (by omega)
  have hE : inE hi lw = [hi % 4294967296, 4294967295 - lw] := if_pos (by omega)
  have hF : inF th lw = [] := if_neg (by omega)
  have HZ : Hid (innerZ hi lo = [hi % 4294967296, 4294967295 - lw]) := by show innerZ hi lo = _; rw [innerZ, hth, hlw2, hA, hB, hC, hD, hE, hF]; rfl
  clear hA hB hC hD hE hF
  have ht0 : 0 ≤ th := by omega
  have ht1 : th ≤ 4294967295 := by omega
  have hw0 : 0 ≤ lw := by omega
  have hw1 : lw ≤ 4294967295 := by omega
  have q1 : ((hi) == (0 : Int)) = false := by rw [beq_eq_false_iff_ne]; omega
  have q2 : ((th) == (65535 : Int)) = true := by rw [beq_iff_eq]; omega
  have q3 : ((th) == (0 : Int)) = false := by rw [beq_eq_false_iff_ne]; omega
  have q5 : ((hi) == (28428538856079360 : Int)) = false := by rw [beq_eq_false_iff_ne]; omega
  have q6 : ((hi / 281474976710656) == (8194 : Int)) = false := by rw [beq_eq_false_iff_ne]; omega
  have q7 : ((hi / 4294967296) == (536936448 : Int)) = true := by rw [beq_iff_eq]; omega
  have q8 : ((th) == (24318 : Int)) = false := by rw [beq_eq_false_iff_ne]; omega
  have q9 : ((th) == (33578750 : Int)) = false := by rw [beq_eq_false_iff_ne]; omega
  have hxor := xor32 lw hw0 hw1
  clear hlw2 hh hk
  have hc1 : Below w.heap.size w (w.alloc (.cells #[.int .u64 hi, .int .u64 lo] 46)) := (Below.refl _ w).alloc (Nat.le_refl _) _
  go_enter Tryz.func6, Tryz.ntmps6
  go_wp2_with fail
  refine (wide6_any hi lo _).mono ?_
  rintro e x1 ⟨rfl, hb1⟩
  have hc : Below w.heap.size w x1 := hc1.trans (hb1.mono hc1.size)
  have hsz := hc.size
  clear hb1 hc1 hta
  have hown0 := World.ownsRow_nil x1 w.heap.size 31 1
  go_wp2_with (first
    | (at_builtin; refine wp_append2 _ rfl _ _ 28 rfl w.heap.size 31 i0 (.int .u32 0) 4 Tryz.underlying28 hi0 hz0 hz1 hz2 rfl _ 0 _ rfl hown0 (.int .u32 (hi % 4294967296)) (.int .u32 (4294967295 - lw)) rfl rfl rfl (by unfold maxLen; omega) (by omega) hsz ?_; intro v1 y1 hown1 hk1))
  go_ret
  exact ⟨_, rfl, by rw [HZ.out]; exact hown1, (hc.trans hk1)⟩
set_option maxRecDepth 100000 in
set_option maxHeartbeats 2000000 in
theorem inner_e_zero (hi lo th lw : Int) (w : World) (hbd : (0 ≤ hi ∧ hi ≤ 18446744073709551615) ∧ (0 ≤ lo ∧ lo ≤ 18446744073709551615)) (hth : lo / 4294967296 = th) (hlw2 : lo % 4294967296 = lw) (hh : hi / 4294967296 = 536936448) (hk : th = 0) :
    Calls Tryz.prog 6 #[.iface 46 (.agg #[.int .u64 hi, .int .u64 lo])] w (RetFours w (innerZ hi lo)) := by
  obtain ⟨⟨h0, h1⟩, l0, l1⟩ := hbd
  obtain ⟨i0, hi0, hz0, hz1, hz2⟩ := info_parts Tryz.infoFour
  have hta := as66
  have hwl : IntKind.u32.wrap lo = lw := by rw [u32_wrap]; exact hlw2
  have hwd : IntKind.u32.wrap (hi / 65536) = hi / 65536 % 4294967296 := u32_wrap _
  have hwe : IntKind.u32.wrap hi = hi % 4294967296 := u32_wrap _
  have hA : inA hi th lw = [] := if_neg (by omega)
  have hB : inCo hi th lw = [] := if_neg (by omega)
  have hC : inC hi th lw = [] := if_neg (by omega)
  have hD : inD hi = [] := if_neg (by omega)
  have hE : inE hi lw = [hi % 4294967296, 4294967295 - lw] := if_pos (by omega)
  have hF : inF th lw = [] := if_neg (by omega)
  have HZ : Hid (innerZ hi lo = [hi % 4294967296, 4294967295 - lw]) := by show innerZ hi lo = _; rw [innerZ, hth, hlw2, hA, hB, hC, hD, hE, hF]; rfl
  clear hA hB hC hD hE hF
  have ht0 : 0 ≤ th := by omega
  have ht1 : th ≤ 4294967295 := by omega
  have hw0 : 0 ≤ lw := by omega
  have hw1 : lw ≤ 4294967295 := by omega
  have q1 : ((hi) == (0 : Int)) = false := by rw [beq_eq_false_iff_ne]; omega
  have q2 : ((th) == (65535 : Int)) = false := by rw [beq_eq_false_iff_ne]; omega
  have q3 : ((th) == (0 : Int)) = true := by rw [beq_iff_eq]; omega
  have q5 : ((hi) == (28428538856079360 : Int)) = false := by rw [beq_eq_false_iff_ne]; omega
  have q6 : ((hi / 281474976710656) == (8194 : Int)) = false := by rw [beq_eq_false_iff_ne]; omega
  have q7 : ((hi / 4294967296) == (536936448 : Int)) = true := by rw [beq_iff_eq]; omega
  have q8 : ((th) == (24318 : Int)) = false := by rw [beq_eq_false_iff_ne]; omega
  have q9 : ((th) == (33578750 : Int)) = false := by rw [beq_eq_false_iff_ne]; omega
  have hxor := xor32 lw hw0 hw1
  clear hlw2 hh hk
  have hc1 : Below w.heap.size w (w.alloc (.cells #[.int .u64 hi, .int .u64 lo] 46)) := (Below.refl _ w).alloc (Nat.le_refl _) _
  go_enter Tryz.func6, Tryz.ntmps6
  go_wp2_with fail
  refine (wide6_any hi lo _).mono ?_
  rintro e x1 ⟨rfl, hb1⟩
  have hc : Below w.heap.size w x1 := hc1.trans (hb1.mono hc1.size)
  have hsz := hc.size
  clear hb1 hc1 hta
  have hown0 := World.ownsRow_nil x1 w.heap.size 31 1
  go_wp2_with (first
    | (at_builtin; refine wp_append2 _ rfl _ _ 28 rfl w.heap.size 31 i0 (.int .u32 0) 4 Tryz.underlying28 hi0 hz0 hz1 hz2 rfl _ 0 _ rfl hown0 (.int .u32 (hi % 4294967296)) (.int .u32 (4294967295 - lw)) rfl rfl rfl (by unfold maxLen; omega) (by omega) hsz ?_; intro v1 y1 hown1 hk1))
  go_ret
  exact ⟨_, rfl, by rw [HZ.out]; exact hown1, (hc.trans hk1)⟩
set_option maxRecDepth 100000 in
set_option maxHeartbeats 2000000 in
theorem inner_e_i1 (hi lo th lw : Int) (w : World) (hbd : (0 ≤ hi ∧ hi ≤ 18446744073709551615) ∧ (0 ≤ lo ∧ lo ≤ 18446744073709551615)) (hth : lo / 4294967296 = th) (hlw2 : lo % 4294967296 = lw) (hh : hi / 4294967296 = 536936448) (hk : th = 24318) :
    Calls Tryz.prog 6 #[.iface 46 (.agg #[.int .u64 hi, .int .u64 lo])] w (RetFours w (innerZ hi lo)) := by
  obtain ⟨⟨h0, h1⟩, l0, l1⟩ := hbd
  obtain ⟨i0, hi0, hz0, hz1, hz2⟩ := info_parts Tryz.infoFour
  have hta := as66
  have hwl : IntKind.u32.wrap lo = lw := by rw [u32_wrap]; exact hlw2
  have hwd : IntKind.u32.wrap (hi / 65536) = hi / 65536 % 4294967296 := u32_wrap _
  have hwe : IntKind.u32.wrap hi = hi % 4294967296 := u32_wrap _
  have hA : inA hi th lw = [] := if_neg (by omega)
  have hB : inCo hi th lw = [] := if_neg (by omega)
  have hC : inC hi th lw = [] := if_neg (by omega)
  have hD : inD hi = [] := if_neg (by omega)
  have hE : inE hi lw = [hi % 4294967296, 4294967295 - lw] := if_pos (by omega)
  have hF : inF th lw = [lw] := if_pos (by omega)
  have HZ : Hid (innerZ hi lo = [hi % 4294967296, 4294967295 - lw, lw]) := by show innerZ hi lo = _; rw [innerZ, hth, hlw2, hA, hB, hC, hD, hE, hF]; rfl
  clear hA hB hC hD hE hF
  have ht0 : 0 ≤ th := by omega
  have ht1 : th ≤ 4294967295 := by omega
  have hw0 : 0 ≤ lw := by omega
  have hw1 : lw ≤ 4294967295 := by omega
  have q1 : ((hi) == (0 : Int)) = false := by rw [beq_eq_false_iff_ne]; omega
  have q2 : ((th) == (65535 : Int)) = false := by rw [beq_eq_false_iff_ne]; omega
  have q3 : ((th) == (0 : Int)) = false := by rw [beq_eq_false_iff_ne]; omega
  have q5 : ((hi) == (28428538856079360 : Int)) = false := by rw [beq_eq_false_iff_ne]; omega
  have q6 : ((hi / 281474976710656) == (8194 : Int)) = false := by rw [beq_eq_false_iff_ne]; omega
  have q7 : ((hi / 4294967296) == (536936448 : Int)) = true := by rw [beq_iff_eq]; omega
  have q8 : ((th) == (24318 : Int)) = true := by rw [beq_iff_eq]; omega
  have q9 : ((th) == (33578750 : Int)) = false := by rw [beq_eq_false_iff_ne]; omega
  have hxor := xor32 lw hw0 hw1
  clear hlw2 hh hk
  have hc1 : Below w.heap.size w (w.alloc (.cells #[.int .u64 hi, .int .u64 lo] 46)) := (Below.refl _ w).alloc (Nat.le_refl _) _
  go_enter Tryz.func6, Tryz.ntmps6
  go_wp2_with fail
  refine (wide6_any hi lo _).mono ?_
  rintro e x1 ⟨rfl, hb1⟩
  have hc : Below w.heap.size w x1 := hc1.trans (hb1.mono hc1.size)
  have hsz := hc.size
  clear hb1 hc1 hta
  have hown0 := World.ownsRow_nil x1 w.heap.size 31 1
  go_wp2_with (first
    | (at_builtin; refine wp_append2 _ rfl _ _ 28 rfl w.heap.size 31 i0 (.int .u32 0) 4 Tryz.underlying28 hi0 hz0 hz1 hz2 rfl _ 0 _ rfl hown0 (.int .u32 (hi % 4294967296)) (.int .u32 (4294967295 - lw)) rfl rfl rfl (by unfold maxLen; omega) (by omega) hsz ?_; intro v1 y1 hown1 hk1)
    | (at_builtin; refine wp_append1 _ rfl _ _ 28 rfl w.heap.size 31 i0 (.int .u32 0) 4 Tryz.underlying28 hi0 hz0 hz1 hz2 rfl _ 2 _ rfl hown1 (.int .u32 lw) rfl rfl (by decide) (by decide) (hc.trans hk1).size ?_; intro v2 y2 hown2 hk2))
  go_ret
  exact ⟨_, rfl, by rw [HZ.out]; exact hown2, ((hc.trans hk1).trans hk2)⟩
set_option maxRecDepth 100000 in
set_option maxHeartbeats 2000000 in
theorem inner_e_i2 (hi lo th lw : Int) (w : World) (hbd : (0 ≤ hi ∧ hi ≤ 18446744073709551615) ∧ (0 ≤ lo ∧ lo ≤ 18446744073709551615)) (hth : lo / 4294967296 = th) (hlw2 : lo % 4294967296 = lw) (hh : hi / 4294967296 = 536936448) (hk : th = 33578750) :
    Calls Tryz.prog 6 #[.iface 46 (.agg #[.int .u64 hi, .int .u64 lo])] w (RetFours w (innerZ hi lo)) := by
  obtain ⟨⟨h0, h1⟩, l0, l1⟩ := hbd
  obtain ⟨i0, hi0, hz0, hz1, hz2⟩ := info_parts Tryz.infoFour
  have hta := as66
  have hwl : IntKind.u32.wrap lo = lw := by rw [u32_wrap]; exact hlw2
  have hwd : IntKind.u32.wrap (hi / 65536) = hi / 65536 % 4294967296 := u32_wrap _
  have hwe : IntKind.u32.wrap hi = hi % 4294967296 := u32_wrap _
  have hA : inA hi th lw = [] := if_neg (by omega)
  have hB : inCo hi th lw = [] := if_neg (by omega)
  have hC : inC hi th lw = [] := if_neg (by omega)
  have hD : inD hi = [] := if_neg (by omega)
  have hE : inE hi lw = [hi % 4294967296, 4294967295 - lw] := if_pos (by omega)
  have hF : inF th lw = [lw] := if_pos (by omega)
  have HZ : Hid (innerZ hi lo = [hi % 4294967296, 4294967295 - lw, lw]) := by show innerZ hi lo = _; rw [innerZ, hth, hlw2, hA, hB, hC, hD, hE, hF]; rfl
  clear hA hB hC hD hE hF
  have ht0 : 0 ≤ th := by omega
  have ht1 : th ≤ 4294967295 := by omega
  have hw0 : 0 ≤ lw := by omega
  have hw1 : lw ≤ 4294967295 := by omega
  have q1 : ((hi) == (0 : Int)) = false := by rw [beq_eq_false_iff_ne]; omega
  have q2 : ((th) == (65535 : Int)) = false := by rw [beq_eq_false_iff_ne]; omega
  have q3 : ((th) == (0 : Int)) = false := by rw [beq_eq_false_iff_ne]; omega
  have q5 : ((hi) == (28428538856079360 : Int)) = false := by rw [beq_eq_false_iff_ne]; omega
  have q6 : ((hi / 281474976710656) == (8194 : Int)) = false := by rw [beq_eq_false_iff_ne]; omega
  have q7 : ((hi / 4294967296) == (536936448 : Int)) = true := by rw [beq_iff_eq]; omega
  have q8 : ((th) == (24318 : Int)) = false := by rw [beq_eq_false_iff_ne]; omega
  have q9 : ((th) == (33578750 : Int)) = true := by rw [beq_iff_eq]; omega
  have hxor := xor32 lw hw0 hw1
  clear hlw2 hh hk
  have hc1 : Below w.heap.size w (w.alloc (.cells #[.int .u64 hi, .int .u64 lo] 46)) := (Below.refl _ w).alloc (Nat.le_refl _) _
  go_enter Tryz.func6, Tryz.ntmps6
  go_wp2_with fail
  refine (wide6_any hi lo _).mono ?_
  rintro e x1 ⟨rfl, hb1⟩
  have hc : Below w.heap.size w x1 := hc1.trans (hb1.mono hc1.size)
  have hsz := hc.size
  clear hb1 hc1 hta
  have hown0 := World.ownsRow_nil x1 w.heap.size 31 1
  go_wp2_with (first
    | (at_builtin; refine wp_append2 _ rfl _ _ 28 rfl w.heap.size 31 i0 (.int .u32 0) 4 Tryz.underlying28 hi0 hz0 hz1 hz2 rfl _ 0 _ rfl hown0 (.int .u32 (hi % 4294967296)) (.int .u32 (4294967295 - lw)) rfl rfl rfl (by unfold maxLen; omega) (by omega) hsz ?_; intro v1 y1 hown1 hk1)
    | (at_builtin; refine wp_append1 _ rfl _ _ 28 rfl w.heap.size 31 i0 (.int .u32 0) 4 Tryz.underlying28 hi0 hz0 hz1 hz2 rfl _ 2 _ rfl hown1 (.int .u32 lw) rfl rfl (by decide) (by decide) (hc.trans hk1).size ?_; intro v2 y2 hown2 hk2))
  go_ret
  exact ⟨_, rfl, by rw [HZ.out]; exact hown2, ((hc.trans hk1).trans hk2)⟩
set_option maxRecDepth 100000 in
set_option maxHeartbeats 2000000 in
theorem inner_e_oth (hi lo th lw : Int) (w : World) (hbd : (0 ≤ hi ∧ hi ≤ 18446744073709551615) ∧ (0 ≤ lo ∧ lo ≤ 18446744073709551615)) (hth : lo / 4294967296 = th) (hlw2 : lo % 4294967296 = lw) (hh : hi / 4294967296 = 536936448) (hk : th ≠ 65535 ∧ th ≠ 0 ∧ th ≠ 24318 ∧ th ≠ 33578750) :
    Calls Tryz.prog 6 #[.iface 46 (.agg #[.int .u64 hi, .int .u64 lo])] w (RetFours w (innerZ hi lo)) := by
  obtain ⟨⟨h0, h1⟩, l0, l1⟩ := hbd
  obtain ⟨i0, hi0, hz0, hz1, hz2⟩ := info_parts Tryz.infoFour
  have hta := as66
  have hwl : IntKind.u32.wrap lo = lw := by rw [u32_wrap]; exact hlw2
  have hwd : IntKind.u32.wrap (hi / 65536) = hi / 65536 % 4294967296 := u32_wrap _
  have hwe : IntKind.u32.wrap hi = hi % 4294967296 := u32_wrap _
  have hA : inA hi th lw = [] := if_neg (by omega)
  have hB : inCo hi th lw = [] := if_neg (by omega)
  have hC : inC hi th lw = [] := if_neg (by omega)
  have hD : inD hi = [] := if_neg (by omega)
  have hE : inE hi lw = [hi % 4294967296, 4294967295 - lw] := if_pos (by omega)
  have hF : inF th lw = [] := if_neg (by omega)
  have HZ : Hid (innerZ hi lo = [hi % 4294967296, 4294967295 - lw]) := by show innerZ hi lo = _; rw [innerZ, hth, hlw2, hA, hB, hC, hD, hE, hF]; rfl
  clear hA hB hC hD hE hF
  have ht0 : 0 ≤ th := by omega
  have ht1 : th ≤ 4294967295 := by omega
  have hw0 : 0 ≤ lw := by omega
  have hw1 : lw ≤ 4294967295 := by omega
  have q1 : ((hi) == (0 : Int)) = false := by rw [beq_eq_false_iff_ne]; omega
  have q2 : ((th) == (65535 : Int)) = false := by rw [beq_eq_false_iff_ne]; omega
  have q3 : ((th) == (0 : Int)) = false := by rw [beq_eq_false_iff_ne]; omega
  have q5 : ((hi) == (28428538856079360 : Int)) = false := by rw [beq_eq_false_iff_ne]; omega
  have q6 : ((hi / 281474976710656) == (8194 : Int)) = false := by rw [beq_eq_false_iff_ne]; omega
  have q7 : ((hi / 4294967296) == (536936448 : Int)) = true := by rw [beq_iff_eq]; omega
  have q8 : ((th) == (24318 : Int)) = false := by rw [beq_eq_false_iff_ne]; omega
  have q9 : ((th) == (33578750 : Int)) = false := by rw [beq_eq_false_iff_ne]; omega
  have hxor := xor32 lw hw0 hw1
  clear hlw2 hh hk
  have hc1 : Below w.heap.size w (w.alloc (.cells #[.int .u64 hi, .int .u64 lo] 46)) := (Below.refl _ w).alloc (Nat.le_refl _) _
  go_enter Tryz.func6, Tryz.ntmps6
  go_wp2_with fail
  refine (wide6_any hi lo _).mono ?_
  rintro e x1 ⟨rfl, hb1⟩
  have hc : Below w.heap.size w x1 := hc1.trans (hb1.mono hc1.size)
  have hsz := hc.size
  clear hb1 hc1 hta
  have hown0 := World.ownsRow_nil x1 w.heap.size 31 1
  go_wp2_with (first
    | (at_builtin; refine wp_append2 _ rfl _ _ 28 rfl w.heap.size 31 i0 (.int .u32 0) 4 Tryz.underlying28 hi0 hz0 hz1 hz2 rfl _ 0 _ rfl hown0 (.int .u32 (hi % 4294967296)) (.int .u32 (4294967295 - lw)) rfl rfl rfl (by unfold maxLen; omega) (by omega) hsz ?_; intro v1 y1 hown1 hk1))
  go_ret
  exact ⟨_, rfl, by rw [HZ.out]; exact hown1, (hc.trans hk1)⟩
set_option maxRecDepth 100000 in
set_option maxHeartbeats 2000000 in
theorem inner_oth_ffff (hi lo th lw : Int) (w : World) (hbd : (0 ≤ hi ∧ hi ≤ 18446744073709551615) ∧ (0 ≤ lo ∧ lo ≤ 18446744073709551615)) (hth : lo / 4294967296 = th) (hlw2 : lo % 4294967296 = lw) (hh : hi ≠ 0 ∧ hi ≠ 28428538856079360 ∧ hi / 281474976710656 ≠ 8194 ∧ hi / 4294967296 ≠ 536936448) (hk : th = 65535) :
    Calls Tryz.prog 6 #[.iface 46 (.agg #[.int .u64 hi, .int .u64 lo])] w (RetFours w (innerZ hi lo)) := by
  obtain ⟨⟨h0, h1⟩, l0, l1⟩ := hbd
  obtain ⟨i0, hi0, hz0, hz1, hz2⟩ := info_parts Tryz.infoFour
  have hta := as66
  have hwl : IntKind.u32.wrap lo = lw := by rw [u32_wrap]; exact hlw2
  have hwd : IntKind.u32.wrap (hi / 65536) = hi / 65536 % 4294967296 := u32_wrap _
  have hwe : IntKind.u32.wrap hi = hi % 4294967296 := u32_wrap _
  have hA : inA hi th lw = [] := if_neg (by omega)
  have hB : inCo hi th lw = [] := if_neg (by omega)
  have hC : inC hi th lw = [] := if_neg (by omega)
  have hD : inD hi = [] := if_neg (by omega)
  have hE : inE hi lw = [] := if_neg (by omega)
  have hF : inF th lw = [] := if_neg (by omega)
  have HZ : Hid (innerZ hi lo = []) := by show innerZ hi lo = _; rw [innerZ, hth, hlw2, hA, hB, hC, hD, hE, hF]; rfl
  clear hA hB hC hD hE hF
  have ht0 : 0 ≤ th := by omega
  have ht1 : th ≤ 4294967295 := by omega
  have hw0 : 0 ≤ lw := by omega
  have hw1 : lw ≤ 4294967295 := by omega
  have q1 : ((hi) == (0 : Int)) = false := by rw [beq_eq_false_iff_ne]; omega
  have q2 : ((th) == (65535 : Int)) = true := by rw [beq_iff_eq]; omega
  have q3 : ((th) == (0 : Int)) = false := by rw [beq_eq_false_iff_ne]; omega
  have q5 : ((hi) == (28428538856079360 : Int)) = false := by rw [beq_eq_false_iff_ne]; omega
  have q6 : ((hi / 281474976710656) == (8194 : Int)) = false := by rw [beq_eq_false_iff_ne]; omega
  have q7 : ((hi / 4294967296) == (536936448 : Int)) = false := by rw [beq_eq_false_iff_ne]; omega
  have q8 : ((th) == (24318 : Int)) = false := by rw [beq_eq_false_iff_ne]; omega
  have q9 : ((th) == (33578750 : Int)) = false := by rw [beq_eq_false_iff_ne]; omega
  clear hlw2 hh hk
  have hc1 : Below w.heap.size w (w.alloc (.cells #[.int .u64 hi, .int .u64 lo] 46)) := (Below.refl _ w).alloc (Nat.le_refl _) _
  go_enter Tryz.func6, Tryz.ntmps6
  go_wp2_with fail
  refine (wide6_any hi lo _).mono ?_
  rintro e x1 ⟨rfl, hb1⟩
  have hc : Below w.heap.size w x1 := hc1.trans (hb1.mono hc1.size)
  have hsz := hc.size
  clear hb1 hc1 hta
  have hown0 := World.ownsRow_nil x1 w.heap.size 31 1
  go_wp2
  go_ret
  exact ⟨_, rfl, by rw [HZ.out]; exact Nums.nil _ _ _ _, hc⟩
set_option maxRecDepth 100000 in
set_option maxHeartbeats 2000000 in
theorem inner_oth_zero (hi lo th lw : Int) (w : World) (hbd : (0 ≤ hi ∧ hi ≤ 18446744073709551615) ∧ (0 ≤ lo ∧ lo ≤ 18446744073709551615)) (hth : lo / 4294967296 = th) (hlw2 : lo % 4294967296 = lw) (hh : hi ≠ 0 ∧ hi ≠ 28428538856079360 ∧ hi / 281474976710656 ≠ 8194 ∧ hi / 4294967296 ≠ 536936448) (hk : th = 0) :
    Calls Tryz.prog 6 #[.iface 46 (.agg #[.int .u64 hi, .int .u64 lo])] w (RetFours w (innerZ hi lo)) := by
  obtain ⟨⟨h0, h1⟩, l0, l1⟩ := hbd
  obtain ⟨i0, hi0, hz0, hz1, hz2⟩ := info_parts Tryz.infoFour
  have hta := as66
  have hwl : IntKind.u32.wrap lo = lw := by rw [u32_wrap]; exact hlw2
  have hwd : IntKind.u32.wrap (hi / 65536) = hi / 65536 % 4294967296 := u32_wrap _
  have hwe : IntKind.u32.wrap hi = hi % 4294967296 := u32_wrap _
  have hA : inA hi th lw = [] := if_neg (by omega)
  have hB : inCo hi th lw = [] := if_neg (by omega)
  have hC : inC hi th lw = [] := if_neg (by omega)
  have hD : inD hi = [] := if_neg (by omega)
  have hE : inE hi lw = [] := if_neg (by omega)
  have hF : inF th lw = [] := if_neg (by omega)
  have HZ : Hid (innerZ hi lo = []) := by show innerZ hi lo = _; rw [innerZ, hth, hlw2, hA, hB, hC, hD, hE, hF]; rfl
  clear hA hB hC hD hE hF
  have ht0 : 0 ≤ th := by omega
  have ht1 : th ≤ 4294967295 := by omega
  have hw0 : 0 ≤ lw := by omega
  have hw1 : lw ≤ 4294967295 := by omega
  have q1 : ((hi) == (0 : Int)) = false := by rw [beq_eq_false_iff_ne]; omega
  have q2 : ((th) == (65535 : Int)) = false := by rw [beq_eq_false_iff_ne]; omega
  have q3 : ((th) == (0 : Int)) = true := by rw [beq_iff_eq]; omega
  have q5 : ((hi) == (28428538856079360 : Int)) = false := by rw [beq_eq_false_iff_ne]; omega
  have q6 : ((hi / 281474976710656) == (8194 : Int)) = false := by rw [beq_eq_false_iff_ne]; omega
  have q7 : ((hi / 4294967296) == (536936448 : Int)) = false := by rw [beq_eq_false_iff_ne]; omega
  have q8 : ((th) == (24318 : Int)) = false := by rw [beq_eq_false_iff_ne]; omega
  have q9 : ((th) == (33578750 : Int)) = false := by rw [beq_eq_false_iff_ne]; omega
  clear hlw2 hh hk
  have hc1 : Below w.heap.size w (w.alloc (.cells #[.int .u64 hi, .int .u64 lo] 46)) := (Below.refl _ w).alloc (Nat.le_refl _) _
  go_enter Tryz.func6, Tryz.ntmps6
  go_wp2_with fail
  refine (wide6_any hi lo _).mono ?_
  rintro e x1 ⟨rfl, hb1⟩
  have hc : Below w.heap.size w x1 := hc1.trans (hb1.mono hc1.size)
  have hsz := hc.size
  clear hb1 hc1 hta
  have hown0 := World.ownsRow_nil x1 w.heap.size 31 1
  go_wp2
  go_ret
  exact ⟨_, rfl, by rw [HZ.out]; exact Nums.nil _ _ _ _, hc⟩
set_option maxRecDepth 100000 in
set_option maxHeartbeats 2000000 in
theorem inner_oth_i1 (hi lo th lw : Int) (w : World) (hbd : (0 ≤ hi ∧ hi ≤ 18446744073709551615) ∧ (0 ≤ lo ∧ lo ≤ 18446744073709551615)) (hth : lo / 4294967296 = th) (hlw2 : lo % 4294967296 = lw) (hh : hi ≠ 0 ∧ hi ≠ 28428538856079360 ∧ hi / 281474976710656 ≠ 8194 ∧ hi / 4294967296 ≠ 536936448) (hk : th = 24318) :
    Calls Tryz.prog 6 #[.iface 46 (.agg #[.int .u64 hi, .int .u64 lo])] w (RetFours w (innerZ hi lo)) := by
  obtain ⟨⟨h0, h1⟩, l0, l1⟩ := hbd
  obtain ⟨i0, hi0, hz0, hz1, hz2⟩ := info_parts Tryz.infoFour
  have hta := as66
  have hwl : IntKind.u32.wrap lo = lw := by rw [u32_wrap]; exact hlw2
  have hwd : IntKind.u32.wrap (hi / 65536) = hi / 65536 % 4294967296 := u32_wrap _
  have hwe : IntKind.u32.wrap hi = hi % 4294967296 := u32_wrap _
  have hA : inA hi th lw = [] := if_neg (by omega)
  have hB : inCo hi th lw = [] := if_neg (by omega)
  have hC : inC hi th lw = [] := if_neg (by omega)
  have hD : inD hi = [] := if_neg (by omega)
  have hE : inE hi lw = [] := if_neg (by omega)
  have hF : inF th lw = [lw] := if_pos (by omega)
  have HZ : Hid (innerZ hi lo = [lw]) := by show innerZ hi lo = _; rw [innerZ, hth, hlw2, hA, hB, hC, hD, hE, hF]; rfl
  clear hA hB hC hD hE hF
  have ht0 : 0 ≤ th := by omega
  have ht1 : th ≤ 4294967295 := by omega
  have hw0 : 0 ≤ lw := by omega
  have hw1 : lw ≤ 4294967295 := by omega
  have q1 : ((hi) == (0 : Int)) = false := by rw [beq_eq_false_iff_ne]; omega
  have q2 : ((th) == (65535 : Int)) = false := by rw [beq_eq_false_iff_ne]; omega
  have q3 : ((th) == (0 : Int)) = false := by rw [beq_eq_false_iff_ne]; omega
  have q5 : ((hi) == (28428538856079360 : Int)) = false := by rw [beq_eq_false_iff_ne]; omega
  have q6 : ((hi / 281474976710656) == (8194 : Int)) = false := by rw [beq_eq_false_iff_ne]; omega
  have q7 : ((hi / 4294967296) == (536936448 : Int)) = false := by rw [beq_eq_false_iff_ne]; omega
  have q8 : ((th) == (24318 : Int)) = true := by rw [beq_iff_eq]; omega
  have q9 : ((th) == (33578750 : Int)) = false := by rw [beq_eq_false_iff_ne]; omega
  clear hlw2 hh hk
  have hc1 : Below w.heap.size w (w.alloc (.cells #[.int .u64 hi, .int .u64 lo] 46)) := (Below.refl _ w).alloc (Nat.le_refl _) _
  go_enter Tryz.func6, Tryz.ntmps6
  go_wp2_with fail
  refine (wide6_any hi lo _).mono ?_
  rintro e x1 ⟨rfl, hb1⟩
  have hc : Below w.heap.size w x1 := hc1.trans (hb1.mono hc1.size)
  have hsz := hc.size
  clear hb1 hc1 hta
  have hown0 := World.ownsRow_nil x1 w.heap.size 31 1
  go_wp2_with (first
    | (at_builtin; refine wp_append1 _ rfl _ _ 28 rfl w.heap.size 31 i0 (.int .u32 0) 4 Tryz.underlying28 hi0 hz0 hz1 hz2 rfl _ 0 _ rfl hown0 (.int .u32 lw) rfl rfl (by decide) (by decide) hsz ?_; intro v1 y1 hown1 hk1))
  go_ret
  exact ⟨_, rfl, by rw [HZ.out]; exact hown1, (hc.trans hk1)⟩
set_option maxRecDepth 100000 in
set_option maxHeartbeats 2000000 in
theorem inner_oth_i2 (hi lo th lw : Int) (w : World) (hbd : (0 ≤ hi ∧ hi ≤ 18446744073709551615) ∧ (0 ≤ lo ∧ lo ≤ 18446744073709551615)) (hth : lo / 4294967296 = th) (hlw2 : lo % 4294967296 = lw) (hh : hi ≠ 0 ∧ hi ≠ 28428538856079360 ∧ hi / 281474976710656 ≠ 8194 ∧ hi / 4294967296 ≠ 536936448) (hk : th = 33578750) :
    Calls Tryz.prog 6 #[.iface 46 (.agg #[.int .u64 hi, .int .u64 lo])] w (RetFours w (innerZ hi lo)) := by
  obtain ⟨⟨h0, h1⟩, l0, l1⟩ := hbd
  obtain ⟨i0, hi0, hz0, hz1, hz2⟩ := info_parts Tryz.infoFour
  have hta := as66
  have hwl : IntKind.u32.wrap lo = lw := by rw [u32_wrap]; exact hlw2
  have hwd : IntKind.u32.wrap (hi / 65536) = hi / 65536 % 4294967296 := u32_wrap _
  have hwe : IntKind.u32.wrap hi = hi % 4294967296 := u32_wrap _
  have hA : inA hi th lw = [] := if_neg (by omega)
  have hB : inCo hi th lw = [] := if_neg (by omega)
  have hC : inC hi th lw = [] := if_neg (by omega)
  have hD : inD hi = [] := if_neg (by omega)
  have hE : inE hi lw = [] := if_neg (by omega)
  have hF : inF th lw = [lw] := if_pos (by omega)
  have HZ : Hid (innerZ hi lo = [lw]) := by show innerZ hi lo = _; rw [innerZ, hth, hlw2, hA, hB, hC, hD, hE, hF]; rfl
  clear hA hB hC hD hE hF
  have ht0 : 0 ≤ th := by omega
  have ht1 : th ≤ 4294967295 := by omega
  have hw0 : 0 ≤ lw := by omega
  have hw1 : lw ≤ 4294967295 := by omega
  have q1 : ((hi) == (0 : Int)) = false := by rw [beq_eq_false_iff_ne]; omega
  have q2 : ((th) == (65535 : Int)) = false := by rw [beq_eq_false_iff_ne]; omega
  have q3 : ((th) == (0 : Int)) = false := by rw [beq_eq_false_iff_ne]; omega
  have q5 : ((hi) == (28428538856079360 : Int)) = false := by rw [beq_eq_false_iff_ne]; omega
  have q6 : ((hi / 281474976710656) == (8194 : Int)) = false := by rw [beq_eq_false_iff_ne]; omega
  have q7 : ((hi / 4294967296) == (536936448 : Int)) = false := by rw [beq_eq_false_iff_ne]; omega
  have q8 : ((th) == (24318 : Int)) = false := by rw [beq_eq_false_iff_ne]; omega
  have q9 : ((th) == (33578750 : Int)) = true := by rw [beq_iff_eq]; omega
  clear hlw2 hh hk
  have hc1 : Below w.heap.size w (w.alloc (.cells #[.int .u64 hi, .int .u64 lo] 46)) := (Below.refl _ w).alloc (Nat.le_refl _) _
  go_enter Tryz.func6, Tryz.ntmps6
  go_wp2_with fail
  refine (wide6_any hi lo _).mono ?_
  rintro e x1 ⟨rfl, hb1⟩
  have hc : Below w.heap.size w x1 := hc1.trans (hb1.mono hc1.size)
  have hsz := hc.size
  clear hb1 hc1 hta
  have hown0 := World.ownsRow_nil x1 w.heap.size 31 1
  go_wp2_with (first
    | (at_builtin; refine wp_append1 _ rfl _ _ 28 rfl w.heap.size 31 i0 (.int .u32 0) 4 Tryz.underlying28 hi0 hz0 hz1 hz2 rfl _ 0 _ rfl hown0 (.int .u32 lw) rfl rfl (by decide) (by decide) hsz ?_; intro v1 y1 hown1 hk1))
  go_ret
  exact ⟨_, rfl, by rw [HZ.out]; exact hown1, (hc.trans hk1)⟩
set_option maxRecDepth 100000 in
set_option maxHeartbeats 2000000 in
theorem inner_oth_oth (hi lo th lw : Int) (w : World) (hbd : (0 ≤ hi ∧ hi ≤ 18446744073709551615) ∧ (0 ≤ lo ∧ lo ≤ 18446744073709551615)) (hth : lo / 4294967296 = th) (hlw2 : lo % 4294967296 = lw) (hh : hi ≠ 0 ∧ hi ≠ 28428538856079360 ∧ hi / 281474976710656 ≠ 8194 ∧ hi / 4294967296 ≠ 536936448) (hk : th ≠ 65535 ∧ th ≠ 0 ∧ th ≠ 24318 ∧ th ≠ 33578750) :
    Calls Tryz.prog 6 #[.iface 46 (.agg #[.int .u64 hi, .int .u64 lo])] w (RetFours w (innerZ hi lo)) := by
  obtain ⟨⟨h0, h1⟩, l0, l1⟩ := hbd
  obtain ⟨i0, hi0, hz0, hz1, hz2⟩ := info_parts Tryz.infoFour
  have hta := as66
  have hwl : IntKind.u32.wrap lo = lw := by rw [u32_wrap]; exact hlw2
  have hwd : IntKind.u32.wrap (hi / 65536) = hi / 65536 % 4294967296 := u32_wrap _
  have hwe : IntKind.u32.wrap hi = hi % 4294967296 := u32_wrap _
  have hA : inA hi th lw = [] := if_neg (by omega)
  have hB : inCo hi th lw = [] := if_neg (by omega)
  have hC : inC hi th lw = [] := if_neg (by omega)
  have hD : inD hi = [] := if_neg (by omega)
  have hE : inE hi lw = [] := if_neg (by omega)
  have hF : inF th lw = [] := if_neg (by omega)
  have HZ : Hid (innerZ hi lo = []) := by show innerZ hi lo = _; rw [innerZ, hth, hlw2, hA, hB, hC, hD, hE, hF]; rfl
  clear hA hB hC hD hE hF
  have ht0 : 0 ≤ th := by omega
  have ht1 : th ≤ 4294967295 := by omega
  have hw0 : 0 ≤ lw := by omega
  have hw1 : lw ≤ 4294967295 := by omega
  have q1 : ((hi) == (0 : Int)) = false := by rw [beq_eq_false_iff_ne]; omega
  have q2 : ((th) == (65535 : Int)) = false := by rw [beq_eq_false_iff_ne]; omega
  have q3 : ((th) == (0 : Int)) = false := by rw [beq_eq_false_iff_ne]; omega
  have q5 : ((hi) == (28428538856079360 : Int)) = false := by rw [beq_eq_false_iff_ne]; omega
  have q6 : ((hi / 281474976710656) == (8194 : Int)) = false := by rw [beq_eq_false_iff_ne]; omega
  have q7 : ((hi / 4294967296) == (536936448 : Int)) = false := by rw [beq_eq_false_iff_ne]; omega
  have q8 : ((th) == (24318 : Int)) = false := by rw [beq_eq_false_iff_ne]; omega
  have q9 : ((th) == (33578750 : Int)) = false := by rw [beq_eq_false_iff_ne]; omega
  clear hlw2 hh hk
  have hc1 : Below w.heap.size w (w.alloc (.cells #[.int .u64 hi, .int .u64 lo] 46)) := (Below.refl _ w).alloc (Nat.le_refl _) _
  go_enter Tryz.func6, Tryz.ntmps6
  go_wp2_with fail
  refine (wide6_any hi lo _).mono ?_
  rintro e x1 ⟨rfl, hb1⟩
  have hc : Below w.heap.size w x1 := hc1.trans (hb1.mono hc1.size)
  have hsz := hc.size
  clear hb1 hc1 hta
  have hown0 := World.ownsRow_nil x1 w.heap.size 31 1
  go_wp2
  go_ret
  exact ⟨_, rfl, by rw [HZ.out]; exact Nums.nil _ _ _ _, hc⟩

theorem inner_six (hi lo : Int) (w : World) (h0 : 0 ≤ hi) (h1 : hi ≤ 18446744073709551615) (l0 : 0 ≤ lo) (l1 : lo ≤ 18446744073709551615) :
    Calls Tryz.prog 6 #[.iface 46 (.agg #[.int .u64 hi, .int .u64 lo])] w (RetFours w (innerZ hi lo)) := by
  obtain ⟨th, hth⟩ : ∃ th, lo / 4294967296 = th := ⟨_, rfl⟩
  obtain ⟨lw, hlw⟩ : ∃ lw, lo % 4294967296 = lw := ⟨_, rfl⟩
  rcases (show hi = 0 ∨ hi = 28428538856079360 ∨ hi / 281474976710656 = 8194 ∨ hi / 4294967296 = 536936448 ∨ (hi ≠ 0 ∧ hi ≠ 28428538856079360 ∧ hi / 281474976710656 ≠ 8194 ∧ hi / 4294967296 ≠ 536936448) from by omega) with hh | hh | hh | hh | hh
  · rcases (show th = 65535 ∨ th = 0 ∨ th = 24318 ∨ th = 33578750 ∨ (th ≠ 65535 ∧ th ≠ 0 ∧ th ≠ 24318 ∧ th ≠ 33578750) from by omega) with hk | hk | hk | hk | hk
    · exact inner_zero_ffff hi lo th lw w ⟨⟨h0, h1⟩, l0, l1⟩ hth hlw hh hk
    · by_cases hl : 1 < lw
      · exact inner_zero_zero_lw hi lo th lw w ⟨⟨h0, h1⟩, l0, l1⟩ hth hlw hh hk hl
      · exact inner_zero_zero hi lo th lw w ⟨⟨h0, h1⟩, l0, l1⟩ hth hlw hh hk (by omega)
    · exact inner_zero_i1 hi lo th lw w ⟨⟨h0, h1⟩, l0, l1⟩ hth hlw hh hk
    · exact inner_zero_i2 hi lo th lw w ⟨⟨h0, h1⟩, l0, l1⟩ hth hlw hh hk
    · exact inner_zero_oth hi lo th lw w ⟨⟨h0, h1⟩, l0, l1⟩ hth hlw hh hk
  · rcases (show th = 65535 ∨ th = 0 ∨ th = 24318 ∨ th = 33578750 ∨ (th ≠ 65535 ∧ th ≠ 0 ∧ th ≠ 24318 ∧ th ≠ 33578750) from by omega) with hk | hk | hk | hk | hk
    · exact inner_tr_ffff hi lo th lw w ⟨⟨h0, h1⟩, l0, l1⟩ hth hlw hh hk
    · exact inner_tr_zero hi lo th lw w ⟨⟨h0, h1⟩, l0, l1⟩ hth hlw hh hk
    · exact inner_tr_i1 hi lo th lw w ⟨⟨h0, h1⟩, l0, l1⟩ hth hlw hh hk
    · exact inner_tr_i2 hi lo th lw w ⟨⟨h0, h1⟩, l0, l1⟩ hth hlw hh hk
    · exact inner_tr_oth hi lo th lw w ⟨⟨h0, h1⟩, l0, l1⟩ hth hlw hh hk
  · rcases (show th = 65535 ∨ th = 0 ∨ th = 24318 ∨ th = 33578750 ∨ (th ≠ 65535 ∧ th ≠ 0 ∧ th ≠ 24318 ∧ th ≠ 33578750) from by omega) with hk | hk | hk | hk | hk
    · exact inner_d_ffff hi lo th lw w ⟨⟨h0, h1⟩, l0, l1⟩ hth hlw hh hk
    · exact inner_d_zero hi lo th lw w ⟨⟨h0, h1⟩, l0, l1⟩ hth hlw hh hk
    · exact inner_d_i1 hi lo th lw w ⟨⟨h0, h1⟩, l0, l1⟩ hth hlw hh hk
    · exact inner_d_i2 hi lo th lw w ⟨⟨h0, h1⟩, l0, l1⟩ hth hlw hh hk
    · exact inner_d_oth hi lo th lw w ⟨⟨h0, h1⟩, l0, l1⟩ hth hlw hh hk
  · rcases (show th = 65535 ∨ th = 0 ∨ th = 24318 ∨ th = 33578750 ∨ (th ≠ 65535 ∧ th ≠ 0 ∧ th ≠ 24318 ∧ th ≠ 33578750) from by omega) with hk | hk | hk | hk | hk
    · exact inner_e_ffff hi lo th lw w ⟨⟨h0, h1⟩, l0, l1⟩ hth hlw hh hk
    · exact inner_e_zero hi lo th lw w ⟨⟨h0, h1⟩, l0, l1⟩ hth hlw hh hk
    · exact inner_e_i1 hi lo th lw w ⟨⟨h0, h1⟩, l0, l1⟩ hth hlw hh hk
    · exact inner_e_i2 hi lo th lw w ⟨⟨h0, h1⟩, l0, l1⟩ hth hlw hh hk
    · exact inner_e_oth hi lo th lw w ⟨⟨h0, h1⟩, l0, l1⟩ hth hlw hh hk
  · rcases (show th = 65535 ∨ th = 0 ∨ th = 24318 ∨ th = 33578750 ∨ (th ≠ 65535 ∧ th ≠ 0 ∧ th ≠ 24318 ∧ th ≠ 33578750) from by omega) with hk | hk | hk | hk | hk
    · exact inner_oth_ffff hi lo th lw w ⟨⟨h0, h1⟩, l0, l1⟩ hth hlw hh hk
    · exact inner_oth_zero hi lo th lw w ⟨⟨h0, h1⟩, l0, l1⟩ hth hlw hh hk
    · exact inner_oth_i1 hi lo th lw w ⟨⟨h0, h1⟩, l0, l1⟩ hth hlw hh hk
    · exact inner_oth_i2 hi lo th lw w ⟨⟨h0, h1⟩, l0, l1⟩ hth hlw hh hk
    · exact inner_oth_oth hi lo th lw w ⟨⟨h0, h1⟩, l0, l1⟩ hth hlw hh hk
end Go.Proofs.YtgmfgcpfpopboaaGreatDoor
