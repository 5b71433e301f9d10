/-
  The law PrefixNests: its Go text returns true at any numbers, where the library's tables read as they are laid; nothing that lay in memory before is changed.
-/
import Derived.Test.YthdcldkcmnpkiaaDoorPreN
namespace Go.Proofs.YthdcldkcmnpkiaaDoor
open Go.RowKit


theorem blks_two {L : List (Nat × Array Value × TypeId)} {x : World} (h : Blks L x) (c c' : Array Value) (t t' : TypeId) : Blks ((x.heap.size + 1, c', t') :: (x.heap.size, c, t) :: L) ((x.alloc (.cells c t)).alloc (.cells c' t')) := by
  have := (h.new c t).new c' t'
  rw [show (x.alloc (.cells c t)).heap.size = x.heap.size + 1 by simp] at this
  exact this
theorem nest_cov (X Y i k : Nat) (_ : i ≤ 128) (hk : k ≤ 128) : coversB (ofW X i) i (ofW Y k) k = (decide (i ≤ k) && pHasB (ofW X i) i Y) := by
  rw [Bool.eq_iff_iff, coversB_nat, Bool.and_eq_true, decide_eq_true_iff, pHasB_nat]
  constructor
  · rintro ⟨a, _, c, d⟩
    exact ⟨c, a, d.trans (ofW_short Y i k c hk)⟩
  · rintro ⟨c, a, d⟩
    exact ⟨a, ⟨hk, rt_of _ _⟩, c, d.trans (ofW_short Y i k c hk).symm⟩
theorem nest_own (X i : Nat) (hi : i ≤ 128) : pHasB (ofW X i) i X = true := pHasB_nat.2 ⟨⟨hi, rt_of _ _⟩, qt_of _ _⟩
theorem nest_two (X Y i k : Nat) (hi : i ≤ 128) (hk : k ≤ 128) (hq : pHasB (ofW Y k) k X = true) (hc : coversB (ofW X i) i (ofW Y k) k = false) : coversB (ofW Y k) k (ofW X i) i = true := by
  rw [nest_cov _ _ _ _ hk hi, Bool.and_eq_true, decide_eq_true_iff]
  refine ⟨?_, hq⟩
  rcases Nat.lt_or_ge i k with g | g
  · rw [nest_cov _ _ _ _ hi hk, decide_eq_true (by omega : i ≤ k), Bool.true_and] at hc
    have e : qt (ofW X i) i = qt Y i := by
      have := (pHasB_nat.1 hq).2
      rw [qt_of] at this
      rw [qt_of]
      exact (qt_short (by omega) hk this).symm
    rw [pHasB_nat.2 ⟨⟨hi, rt_of _ _⟩, e⟩] at hc; cases hc
  · exact g

set_option maxRecDepth 100000 in
set_option maxHeartbeats 8000000 in
theorem nests_aff (hi lo ho hl n m i k ph pl qh ql rh rl : Nat) (X : List UInt8) (w : World) (hbru : BruTab w) (hmax : MaxVar w) (hn : n ≤ 255) (hm : m ≤ 255) (hni : (n : Int) % 129 = (i : Nat)) (hmk : (m : Int) % 129 = (k : Nat)) (hle' : decide (i ≤ k) = true)
    (HOp : Hid (∀ W, Calls Tryd.prog 6 #[.iface 25 (.agg #[.int .u64 (hi : Nat), .int .u64 (lo : Nat)]), .int .i64 (i : Nat)] W fun e w' => e = .returned (.tuple #[.agg #[.int .u64 (ph : Nat), .int .u64 (pl : Nat), .int .i64 (i : Nat)], .bool true]) ∧ Below W.heap.size W w'))
    (HOq : Hid (∀ W, Calls Tryd.prog 6 #[.iface 25 (.agg #[.int .u64 (ho : Nat), .int .u64 (hl : Nat)]), .int .i64 (k : Nat)] W fun e w' => e = .returned (.tuple #[.agg #[.int .u64 (qh : Nat), .int .u64 (ql : Nat), .int .i64 (k : Nat)], .bool true]) ∧ Below W.heap.size W w'))
    (HOr : Hid (∀ W, Calls Tryd.prog 6 #[.iface 25 (.agg #[.int .u64 (hi : Nat), .int .u64 (lo : Nat)]), .int .i64 (k : Nat)] W fun e w' => e = .returned (.tuple #[.agg #[.int .u64 (rh : Nat), .int .u64 (rl : Nat), .int .i64 (k : Nat)], .bool true]) ∧ Below W.heap.size W w'))
    (HRp : Hid (∀ W, Calls Tryd.prog 7 #[.agg #[.int .u64 (ph : Nat), .int .u64 (pl : Nat), .int .i64 (i : Nat)]] W fun e w' => e = .returned (.bool true) ∧ Below W.heap.size W w'))
    (HHpa : Hid (∀ W, Calls Tryd.prog 8 #[.agg #[.int .u64 (ph : Nat), .int .u64 (pl : Nat), .int .i64 (i : Nat)], .iface 25 (.agg #[.int .u64 (hi : Nat), .int .u64 (lo : Nat)])] W fun e w' => e = .returned (.bool true) ∧ Below W.heap.size W w'))
    (HHqb : Hid (∀ W, Calls Tryd.prog 8 #[.agg #[.int .u64 (qh : Nat), .int .u64 (ql : Nat), .int .i64 (k : Nat)], .iface 25 (.agg #[.int .u64 (ho : Nat), .int .u64 (hl : Nat)])] W fun e w' => e = .returned (.bool true) ∧ Below W.heap.size W w'))
    (HCpr : Hid (∀ W, Calls Tryd.prog 9 #[.agg #[.int .u64 (ph : Nat), .int .u64 (pl : Nat), .int .i64 (i : Nat)], .agg #[.int .u64 (rh : Nat), .int .u64 (rl : Nat), .int .i64 (k : Nat)]] W fun e w' => e = .returned (.bool true) ∧ Below W.heap.size W w'))
    (HCpq : Hid (∀ W, Calls Tryd.prog 9 #[.agg #[.int .u64 (ph : Nat), .int .u64 (pl : Nat), .int .i64 (i : Nat)], .agg #[.int .u64 (qh : Nat), .int .u64 (ql : Nat), .int .i64 (k : Nat)]] W fun e w' => e = .returned (.bool true) ∧ Below W.heap.size W w'))
    (HHqa : Hid (∀ W, Calls Tryd.prog 8 #[.agg #[.int .u64 (qh : Nat), .int .u64 (ql : Nat), .int .i64 (k : Nat)], .iface 25 (.agg #[.int .u64 (hi : Nat), .int .u64 (lo : Nat)])] W fun e w' => e = .returned (.bool false) ∧ Below W.heap.size W w'))
    (HHpb : Hid (∀ W, Calls Tryd.prog 8 #[.agg #[.int .u64 (ph : Nat), .int .u64 (pl : Nat), .int .i64 (i : Nat)], .iface 25 (.agg #[.int .u64 (ho : Nat), .int .u64 (hl : Nat)])] W fun e w' => e = .returned (.bool true) ∧ Below W.heap.size W w'))
    (HTx : Hid (∀ W, Below w.heap.size w W → Calls Tryd.prog 11 #[.agg #[.int .u64 (ph : Nat), .int .u64 (pl : Nat), .int .i64 (i : Nat)]] W (RetStr W X)))
    (HPs : Hid (∀ W, Below w.heap.size w W → Calls Tryd.prog 10 #[.string ⟨X.toArray⟩] W fun e w' => e = .returned (.tuple #[.agg #[.int .u64 (ph : Nat), .int .u64 (pl : Nat), .int .i64 (i : Nat)], .bool true]) ∧ Below W.heap.size W w')) :
    Calls Tryd.prog 3 #[.int .u64 (hi : Nat), .int .u64 (lo : Nat), .int .u64 (ho : Nat), .int .u64 (hl : Nat), .int .u8 (n : Nat), .int .u8 (m : Nat)] w fun e w' => e = .returned (.bool true) ∧ Below w.heap.size w w' := by
  have HT := Lib.hid hbru
  have HX := Lib.hid hmax
  clear hbru hmax
  have heq : ∀ W : World, (binOp .eql 27 (.agg #[.int .u64 (ph : Nat), .int .u64 (pl : Nat), .int .i64 (i : Nat)]) (.agg #[.int .u64 (ph : Nat), .int .u64 (pl : Nat), .int .i64 (i : Nat)])).run Tryd.prog W = .ok (.bool true) W := fun W => by rw [eqPf]; simp
  have hg := eqPf_guard
  go_enter Tryd.func3, Tryd.ntmps3
  go_wp2_with fail
  refine (awake07_any _ HT.out HX.out).mono ?_
  rintro e x1 ⟨rfl, hb1⟩
  have HB1 := Lib.hid (blks_two (Blks.empty x1) #[.int .u64 (hi : Nat), .int .u64 (lo : Nat)] #[.int .u64 (ho : Nat), .int .u64 (hl : Nat)] 25 25)
  have hc1 : Below w.heap.size w ((x1.alloc (.cells #[.int .u64 (hi : Nat), .int .u64 (lo : Nat)] 25)).alloc (.cells #[.int .u64 (ho : Nat), .int .u64 (hl : Nat)] 25)) := (hb1.alloc hb1.size _).alloc (hb1.alloc hb1.size (.cells #[.int .u64 (hi : Nat), .int .u64 (lo : Nat)] 25)).size _
  go_wp2_with fail
  refine (HOp.out _).mono ?_
  rintro e x2 ⟨rfl, hb2⟩
  have HB2 := Lib.hid (HB1.out.keep hb2)
  have hc2 := below_chain7 hc1 hb2
  generalize x1.heap.size + 1 = gb at *
  generalize x1.heap.size = ga at *
  clear HB1 hb2 hb1 hc1
  obtain ⟨lt_ga_2, c0_ga_2, c1_ga_2⟩ := HB2.out.r2 (b := ga) (by repeat first | exact .head _ | apply List.Mem.tail)
  obtain ⟨lt_gb_2, c0_gb_2, c1_gb_2⟩ := HB2.out.r2 (b := gb) (by repeat first | exact .head _ | apply List.Mem.tail)
  have HN3 := Lib.hid (HB2.out.new #[.int .u64 (ph : Nat), .int .u64 (pl : Nat), .int .i64 (i : Nat)] 27)
  have hd3 := hc2.alloc hc2.size (.cells #[.int .u64 (ph : Nat), .int .u64 (pl : Nat), .int .i64 (i : Nat)] 27)
  go_wp2_with fail
  refine (HOq.out _).mono ?_
  rintro e x3 ⟨rfl, hb3⟩
  have HB3 := Lib.hid (HN3.out.keep hb3)
  have hc3 := below_chain7 hd3 hb3
  generalize x2.heap.size = gp at *
  clear lt_ga_2 c0_ga_2 c1_ga_2 lt_gb_2 c0_gb_2 c1_gb_2
  clear HN3 HB2 hb3 hd3 hc2
  obtain ⟨lt_ga_3, c0_ga_3, c1_ga_3⟩ := HB3.out.r2 (b := ga) (by repeat first | exact .head _ | apply List.Mem.tail)
  obtain ⟨lt_gb_3, c0_gb_3, c1_gb_3⟩ := HB3.out.r2 (b := gb) (by repeat first | exact .head _ | apply List.Mem.tail)
  obtain ⟨lt_gp_3, c0_gp_3, c1_gp_3, c2_gp_3⟩ := HB3.out.r3 (b := gp) (by repeat first | exact .head _ | apply List.Mem.tail)
  have HN4 := Lib.hid (HB3.out.new #[.int .u64 (qh : Nat), .int .u64 (ql : Nat), .int .i64 (k : Nat)] 27)
  have hd4 := hc3.alloc hc3.size (.cells #[.int .u64 (qh : Nat), .int .u64 (ql : Nat), .int .i64 (k : Nat)] 27)
  go_wp2_with fail
  refine (HOr.out _).mono ?_
  rintro e x4 ⟨rfl, hb4⟩
  have HB4 := Lib.hid (HN4.out.keep hb4)
  have hc4 := below_chain7 hd4 hb4
  generalize x3.heap.size = gq at *
  clear lt_ga_3 c0_ga_3 c1_ga_3 lt_gb_3 c0_gb_3 c1_gb_3 lt_gp_3 c0_gp_3 c1_gp_3 c2_gp_3
  clear HN4 HB3 hb4 hd4 hc3
  obtain ⟨lt_ga_4, c0_ga_4, c1_ga_4⟩ := HB4.out.r2 (b := ga) (by repeat first | exact .head _ | apply List.Mem.tail)
  obtain ⟨lt_gb_4, c0_gb_4, c1_gb_4⟩ := HB4.out.r2 (b := gb) (by repeat first | exact .head _ | apply List.Mem.tail)
  obtain ⟨lt_gp_4, c0_gp_4, c1_gp_4, c2_gp_4⟩ := HB4.out.r3 (b := gp) (by repeat first | exact .head _ | apply List.Mem.tail)
  obtain ⟨lt_gq_4, c0_gq_4, c1_gq_4, c2_gq_4⟩ := HB4.out.r3 (b := gq) (by repeat first | exact .head _ | apply List.Mem.tail)
  have HN5 := Lib.hid (HB4.out.new #[.int .u64 (rh : Nat), .int .u64 (rl : Nat), .int .i64 (k : Nat)] 27)
  have hd5 := hc4.alloc hc4.size (.cells #[.int .u64 (rh : Nat), .int .u64 (rl : Nat), .int .i64 (k : Nat)] 27)
  go_wp2_with fail
  refine (HRp.out _).mono ?_
  rintro e x5 ⟨rfl, hb5⟩
  have HB5 := Lib.hid (HN5.out.keep hb5)
  have hc5 := below_chain7 hd5 hb5
  generalize x4.heap.size = gr at *
  clear lt_ga_4 c0_ga_4 c1_ga_4 lt_gb_4 c0_gb_4 c1_gb_4 lt_gp_4 c0_gp_4 c1_gp_4 c2_gp_4 lt_gq_4 c0_gq_4 c1_gq_4 c2_gq_4
  clear HN5 HB4 hb5 hd5 hc4
  obtain ⟨lt_ga_5, c0_ga_5, c1_ga_5⟩ := HB5.out.r2 (b := ga) (by repeat first | exact .head _ | apply List.Mem.tail)
  obtain ⟨lt_gb_5, c0_gb_5, c1_gb_5⟩ := HB5.out.r2 (b := gb) (by repeat first | exact .head _ | apply List.Mem.tail)
  obtain ⟨lt_gp_5, c0_gp_5, c1_gp_5, c2_gp_5⟩ := HB5.out.r3 (b := gp) (by repeat first | exact .head _ | apply List.Mem.tail)
  obtain ⟨lt_gq_5, c0_gq_5, c1_gq_5, c2_gq_5⟩ := HB5.out.r3 (b := gq) (by repeat first | exact .head _ | apply List.Mem.tail)
  obtain ⟨lt_gr_5, c0_gr_5, c1_gr_5, c2_gr_5⟩ := HB5.out.r3 (b := gr) (by repeat first | exact .head _ | apply List.Mem.tail)
  go_wp2_with fail
  refine (HHpa.out _).mono ?_
  rintro e x6 ⟨rfl, hb6⟩
  have HB6 := Lib.hid (HB5.out.keep hb6)
  have hc6 := below_chain7 hc5 hb6
  clear lt_ga_5 c0_ga_5 c1_ga_5 lt_gb_5 c0_gb_5 c1_gb_5 lt_gp_5 c0_gp_5 c1_gp_5 c2_gp_5 lt_gq_5 c0_gq_5 c1_gq_5 c2_gq_5 lt_gr_5 c0_gr_5 c1_gr_5 c2_gr_5
  clear HB5 hb6 hc5
  obtain ⟨lt_ga_6, c0_ga_6, c1_ga_6⟩ := HB6.out.r2 (b := ga) (by repeat first | exact .head _ | apply List.Mem.tail)
  obtain ⟨lt_gb_6, c0_gb_6, c1_gb_6⟩ := HB6.out.r2 (b := gb) (by repeat first | exact .head _ | apply List.Mem.tail)
  obtain ⟨lt_gp_6, c0_gp_6, c1_gp_6, c2_gp_6⟩ := HB6.out.r3 (b := gp) (by repeat first | exact .head _ | apply List.Mem.tail)
  obtain ⟨lt_gq_6, c0_gq_6, c1_gq_6, c2_gq_6⟩ := HB6.out.r3 (b := gq) (by repeat first | exact .head _ | apply List.Mem.tail)
  obtain ⟨lt_gr_6, c0_gr_6, c1_gr_6, c2_gr_6⟩ := HB6.out.r3 (b := gr) (by repeat first | exact .head _ | apply List.Mem.tail)
  go_wp2_with fail
  refine (HHqb.out _).mono ?_
  rintro e x7 ⟨rfl, hb7⟩
  have HB7 := Lib.hid (HB6.out.keep hb7)
  have hc7 := below_chain7 hc6 hb7
  clear lt_ga_6 c0_ga_6 c1_ga_6 lt_gb_6 c0_gb_6 c1_gb_6 lt_gp_6 c0_gp_6 c1_gp_6 c2_gp_6 lt_gq_6 c0_gq_6 c1_gq_6 c2_gq_6 lt_gr_6 c0_gr_6 c1_gr_6 c2_gr_6
  clear HB6 hb7 hc6
  obtain ⟨lt_ga_7, c0_ga_7, c1_ga_7⟩ := HB7.out.r2 (b := ga) (by repeat first | exact .head _ | apply List.Mem.tail)
  obtain ⟨lt_gb_7, c0_gb_7, c1_gb_7⟩ := HB7.out.r2 (b := gb) (by repeat first | exact .head _ | apply List.Mem.tail)
  obtain ⟨lt_gp_7, c0_gp_7, c1_gp_7, c2_gp_7⟩ := HB7.out.r3 (b := gp) (by repeat first | exact .head _ | apply List.Mem.tail)
  obtain ⟨lt_gq_7, c0_gq_7, c1_gq_7, c2_gq_7⟩ := HB7.out.r3 (b := gq) (by repeat first | exact .head _ | apply List.Mem.tail)
  obtain ⟨lt_gr_7, c0_gr_7, c1_gr_7, c2_gr_7⟩ := HB7.out.r3 (b := gr) (by repeat first | exact .head _ | apply List.Mem.tail)
  go_wp2_with fail
  refine (HCpr.out _).mono ?_
  rintro e x8 ⟨rfl, hb8⟩
  have HB8 := Lib.hid (HB7.out.keep hb8)
  have hc8 := below_chain7 hc7 hb8
  clear lt_ga_7 c0_ga_7 c1_ga_7 lt_gb_7 c0_gb_7 c1_gb_7 lt_gp_7 c0_gp_7 c1_gp_7 c2_gp_7 lt_gq_7 c0_gq_7 c1_gq_7 c2_gq_7 lt_gr_7 c0_gr_7 c1_gr_7 c2_gr_7
  clear HB7 hb8 hc7
  obtain ⟨lt_ga_8, c0_ga_8, c1_ga_8⟩ := HB8.out.r2 (b := ga) (by repeat first | exact .head _ | apply List.Mem.tail)
  obtain ⟨lt_gb_8, c0_gb_8, c1_gb_8⟩ := HB8.out.r2 (b := gb) (by repeat first | exact .head _ | apply List.Mem.tail)
  obtain ⟨lt_gp_8, c0_gp_8, c1_gp_8, c2_gp_8⟩ := HB8.out.r3 (b := gp) (by repeat first | exact .head _ | apply List.Mem.tail)
  obtain ⟨lt_gq_8, c0_gq_8, c1_gq_8, c2_gq_8⟩ := HB8.out.r3 (b := gq) (by repeat first | exact .head _ | apply List.Mem.tail)
  obtain ⟨lt_gr_8, c0_gr_8, c1_gr_8, c2_gr_8⟩ := HB8.out.r3 (b := gr) (by repeat first | exact .head _ | apply List.Mem.tail)
  go_wp2_with fail
  refine (HCpq.out _).mono ?_
  rintro e x9 ⟨rfl, hb9⟩
  have HB9 := Lib.hid (HB8.out.keep hb9)
  have hc9 := below_chain7 hc8 hb9
  clear lt_ga_8 c0_ga_8 c1_ga_8 lt_gb_8 c0_gb_8 c1_gb_8 lt_gp_8 c0_gp_8 c1_gp_8 c2_gp_8 lt_gq_8 c0_gq_8 c1_gq_8 c2_gq_8 lt_gr_8 c0_gr_8 c1_gr_8 c2_gr_8
  clear HB8 hb9 hc8
  obtain ⟨lt_ga_9, c0_ga_9, c1_ga_9⟩ := HB9.out.r2 (b := ga) (by repeat first | exact .head _ | apply List.Mem.tail)
  obtain ⟨lt_gb_9, c0_gb_9, c1_gb_9⟩ := HB9.out.r2 (b := gb) (by repeat first | exact .head _ | apply List.Mem.tail)
  obtain ⟨lt_gp_9, c0_gp_9, c1_gp_9, c2_gp_9⟩ := HB9.out.r3 (b := gp) (by repeat first | exact .head _ | apply List.Mem.tail)
  obtain ⟨lt_gq_9, c0_gq_9, c1_gq_9, c2_gq_9⟩ := HB9.out.r3 (b := gq) (by repeat first | exact .head _ | apply List.Mem.tail)
  obtain ⟨lt_gr_9, c0_gr_9, c1_gr_9, c2_gr_9⟩ := HB9.out.r3 (b := gr) (by repeat first | exact .head _ | apply List.Mem.tail)
  go_wp2_with fail
  refine (HHpb.out _).mono ?_
  rintro e x10 ⟨rfl, hb10⟩
  have HB10 := Lib.hid (HB9.out.keep hb10)
  have hc10 := below_chain7 hc9 hb10
  clear lt_ga_9 c0_ga_9 c1_ga_9 lt_gb_9 c0_gb_9 c1_gb_9 lt_gp_9 c0_gp_9 c1_gp_9 c2_gp_9 lt_gq_9 c0_gq_9 c1_gq_9 c2_gq_9 lt_gr_9 c0_gr_9 c1_gr_9 c2_gr_9
  clear HB9 hb10 hc9
  obtain ⟨lt_ga_10, c0_ga_10, c1_ga_10⟩ := HB10.out.r2 (b := ga) (by repeat first | exact .head _ | apply List.Mem.tail)
  obtain ⟨lt_gb_10, c0_gb_10, c1_gb_10⟩ := HB10.out.r2 (b := gb) (by repeat first | exact .head _ | apply List.Mem.tail)
  obtain ⟨lt_gp_10, c0_gp_10, c1_gp_10, c2_gp_10⟩ := HB10.out.r3 (b := gp) (by repeat first | exact .head _ | apply List.Mem.tail)
  obtain ⟨lt_gq_10, c0_gq_10, c1_gq_10, c2_gq_10⟩ := HB10.out.r3 (b := gq) (by repeat first | exact .head _ | apply List.Mem.tail)
  obtain ⟨lt_gr_10, c0_gr_10, c1_gr_10, c2_gr_10⟩ := HB10.out.r3 (b := gr) (by repeat first | exact .head _ | apply List.Mem.tail)
  go_wp2_with fail
  refine (HHqa.out _).mono ?_
  rintro e x11 ⟨rfl, hb11⟩
  have HB11 := Lib.hid (HB10.out.keep hb11)
  have hc11 := below_chain7 hc10 hb11
  clear lt_ga_10 c0_ga_10 c1_ga_10 lt_gb_10 c0_gb_10 c1_gb_10 lt_gp_10 c0_gp_10 c1_gp_10 c2_gp_10 lt_gq_10 c0_gq_10 c1_gq_10 c2_gq_10 lt_gr_10 c0_gr_10 c1_gr_10 c2_gr_10
  clear HB10 hb11 hc10
  obtain ⟨lt_ga_11, c0_ga_11, c1_ga_11⟩ := HB11.out.r2 (b := ga) (by repeat first | exact .head _ | apply List.Mem.tail)
  obtain ⟨lt_gb_11, c0_gb_11, c1_gb_11⟩ := HB11.out.r2 (b := gb) (by repeat first | exact .head _ | apply List.Mem.tail)
  obtain ⟨lt_gp_11, c0_gp_11, c1_gp_11, c2_gp_11⟩ := HB11.out.r3 (b := gp) (by repeat first | exact .head _ | apply List.Mem.tail)
  obtain ⟨lt_gq_11, c0_gq_11, c1_gq_11, c2_gq_11⟩ := HB11.out.r3 (b := gq) (by repeat first | exact .head _ | apply List.Mem.tail)
  obtain ⟨lt_gr_11, c0_gr_11, c1_gr_11, c2_gr_11⟩ := HB11.out.r3 (b := gr) (by repeat first | exact .head _ | apply List.Mem.tail)
  go_wp2_with fail
  refine (HTx.out _ hc11).mono ?_
  rintro e x12 ⟨rfl, hb12⟩
  have HB12 := Lib.hid (HB11.out.keep hb12)
  have hc12 := below_chain7 hc11 hb12
  clear lt_ga_11 c0_ga_11 c1_ga_11 lt_gb_11 c0_gb_11 c1_gb_11 lt_gp_11 c0_gp_11 c1_gp_11 c2_gp_11 lt_gq_11 c0_gq_11 c1_gq_11 c2_gq_11 lt_gr_11 c0_gr_11 c1_gr_11 c2_gr_11
  clear HB11 hb12 hc11
  obtain ⟨lt_ga_12, c0_ga_12, c1_ga_12⟩ := HB12.out.r2 (b := ga) (by repeat first | exact .head _ | apply List.Mem.tail)
  obtain ⟨lt_gb_12, c0_gb_12, c1_gb_12⟩ := HB12.out.r2 (b := gb) (by repeat first | exact .head _ | apply List.Mem.tail)
  obtain ⟨lt_gp_12, c0_gp_12, c1_gp_12, c2_gp_12⟩ := HB12.out.r3 (b := gp) (by repeat first | exact .head _ | apply List.Mem.tail)
  obtain ⟨lt_gq_12, c0_gq_12, c1_gq_12, c2_gq_12⟩ := HB12.out.r3 (b := gq) (by repeat first | exact .head _ | apply List.Mem.tail)
  obtain ⟨lt_gr_12, c0_gr_12, c1_gr_12, c2_gr_12⟩ := HB12.out.r3 (b := gr) (by repeat first | exact .head _ | apply List.Mem.tail)
  go_wp2_with fail
  refine (HPs.out _ hc12).mono ?_
  rintro e x13 ⟨rfl, hb13⟩
  have HB13 := Lib.hid (HB12.out.keep hb13)
  have hc13 := below_chain7 hc12 hb13
  clear lt_ga_12 c0_ga_12 c1_ga_12 lt_gb_12 c0_gb_12 c1_gb_12 lt_gp_12 c0_gp_12 c1_gp_12 c2_gp_12 lt_gq_12 c0_gq_12 c1_gq_12 c2_gq_12 lt_gr_12 c0_gr_12 c1_gr_12 c2_gr_12
  clear HB12 hb13 hc12
  obtain ⟨lt_ga_13, c0_ga_13, c1_ga_13⟩ := HB13.out.r2 (b := ga) (by repeat first | exact .head _ | apply List.Mem.tail)
  obtain ⟨lt_gb_13, c0_gb_13, c1_gb_13⟩ := HB13.out.r2 (b := gb) (by repeat first | exact .head _ | apply List.Mem.tail)
  obtain ⟨lt_gp_13, c0_gp_13, c1_gp_13, c2_gp_13⟩ := HB13.out.r3 (b := gp) (by repeat first | exact .head _ | apply List.Mem.tail)
  obtain ⟨lt_gq_13, c0_gq_13, c1_gq_13, c2_gq_13⟩ := HB13.out.r3 (b := gq) (by repeat first | exact .head _ | apply List.Mem.tail)
  obtain ⟨lt_gr_13, c0_gr_13, c1_gr_13, c2_gr_13⟩ := HB13.out.r3 (b := gr) (by repeat first | exact .head _ | apply List.Mem.tail)
  go_wp2
  go_ret
  exact ⟨rfl, hc13.alloc hc13.size _⟩

set_option maxRecDepth 100000 in
set_option maxHeartbeats 8000000 in
theorem nests_aft (hi lo ho hl n m i k ph pl qh ql rh rl : Nat) (X : List UInt8) (w : World) (hbru : BruTab w) (hmax : MaxVar w) (hn : n ≤ 255) (hm : m ≤ 255) (hni : (n : Int) % 129 = (i : Nat)) (hmk : (m : Int) % 129 = (k : Nat)) (hle' : decide (i ≤ k) = true)
    (HOp : Hid (∀ W, Calls Tryd.prog 6 #[.iface 25 (.agg #[.int .u64 (hi : Nat), .int .u64 (lo : Nat)]), .int .i64 (i : Nat)] W fun e w' => e = .returned (.tuple #[.agg #[.int .u64 (ph : Nat), .int .u64 (pl : Nat), .int .i64 (i : Nat)], .bool true]) ∧ Below W.heap.size W w'))
    (HOq : Hid (∀ W, Calls Tryd.prog 6 #[.iface 25 (.agg #[.int .u64 (ho : Nat), .int .u64 (hl : Nat)]), .int .i64 (k : Nat)] W fun e w' => e = .returned (.tuple #[.agg #[.int .u64 (qh : Nat), .int .u64 (ql : Nat), .int .i64 (k : Nat)], .bool true]) ∧ Below W.heap.size W w'))
    (HOr : Hid (∀ W, Calls Tryd.prog 6 #[.iface 25 (.agg #[.int .u64 (hi : Nat), .int .u64 (lo : Nat)]), .int .i64 (k : Nat)] W fun e w' => e = .returned (.tuple #[.agg #[.int .u64 (rh : Nat), .int .u64 (rl : Nat), .int .i64 (k : Nat)], .bool true]) ∧ Below W.heap.size W w'))
    (HRp : Hid (∀ W, Calls Tryd.prog 7 #[.agg #[.int .u64 (ph : Nat), .int .u64 (pl : Nat), .int .i64 (i : Nat)]] W fun e w' => e = .returned (.bool true) ∧ Below W.heap.size W w'))
    (HHpa : Hid (∀ W, Calls Tryd.prog 8 #[.agg #[.int .u64 (ph : Nat), .int .u64 (pl : Nat), .int .i64 (i : Nat)], .iface 25 (.agg #[.int .u64 (hi : Nat), .int .u64 (lo : Nat)])] W fun e w' => e = .returned (.bool true) ∧ Below W.heap.size W w'))
    (HHqb : Hid (∀ W, Calls Tryd.prog 8 #[.agg #[.int .u64 (qh : Nat), .int .u64 (ql : Nat), .int .i64 (k : Nat)], .iface 25 (.agg #[.int .u64 (ho : Nat), .int .u64 (hl : Nat)])] W fun e w' => e = .returned (.bool true) ∧ Below W.heap.size W w'))
    (HCpr : Hid (∀ W, Calls Tryd.prog 9 #[.agg #[.int .u64 (ph : Nat), .int .u64 (pl : Nat), .int .i64 (i : Nat)], .agg #[.int .u64 (rh : Nat), .int .u64 (rl : Nat), .int .i64 (k : Nat)]] W fun e w' => e = .returned (.bool true) ∧ Below W.heap.size W w'))
    (HCpq : Hid (∀ W, Calls Tryd.prog 9 #[.agg #[.int .u64 (ph : Nat), .int .u64 (pl : Nat), .int .i64 (i : Nat)], .agg #[.int .u64 (qh : Nat), .int .u64 (ql : Nat), .int .i64 (k : Nat)]] W fun e w' => e = .returned (.bool true) ∧ Below W.heap.size W w'))
    (HHqa : Hid (∀ W, Calls Tryd.prog 8 #[.agg #[.int .u64 (qh : Nat), .int .u64 (ql : Nat), .int .i64 (k : Nat)], .iface 25 (.agg #[.int .u64 (hi : Nat), .int .u64 (lo : Nat)])] W fun e w' => e = .returned (.bool true) ∧ Below W.heap.size W w'))
    (HHpb : Hid (∀ W, Calls Tryd.prog 8 #[.agg #[.int .u64 (ph : Nat), .int .u64 (pl : Nat), .int .i64 (i : Nat)], .iface 25 (.agg #[.int .u64 (ho : Nat), .int .u64 (hl : Nat)])] W fun e w' => e = .returned (.bool true) ∧ Below W.heap.size W w'))
    (HTx : Hid (∀ W, Below w.heap.size w W → Calls Tryd.prog 11 #[.agg #[.int .u64 (ph : Nat), .int .u64 (pl : Nat), .int .i64 (i : Nat)]] W (RetStr W X)))
    (HPs : Hid (∀ W, Below w.heap.size w W → Calls Tryd.prog 10 #[.string ⟨X.toArray⟩] W fun e w' => e = .returned (.tuple #[.agg #[.int .u64 (ph : Nat), .int .u64 (pl : Nat), .int .i64 (i : Nat)], .bool true]) ∧ Below W.heap.size W w')) :
    Calls Tryd.prog 3 #[.int .u64 (hi : Nat), .int .u64 (lo : Nat), .int .u64 (ho : Nat), .int .u64 (hl : Nat), .int .u8 (n : Nat), .int .u8 (m : Nat)] w fun e w' => e = .returned (.bool true) ∧ Below w.heap.size w w' := by
  have HT := Lib.hid hbru
  have HX := Lib.hid hmax
  clear hbru hmax
  have heq : ∀ W : World, (binOp .eql 27 (.agg #[.int .u64 (ph : Nat), .int .u64 (pl : Nat), .int .i64 (i : Nat)]) (.agg #[.int .u64 (ph : Nat), .int .u64 (pl : Nat), .int .i64 (i : Nat)])).run Tryd.prog W = .ok (.bool true) W := fun W => by rw [eqPf]; simp
  have hg := eqPf_guard
  go_enter Tryd.func3, Tryd.ntmps3
  go_wp2_with fail
  refine (awake07_any _ HT.out HX.out).mono ?_
  rintro e x1 ⟨rfl, hb1⟩
  have HB1 := Lib.hid (blks_two (Blks.empty x1) #[.int .u64 (hi : Nat), .int .u64 (lo : Nat)] #[.int .u64 (ho : Nat), .int .u64 (hl : Nat)] 25 25)
  have hc1 : Below w.heap.size w ((x1.alloc (.cells #[.int .u64 (hi : Nat), .int .u64 (lo : Nat)] 25)).alloc (.cells #[.int .u64 (ho : Nat), .int .u64 (hl : Nat)] 25)) := (hb1.alloc hb1.size _).alloc (hb1.alloc hb1.size (.cells #[.int .u64 (hi : Nat), .int .u64 (lo : Nat)] 25)).size _
  go_wp2_with fail
  refine (HOp.out _).mono ?_
  rintro e x2 ⟨rfl, hb2⟩
  have HB2 := Lib.hid (HB1.out.keep hb2)
  have hc2 := below_chain7 hc1 hb2
  generalize x1.heap.size + 1 = gb at *
  generalize x1.heap.size = ga at *
  clear HB1 hb2 hb1 hc1
  obtain ⟨lt_ga_2, c0_ga_2, c1_ga_2⟩ := HB2.out.r2 (b := ga) (by repeat first | exact .head _ | apply List.Mem.tail)
  obtain ⟨lt_gb_2, c0_gb_2, c1_gb_2⟩ := HB2.out.r2 (b := gb) (by repeat first | exact .head _ | apply List.Mem.tail)
  have HN3 := Lib.hid (HB2.out.new #[.int .u64 (ph : Nat), .int .u64 (pl : Nat), .int .i64 (i : Nat)] 27)
  have hd3 := hc2.alloc hc2.size (.cells #[.int .u64 (ph : Nat), .int .u64 (pl : Nat), .int .i64 (i : Nat)] 27)
  go_wp2_with fail
  refine (HOq.out _).mono ?_
  rintro e x3 ⟨rfl, hb3⟩
  have HB3 := Lib.hid (HN3.out.keep hb3)
  have hc3 := below_chain7 hd3 hb3
  generalize x2.heap.size = gp at *
  clear lt_ga_2 c0_ga_2 c1_ga_2 lt_gb_2 c0_gb_2 c1_gb_2
  clear HN3 HB2 hb3 hd3 hc2
  obtain ⟨lt_ga_3, c0_ga_3, c1_ga_3⟩ := HB3.out.r2 (b := ga) (by repeat first | exact .head _ | apply List.Mem.tail)
  obtain ⟨lt_gb_3, c0_gb_3, c1_gb_3⟩ := HB3.out.r2 (b := gb) (by repeat first | exact .head _ | apply List.Mem.tail)
  obtain ⟨lt_gp_3, c0_gp_3, c1_gp_3, c2_gp_3⟩ := HB3.out.r3 (b := gp) (by repeat first | exact .head _ | apply List.Mem.tail)
  have HN4 := Lib.hid (HB3.out.new #[.int .u64 (qh : Nat), .int .u64 (ql : Nat), .int .i64 (k : Nat)] 27)
  have hd4 := hc3.alloc hc3.size (.cells #[.int .u64 (qh : Nat), .int .u64 (ql : Nat), .int .i64 (k : Nat)] 27)
  go_wp2_with fail
  refine (HOr.out _).mono ?_
  rintro e x4 ⟨rfl, hb4⟩
  have HB4 := Lib.hid (HN4.out.keep hb4)
  have hc4 := below_chain7 hd4 hb4
  generalize x3.heap.size = gq at *
  clear lt_ga_3 c0_ga_3 c1_ga_3 lt_gb_3 c0_gb_3 c1_gb_3 lt_gp_3 c0_gp_3 c1_gp_3 c2_gp_3
  clear HN4 HB3 hb4 hd4 hc3
  obtain ⟨lt_ga_4, c0_ga_4, c1_ga_4⟩ := HB4.out.r2 (b := ga) (by repeat first | exact .head _ | apply List.Mem.tail)
  obtain ⟨lt_gb_4, c0_gb_4, c1_gb_4⟩ := HB4.out.r2 (b := gb) (by repeat first | exact .head _ | apply List.Mem.tail)
  obtain ⟨lt_gp_4, c0_gp_4, c1_gp_4, c2_gp_4⟩ := HB4.out.r3 (b := gp) (by repeat first | exact .head _ | apply List.Mem.tail)
  obtain ⟨lt_gq_4, c0_gq_4, c1_gq_4, c2_gq_4⟩ := HB4.out.r3 (b := gq) (by repeat first | exact .head _ | apply List.Mem.tail)
  have HN5 := Lib.hid (HB4.out.new #[.int .u64 (rh : Nat), .int .u64 (rl : Nat), .int .i64 (k : Nat)] 27)
  have hd5 := hc4.alloc hc4.size (.cells #[.int .u64 (rh : Nat), .int .u64 (rl : Nat), .int .i64 (k : Nat)] 27)
  go_wp2_with fail
  refine (HRp.out _).mono ?_
  rintro e x5 ⟨rfl, hb5⟩
  have HB5 := Lib.hid (HN5.out.keep hb5)
  have hc5 := below_chain7 hd5 hb5
  generalize x4.heap.size = gr at *
  clear lt_ga_4 c0_ga_4 c1_ga_4 lt_gb_4 c0_gb_4 c1_gb_4 lt_gp_4 c0_gp_4 c1_gp_4 c2_gp_4 lt_gq_4 c0_gq_4 c1_gq_4 c2_gq_4
  clear HN5 HB4 hb5 hd5 hc4
  obtain ⟨lt_ga_5, c0_ga_5, c1_ga_5⟩ := HB5.out.r2 (b := ga) (by repeat first | exact .head _ | apply List.Mem.tail)
  obtain ⟨lt_gb_5, c0_gb_5, c1_gb_5⟩ := HB5.out.r2 (b := gb) (by repeat first | exact .head _ | apply List.Mem.tail)
  obtain ⟨lt_gp_5, c0_gp_5, c1_gp_5, c2_gp_5⟩ := HB5.out.r3 (b := gp) (by repeat first | exact .head _ | apply List.Mem.tail)
  obtain ⟨lt_gq_5, c0_gq_5, c1_gq_5, c2_gq_5⟩ := HB5.out.r3 (b := gq) (by repeat first | exact .head _ | apply List.Mem.tail)
  obtain ⟨lt_gr_5, c0_gr_5, c1_gr_5, c2_gr_5⟩ := HB5.out.r3 (b := gr) (by repeat first | exact .head _ | apply List.Mem.tail)
  go_wp2_with fail
  refine (HHpa.out _).mono ?_
  rintro e x6 ⟨rfl, hb6⟩
  have HB6 := Lib.hid (HB5.out.keep hb6)
  have hc6 := below_chain7 hc5 hb6
  clear lt_ga_5 c0_ga_5 c1_ga_5 lt_gb_5 c0_gb_5 c1_gb_5 lt_gp_5 c0_gp_5 c1_gp_5 c2_gp_5 lt_gq_5 c0_gq_5 c1_gq_5 c2_gq_5 lt_gr_5 c0_gr_5 c1_gr_5 c2_gr_5
  clear HB5 hb6 hc5
  obtain ⟨lt_ga_6, c0_ga_6, c1_ga_6⟩ := HB6.out.r2 (b := ga) (by repeat first | exact .head _ | apply List.Mem.tail)
  obtain ⟨lt_gb_6, c0_gb_6, c1_gb_6⟩ := HB6.out.r2 (b := gb) (by repeat first | exact .head _ | apply List.Mem.tail)
  obtain ⟨lt_gp_6, c0_gp_6, c1_gp_6, c2_gp_6⟩ := HB6.out.r3 (b := gp) (by repeat first | exact .head _ | apply List.Mem.tail)
  obtain ⟨lt_gq_6, c0_gq_6, c1_gq_6, c2_gq_6⟩ := HB6.out.r3 (b := gq) (by repeat first | exact .head _ | apply List.Mem.tail)
  obtain ⟨lt_gr_6, c0_gr_6, c1_gr_6, c2_gr_6⟩ := HB6.out.r3 (b := gr) (by repeat first | exact .head _ | apply List.Mem.tail)
  go_wp2_with fail
  refine (HHqb.out _).mono ?_
  rintro e x7 ⟨rfl, hb7⟩
  have HB7 := Lib.hid (HB6.out.keep hb7)
  have hc7 := below_chain7 hc6 hb7
  clear lt_ga_6 c0_ga_6 c1_ga_6 lt_gb_6 c0_gb_6 c1_gb_6 lt_gp_6 c0_gp_6 c1_gp_6 c2_gp_6 lt_gq_6 c0_gq_6 c1_gq_6 c2_gq_6 lt_gr_6 c0_gr_6 c1_gr_6 c2_gr_6
  clear HB6 hb7 hc6
  obtain ⟨lt_ga_7, c0_ga_7, c1_ga_7⟩ := HB7.out.r2 (b := ga) (by repeat first | exact .head _ | apply List.Mem.tail)
  obtain ⟨lt_gb_7, c0_gb_7, c1_gb_7⟩ := HB7.out.r2 (b := gb) (by repeat first | exact .head _ | apply List.Mem.tail)
  obtain ⟨lt_gp_7, c0_gp_7, c1_gp_7, c2_gp_7⟩ := HB7.out.r3 (b := gp) (by repeat first | exact .head _ | apply List.Mem.tail)
  obtain ⟨lt_gq_7, c0_gq_7, c1_gq_7, c2_gq_7⟩ := HB7.out.r3 (b := gq) (by repeat first | exact .head _ | apply List.Mem.tail)
  obtain ⟨lt_gr_7, c0_gr_7, c1_gr_7, c2_gr_7⟩ := HB7.out.r3 (b := gr) (by repeat first | exact .head _ | apply List.Mem.tail)
  go_wp2_with fail
  refine (HCpr.out _).mono ?_
  rintro e x8 ⟨rfl, hb8⟩
  have HB8 := Lib.hid (HB7.out.keep hb8)
  have hc8 := below_chain7 hc7 hb8
  clear lt_ga_7 c0_ga_7 c1_ga_7 lt_gb_7 c0_gb_7 c1_gb_7 lt_gp_7 c0_gp_7 c1_gp_7 c2_gp_7 lt_gq_7 c0_gq_7 c1_gq_7 c2_gq_7 lt_gr_7 c0_gr_7 c1_gr_7 c2_gr_7
  clear HB7 hb8 hc7
  obtain ⟨lt_ga_8, c0_ga_8, c1_ga_8⟩ := HB8.out.r2 (b := ga) (by repeat first | exact .head _ | apply List.Mem.tail)
  obtain ⟨lt_gb_8, c0_gb_8, c1_gb_8⟩ := HB8.out.r2 (b := gb) (by repeat first | exact .head _ | apply List.Mem.tail)
  obtain ⟨lt_gp_8, c0_gp_8, c1_gp_8, c2_gp_8⟩ := HB8.out.r3 (b := gp) (by repeat first | exact .head _ | apply List.Mem.tail)
  obtain ⟨lt_gq_8, c0_gq_8, c1_gq_8, c2_gq_8⟩ := HB8.out.r3 (b := gq) (by repeat first | exact .head _ | apply List.Mem.tail)
  obtain ⟨lt_gr_8, c0_gr_8, c1_gr_8, c2_gr_8⟩ := HB8.out.r3 (b := gr) (by repeat first | exact .head _ | apply List.Mem.tail)
  go_wp2_with fail
  refine (HCpq.out _).mono ?_
  rintro e x9 ⟨rfl, hb9⟩
  have HB9 := Lib.hid (HB8.out.keep hb9)
  have hc9 := below_chain7 hc8 hb9
  clear lt_ga_8 c0_ga_8 c1_ga_8 lt_gb_8 c0_gb_8 c1_gb_8 lt_gp_8 c0_gp_8 c1_gp_8 c2_gp_8 lt_gq_8 c0_gq_8 c1_gq_8 c2_gq_8 lt_gr_8 c0_gr_8 c1_gr_8 c2_gr_8
  clear HB8 hb9 hc8
  obtain ⟨lt_ga_9, c0_ga_9, c1_ga_9⟩ := HB9.out.r2 (b := ga) (by repeat first | exact .head _ | apply List.Mem.tail)
  obtain ⟨lt_gb_9, c0_gb_9, c1_gb_9⟩ := HB9.out.r2 (b := gb) (by repeat first | exact .head _ | apply List.Mem.tail)
  obtain ⟨lt_gp_9, c0_gp_9, c1_gp_9, c2_gp_9⟩ := HB9.out.r3 (b := gp) (by repeat first | exact .head _ | apply List.Mem.tail)
  obtain ⟨lt_gq_9, c0_gq_9, c1_gq_9, c2_gq_9⟩ := HB9.out.r3 (b := gq) (by repeat first | exact .head _ | apply List.Mem.tail)
  obtain ⟨lt_gr_9, c0_gr_9, c1_gr_9, c2_gr_9⟩ := HB9.out.r3 (b := gr) (by repeat first | exact .head _ | apply List.Mem.tail)
  go_wp2_with fail
  refine (HHpb.out _).mono ?_
  rintro e x10 ⟨rfl, hb10⟩
  have HB10 := Lib.hid (HB9.out.keep hb10)
  have hc10 := below_chain7 hc9 hb10
  clear lt_ga_9 c0_ga_9 c1_ga_9 lt_gb_9 c0_gb_9 c1_gb_9 lt_gp_9 c0_gp_9 c1_gp_9 c2_gp_9 lt_gq_9 c0_gq_9 c1_gq_9 c2_gq_9 lt_gr_9 c0_gr_9 c1_gr_9 c2_gr_9
  clear HB9 hb10 hc9
  obtain ⟨lt_ga_10, c0_ga_10, c1_ga_10⟩ := HB10.out.r2 (b := ga) (by repeat first | exact .head _ | apply List.Mem.tail)
  obtain ⟨lt_gb_10, c0_gb_10, c1_gb_10⟩ := HB10.out.r2 (b := gb) (by repeat first | exact .head _ | apply List.Mem.tail)
  obtain ⟨lt_gp_10, c0_gp_10, c1_gp_10, c2_gp_10⟩ := HB10.out.r3 (b := gp) (by repeat first | exact .head _ | apply List.Mem.tail)
  obtain ⟨lt_gq_10, c0_gq_10, c1_gq_10, c2_gq_10⟩ := HB10.out.r3 (b := gq) (by repeat first | exact .head _ | apply List.Mem.tail)
  obtain ⟨lt_gr_10, c0_gr_10, c1_gr_10, c2_gr_10⟩ := HB10.out.r3 (b := gr) (by repeat first | exact .head _ | apply List.Mem.tail)
  go_wp2_with fail
  refine (HHqa.out _).mono ?_
  rintro e x11 ⟨rfl, hb11⟩
  have HB11 := Lib.hid (HB10.out.keep hb11)
  have hc11 := below_chain7 hc10 hb11
  clear lt_ga_10 c0_ga_10 c1_ga_10 lt_gb_10 c0_gb_10 c1_gb_10 lt_gp_10 c0_gp_10 c1_gp_10 c2_gp_10 lt_gq_10 c0_gq_10 c1_gq_10 c2_gq_10 lt_gr_10 c0_gr_10 c1_gr_10 c2_gr_10
  clear HB10 hb11 hc10
  obtain ⟨lt_ga_11, c0_ga_11, c1_ga_11⟩ := HB11.out.r2 (b := ga) (by repeat first | exact .head _ | apply List.Mem.tail)
  obtain ⟨lt_gb_11, c0_gb_11, c1_gb_11⟩ := HB11.out.r2 (b := gb) (by repeat first | exact .head _ | apply List.Mem.tail)
  obtain ⟨lt_gp_11, c0_gp_11, c1_gp_11, c2_gp_11⟩ := HB11.out.r3 (b := gp) (by repeat first | exact .head _ | apply List.Mem.tail)
  obtain ⟨lt_gq_11, c0_gq_11, c1_gq_11, c2_gq_11⟩ := HB11.out.r3 (b := gq) (by repeat first | exact .head _ | apply List.Mem.tail)
  obtain ⟨lt_gr_11, c0_gr_11, c1_gr_11, c2_gr_11⟩ := HB11.out.r3 (b := gr) (by repeat first | exact .head _ | apply List.Mem.tail)
  go_wp2_with fail
  refine (HCpq.out _).mono ?_
  rintro e x12 ⟨rfl, hb12⟩
  have HB12 := Lib.hid (HB11.out.keep hb12)
  have hc12 := below_chain7 hc11 hb12
  clear lt_ga_11 c0_ga_11 c1_ga_11 lt_gb_11 c0_gb_11 c1_gb_11 lt_gp_11 c0_gp_11 c1_gp_11 c2_gp_11 lt_gq_11 c0_gq_11 c1_gq_11 c2_gq_11 lt_gr_11 c0_gr_11 c1_gr_11 c2_gr_11
  clear HB11 hb12 hc11
  obtain ⟨lt_ga_12, c0_ga_12, c1_ga_12⟩ := HB12.out.r2 (b := ga) (by repeat first | exact .head _ | apply List.Mem.tail)
  obtain ⟨lt_gb_12, c0_gb_12, c1_gb_12⟩ := HB12.out.r2 (b := gb) (by repeat first | exact .head _ | apply List.Mem.tail)
  obtain ⟨lt_gp_12, c0_gp_12, c1_gp_12, c2_gp_12⟩ := HB12.out.r3 (b := gp) (by repeat first | exact .head _ | apply List.Mem.tail)
  obtain ⟨lt_gq_12, c0_gq_12, c1_gq_12, c2_gq_12⟩ := HB12.out.r3 (b := gq) (by repeat first | exact .head _ | apply List.Mem.tail)
  obtain ⟨lt_gr_12, c0_gr_12, c1_gr_12, c2_gr_12⟩ := HB12.out.r3 (b := gr) (by repeat first | exact .head _ | apply List.Mem.tail)
  go_wp2_with fail
  refine (HTx.out _ hc12).mono ?_
  rintro e x13 ⟨rfl, hb13⟩
  have HB13 := Lib.hid (HB12.out.keep hb13)
  have hc13 := below_chain7 hc12 hb13
  clear lt_ga_12 c0_ga_12 c1_ga_12 lt_gb_12 c0_gb_12 c1_gb_12 lt_gp_12 c0_gp_12 c1_gp_12 c2_gp_12 lt_gq_12 c0_gq_12 c1_gq_12 c2_gq_12 lt_gr_12 c0_gr_12 c1_gr_12 c2_gr_12
  clear HB12 hb13 hc12
  obtain ⟨lt_ga_13, c0_ga_13, c1_ga_13⟩ := HB13.out.r2 (b := ga) (by repeat first | exact .head _ | apply List.Mem.tail)
  obtain ⟨lt_gb_13, c0_gb_13, c1_gb_13⟩ := HB13.out.r2 (b := gb) (by repeat first | exact .head _ | apply List.Mem.tail)
  obtain ⟨lt_gp_13, c0_gp_13, c1_gp_13, c2_gp_13⟩ := HB13.out.r3 (b := gp) (by repeat first | exact .head _ | apply List.Mem.tail)
  obtain ⟨lt_gq_13, c0_gq_13, c1_gq_13, c2_gq_13⟩ := HB13.out.r3 (b := gq) (by repeat first | exact .head _ | apply List.Mem.tail)
  obtain ⟨lt_gr_13, c0_gr_13, c1_gr_13, c2_gr_13⟩ := HB13.out.r3 (b := gr) (by repeat first | exact .head _ | apply List.Mem.tail)
  go_wp2_with fail
  refine (HPs.out _ hc13).mono ?_
  rintro e x14 ⟨rfl, hb14⟩
  have HB14 := Lib.hid (HB13.out.keep hb14)
  have hc14 := below_chain7 hc13 hb14
  clear lt_ga_13 c0_ga_13 c1_ga_13 lt_gb_13 c0_gb_13 c1_gb_13 lt_gp_13 c0_gp_13 c1_gp_13 c2_gp_13 lt_gq_13 c0_gq_13 c1_gq_13 c2_gq_13 lt_gr_13 c0_gr_13 c1_gr_13 c2_gr_13
  clear HB13 hb14 hc13
  obtain ⟨lt_ga_14, c0_ga_14, c1_ga_14⟩ := HB14.out.r2 (b := ga) (by repeat first | exact .head _ | apply List.Mem.tail)
  obtain ⟨lt_gb_14, c0_gb_14, c1_gb_14⟩ := HB14.out.r2 (b := gb) (by repeat first | exact .head _ | apply List.Mem.tail)
  obtain ⟨lt_gp_14, c0_gp_14, c1_gp_14, c2_gp_14⟩ := HB14.out.r3 (b := gp) (by repeat first | exact .head _ | apply List.Mem.tail)
  obtain ⟨lt_gq_14, c0_gq_14, c1_gq_14, c2_gq_14⟩ := HB14.out.r3 (b := gq) (by repeat first | exact .head _ | apply List.Mem.tail)
  obtain ⟨lt_gr_14, c0_gr_14, c1_gr_14, c2_gr_14⟩ := HB14.out.r3 (b := gr) (by repeat first | exact .head _ | apply List.Mem.tail)
  go_wp2
  go_ret
  exact ⟨rfl, hc14.alloc hc14.size _⟩

set_option maxRecDepth 100000 in
set_option maxHeartbeats 8000000 in
theorem nests_bff (hi lo ho hl n m i k ph pl qh ql rh rl : Nat) (X : List UInt8) (w : World) (hbru : BruTab w) (hmax : MaxVar w) (hn : n ≤ 255) (hm : m ≤ 255) (hni : (n : Int) % 129 = (i : Nat)) (hmk : (m : Int) % 129 = (k : Nat)) (hle' : decide (i ≤ k) = true)
    (HOp : Hid (∀ W, Calls Tryd.prog 6 #[.iface 25 (.agg #[.int .u64 (hi : Nat), .int .u64 (lo : Nat)]), .int .i64 (i : Nat)] W fun e w' => e = .returned (.tuple #[.agg #[.int .u64 (ph : Nat), .int .u64 (pl : Nat), .int .i64 (i : Nat)], .bool true]) ∧ Below W.heap.size W w'))
    (HOq : Hid (∀ W, Calls Tryd.prog 6 #[.iface 25 (.agg #[.int .u64 (ho : Nat), .int .u64 (hl : Nat)]), .int .i64 (k : Nat)] W fun e w' => e = .returned (.tuple #[.agg #[.int .u64 (qh : Nat), .int .u64 (ql : Nat), .int .i64 (k : Nat)], .bool true]) ∧ Below W.heap.size W w'))
    (HOr : Hid (∀ W, Calls Tryd.prog 6 #[.iface 25 (.agg #[.int .u64 (hi : Nat), .int .u64 (lo : Nat)]), .int .i64 (k : Nat)] W fun e w' => e = .returned (.tuple #[.agg #[.int .u64 (rh : Nat), .int .u64 (rl : Nat), .int .i64 (k : Nat)], .bool true]) ∧ Below W.heap.size W w'))
    (HRp : Hid (∀ W, Calls Tryd.prog 7 #[.agg #[.int .u64 (ph : Nat), .int .u64 (pl : Nat), .int .i64 (i : Nat)]] W fun e w' => e = .returned (.bool true) ∧ Below W.heap.size W w'))
    (HHpa : Hid (∀ W, Calls Tryd.prog 8 #[.agg #[.int .u64 (ph : Nat), .int .u64 (pl : Nat), .int .i64 (i : Nat)], .iface 25 (.agg #[.int .u64 (hi : Nat), .int .u64 (lo : Nat)])] W fun e w' => e = .returned (.bool true) ∧ Below W.heap.size W w'))
    (HHqb : Hid (∀ W, Calls Tryd.prog 8 #[.agg #[.int .u64 (qh : Nat), .int .u64 (ql : Nat), .int .i64 (k : Nat)], .iface 25 (.agg #[.int .u64 (ho : Nat), .int .u64 (hl : Nat)])] W fun e w' => e = .returned (.bool true) ∧ Below W.heap.size W w'))
    (HCpr : Hid (∀ W, Calls Tryd.prog 9 #[.agg #[.int .u64 (ph : Nat), .int .u64 (pl : Nat), .int .i64 (i : Nat)], .agg #[.int .u64 (rh : Nat), .int .u64 (rl : Nat), .int .i64 (k : Nat)]] W fun e w' => e = .returned (.bool true) ∧ Below W.heap.size W w'))
    (HCpq : Hid (∀ W, Calls Tryd.prog 9 #[.agg #[.int .u64 (ph : Nat), .int .u64 (pl : Nat), .int .i64 (i : Nat)], .agg #[.int .u64 (qh : Nat), .int .u64 (ql : Nat), .int .i64 (k : Nat)]] W fun e w' => e = .returned (.bool false) ∧ Below W.heap.size W w'))
    (HHqa : Hid (∀ W, Calls Tryd.prog 8 #[.agg #[.int .u64 (qh : Nat), .int .u64 (ql : Nat), .int .i64 (k : Nat)], .iface 25 (.agg #[.int .u64 (hi : Nat), .int .u64 (lo : Nat)])] W fun e w' => e = .returned (.bool false) ∧ Below W.heap.size W w'))
    (HHpb : Hid (∀ W, Calls Tryd.prog 8 #[.agg #[.int .u64 (ph : Nat), .int .u64 (pl : Nat), .int .i64 (i : Nat)], .iface 25 (.agg #[.int .u64 (ho : Nat), .int .u64 (hl : Nat)])] W fun e w' => e = .returned (.bool false) ∧ Below W.heap.size W w'))
    (HTx : Hid (∀ W, Below w.heap.size w W → Calls Tryd.prog 11 #[.agg #[.int .u64 (ph : Nat), .int .u64 (pl : Nat), .int .i64 (i : Nat)]] W (RetStr W X)))
    (HPs : Hid (∀ W, Below w.heap.size w W → Calls Tryd.prog 10 #[.string ⟨X.toArray⟩] W fun e w' => e = .returned (.tuple #[.agg #[.int .u64 (ph : Nat), .int .u64 (pl : Nat), .int .i64 (i : Nat)], .bool true]) ∧ Below W.heap.size W w')) :
    Calls Tryd.prog 3 #[.int .u64 (hi : Nat), .int .u64 (lo : Nat), .int .u64 (ho : Nat), .int .u64 (hl : Nat), .int .u8 (n : Nat), .int .u8 (m : Nat)] w fun e w' => e = .returned (.bool true) ∧ Below w.heap.size w w' := by
  have HT := Lib.hid hbru
  have HX := Lib.hid hmax
  clear hbru hmax
  have heq : ∀ W : World, (binOp .eql 27 (.agg #[.int .u64 (ph : Nat), .int .u64 (pl : Nat), .int .i64 (i : Nat)]) (.agg #[.int .u64 (ph : Nat), .int .u64 (pl : Nat), .int .i64 (i : Nat)])).run Tryd.prog W = .ok (.bool true) W := fun W => by rw [eqPf]; simp
  have hg := eqPf_guard
  go_enter Tryd.func3, Tryd.ntmps3
  go_wp2_with fail
  refine (awake07_any _ HT.out HX.out).mono ?_
  rintro e x1 ⟨rfl, hb1⟩
  have HB1 := Lib.hid (blks_two (Blks.empty x1) #[.int .u64 (hi : Nat), .int .u64 (lo : Nat)] #[.int .u64 (ho : Nat), .int .u64 (hl : Nat)] 25 25)
  have hc1 : Below w.heap.size w ((x1.alloc (.cells #[.int .u64 (hi : Nat), .int .u64 (lo : Nat)] 25)).alloc (.cells #[.int .u64 (ho : Nat), .int .u64 (hl : Nat)] 25)) := (hb1.alloc hb1.size _).alloc (hb1.alloc hb1.size (.cells #[.int .u64 (hi : Nat), .int .u64 (lo : Nat)] 25)).size _
  go_wp2_with fail
  refine (HOp.out _).mono ?_
  rintro e x2 ⟨rfl, hb2⟩
  have HB2 := Lib.hid (HB1.out.keep hb2)
  have hc2 := below_chain7 hc1 hb2
  generalize x1.heap.size + 1 = gb at *
  generalize x1.heap.size = ga at *
  clear HB1 hb2 hb1 hc1
  obtain ⟨lt_ga_2, c0_ga_2, c1_ga_2⟩ := HB2.out.r2 (b := ga) (by repeat first | exact .head _ | apply List.Mem.tail)
  obtain ⟨lt_gb_2, c0_gb_2, c1_gb_2⟩ := HB2.out.r2 (b := gb) (by repeat first | exact .head _ | apply List.Mem.tail)
  have HN3 := Lib.hid (HB2.out.new #[.int .u64 (ph : Nat), .int .u64 (pl : Nat), .int .i64 (i : Nat)] 27)
  have hd3 := hc2.alloc hc2.size (.cells #[.int .u64 (ph : Nat), .int .u64 (pl : Nat), .int .i64 (i : Nat)] 27)
  go_wp2_with fail
  refine (HOq.out _).mono ?_
  rintro e x3 ⟨rfl, hb3⟩
  have HB3 := Lib.hid (HN3.out.keep hb3)
  have hc3 := below_chain7 hd3 hb3
  generalize x2.heap.size = gp at *
  clear lt_ga_2 c0_ga_2 c1_ga_2 lt_gb_2 c0_gb_2 c1_gb_2
  clear HN3 HB2 hb3 hd3 hc2
  obtain ⟨lt_ga_3, c0_ga_3, c1_ga_3⟩ := HB3.out.r2 (b := ga) (by repeat first | exact .head _ | apply List.Mem.tail)
  obtain ⟨lt_gb_3, c0_gb_3, c1_gb_3⟩ := HB3.out.r2 (b := gb) (by repeat first | exact .head _ | apply List.Mem.tail)
  obtain ⟨lt_gp_3, c0_gp_3, c1_gp_3, c2_gp_3⟩ := HB3.out.r3 (b := gp) (by repeat first | exact .head _ | apply List.Mem.tail)
  have HN4 := Lib.hid (HB3.out.new #[.int .u64 (qh : Nat), .int .u64 (ql : Nat), .int .i64 (k : Nat)] 27)
  have hd4 := hc3.alloc hc3.size (.cells #[.int .u64 (qh : Nat), .int .u64 (ql : Nat), .int .i64 (k : Nat)] 27)
  go_wp2_with fail
  refine (HOr.out _).mono ?_
  rintro e x4 ⟨rfl, hb4⟩
  have HB4 := Lib.hid (HN4.out.keep hb4)
  have hc4 := below_chain7 hd4 hb4
  generalize x3.heap.size = gq at *
  clear lt_ga_3 c0_ga_3 c1_ga_3 lt_gb_3 c0_gb_3 c1_gb_3 lt_gp_3 c0_gp_3 c1_gp_3 c2_gp_3
  clear HN4 HB3 hb4 hd4 hc3
  obtain ⟨lt_ga_4, c0_ga_4, c1_ga_4⟩ := HB4.out.r2 (b := ga) (by repeat first | exact .head _ | apply List.Mem.tail)
  obtain ⟨lt_gb_4, c0_gb_4, c1_gb_4⟩ := HB4.out.r2 (b := gb) (by repeat first | exact .head _ | apply List.Mem.tail)
  obtain ⟨lt_gp_4, c0_gp_4, c1_gp_4, c2_gp_4⟩ := HB4.out.r3 (b := gp) (by repeat first | exact .head _ | apply List.Mem.tail)
  obtain ⟨lt_gq_4, c0_gq_4, c1_gq_4, c2_gq_4⟩ := HB4.out.r3 (b := gq) (by repeat first | exact .head _ | apply List.Mem.tail)
  have HN5 := Lib.hid (HB4.out.new #[.int .u64 (rh : Nat), .int .u64 (rl : Nat), .int .i64 (k : Nat)] 27)
  have hd5 := hc4.alloc hc4.size (.cells #[.int .u64 (rh : Nat), .int .u64 (rl : Nat), .int .i64 (k : Nat)] 27)
  go_wp2_with fail
  refine (HRp.out _).mono ?_
  rintro e x5 ⟨rfl, hb5⟩
  have HB5 := Lib.hid (HN5.out.keep hb5)
  have hc5 := below_chain7 hd5 hb5
  generalize x4.heap.size = gr at *
  clear lt_ga_4 c0_ga_4 c1_ga_4 lt_gb_4 c0_gb_4 c1_gb_4 lt_gp_4 c0_gp_4 c1_gp_4 c2_gp_4 lt_gq_4 c0_gq_4 c1_gq_4 c2_gq_4
  clear HN5 HB4 hb5 hd5 hc4
  obtain ⟨lt_ga_5, c0_ga_5, c1_ga_5⟩ := HB5.out.r2 (b := ga) (by repeat first | exact .head _ | apply List.Mem.tail)
  obtain ⟨lt_gb_5, c0_gb_5, c1_gb_5⟩ := HB5.out.r2 (b := gb) (by repeat first | exact .head _ | apply List.Mem.tail)
  obtain ⟨lt_gp_5, c0_gp_5, c1_gp_5, c2_gp_5⟩ := HB5.out.r3 (b := gp) (by repeat first | exact .head _ | apply List.Mem.tail)
  obtain ⟨lt_gq_5, c0_gq_5, c1_gq_5, c2_gq_5⟩ := HB5.out.r3 (b := gq) (by repeat first | exact .head _ | apply List.Mem.tail)
  obtain ⟨lt_gr_5, c0_gr_5, c1_gr_5, c2_gr_5⟩ := HB5.out.r3 (b := gr) (by repeat first | exact .head _ | apply List.Mem.tail)
  go_wp2_with fail
  refine (HHpa.out _).mono ?_
  rintro e x6 ⟨rfl, hb6⟩
  have HB6 := Lib.hid (HB5.out.keep hb6)
  have hc6 := below_chain7 hc5 hb6
  clear lt_ga_5 c0_ga_5 c1_ga_5 lt_gb_5 c0_gb_5 c1_gb_5 lt_gp_5 c0_gp_5 c1_gp_5 c2_gp_5 lt_gq_5 c0_gq_5 c1_gq_5 c2_gq_5 lt_gr_5 c0_gr_5 c1_gr_5 c2_gr_5
  clear HB5 hb6 hc5
  obtain ⟨lt_ga_6, c0_ga_6, c1_ga_6⟩ := HB6.out.r2 (b := ga) (by repeat first | exact .head _ | apply List.Mem.tail)
  obtain ⟨lt_gb_6, c0_gb_6, c1_gb_6⟩ := HB6.out.r2 (b := gb) (by repeat first | exact .head _ | apply List.Mem.tail)
  obtain ⟨lt_gp_6, c0_gp_6, c1_gp_6, c2_gp_6⟩ := HB6.out.r3 (b := gp) (by repeat first | exact .head _ | apply List.Mem.tail)
  obtain ⟨lt_gq_6, c0_gq_6, c1_gq_6, c2_gq_6⟩ := HB6.out.r3 (b := gq) (by repeat first | exact .head _ | apply List.Mem.tail)
  obtain ⟨lt_gr_6, c0_gr_6, c1_gr_6, c2_gr_6⟩ := HB6.out.r3 (b := gr) (by repeat first | exact .head _ | apply List.Mem.tail)
  go_wp2_with fail
  refine (HHqb.out _).mono ?_
  rintro e x7 ⟨rfl, hb7⟩
  have HB7 := Lib.hid (HB6.out.keep hb7)
  have hc7 := below_chain7 hc6 hb7
  clear lt_ga_6 c0_ga_6 c1_ga_6 lt_gb_6 c0_gb_6 c1_gb_6 lt_gp_6 c0_gp_6 c1_gp_6 c2_gp_6 lt_gq_6 c0_gq_6 c1_gq_6 c2_gq_6 lt_gr_6 c0_gr_6 c1_gr_6 c2_gr_6
  clear HB6 hb7 hc6
  obtain ⟨lt_ga_7, c0_ga_7, c1_ga_7⟩ := HB7.out.r2 (b := ga) (by repeat first | exact .head _ | apply List.Mem.tail)
  obtain ⟨lt_gb_7, c0_gb_7, c1_gb_7⟩ := HB7.out.r2 (b := gb) (by repeat first | exact .head _ | apply List.Mem.tail)
  obtain ⟨lt_gp_7, c0_gp_7, c1_gp_7, c2_gp_7⟩ := HB7.out.r3 (b := gp) (by repeat first | exact .head _ | apply List.Mem.tail)
  obtain ⟨lt_gq_7, c0_gq_7, c1_gq_7, c2_gq_7⟩ := HB7.out.r3 (b := gq) (by repeat first | exact .head _ | apply List.Mem.tail)
  obtain ⟨lt_gr_7, c0_gr_7, c1_gr_7, c2_gr_7⟩ := HB7.out.r3 (b := gr) (by repeat first | exact .head _ | apply List.Mem.tail)
  go_wp2_with fail
  refine (HCpr.out _).mono ?_
  rintro e x8 ⟨rfl, hb8⟩
  have HB8 := Lib.hid (HB7.out.keep hb8)
  have hc8 := below_chain7 hc7 hb8
  clear lt_ga_7 c0_ga_7 c1_ga_7 lt_gb_7 c0_gb_7 c1_gb_7 lt_gp_7 c0_gp_7 c1_gp_7 c2_gp_7 lt_gq_7 c0_gq_7 c1_gq_7 c2_gq_7 lt_gr_7 c0_gr_7 c1_gr_7 c2_gr_7
  clear HB7 hb8 hc7
  obtain ⟨lt_ga_8, c0_ga_8, c1_ga_8⟩ := HB8.out.r2 (b := ga) (by repeat first | exact .head _ | apply List.Mem.tail)
  obtain ⟨lt_gb_8, c0_gb_8, c1_gb_8⟩ := HB8.out.r2 (b := gb) (by repeat first | exact .head _ | apply List.Mem.tail)
  obtain ⟨lt_gp_8, c0_gp_8, c1_gp_8, c2_gp_8⟩ := HB8.out.r3 (b := gp) (by repeat first | exact .head _ | apply List.Mem.tail)
  obtain ⟨lt_gq_8, c0_gq_8, c1_gq_8, c2_gq_8⟩ := HB8.out.r3 (b := gq) (by repeat first | exact .head _ | apply List.Mem.tail)
  obtain ⟨lt_gr_8, c0_gr_8, c1_gr_8, c2_gr_8⟩ := HB8.out.r3 (b := gr) (by repeat first | exact .head _ | apply List.Mem.tail)
  go_wp2_with fail
  refine (HCpq.out _).mono ?_
  rintro e x9 ⟨rfl, hb9⟩
  have HB9 := Lib.hid (HB8.out.keep hb9)
  have hc9 := below_chain7 hc8 hb9
  clear lt_ga_8 c0_ga_8 c1_ga_8 lt_gb_8 c0_gb_8 c1_gb_8 lt_gp_8 c0_gp_8 c1_gp_8 c2_gp_8 lt_gq_8 c0_gq_8 c1_gq_8 c2_gq_8 lt_gr_8 c0_gr_8 c1_gr_8 c2_gr_8
  clear HB8 hb9 hc8
  obtain ⟨lt_ga_9, c0_ga_9, c1_ga_9⟩ := HB9.out.r2 (b := ga) (by repeat first | exact .head _ | apply List.Mem.tail)
  obtain ⟨lt_gb_9, c0_gb_9, c1_gb_9⟩ := HB9.out.r2 (b := gb) (by repeat first | exact .head _ | apply List.Mem.tail)
  obtain ⟨lt_gp_9, c0_gp_9, c1_gp_9, c2_gp_9⟩ := HB9.out.r3 (b := gp) (by repeat first | exact .head _ | apply List.Mem.tail)
  obtain ⟨lt_gq_9, c0_gq_9, c1_gq_9, c2_gq_9⟩ := HB9.out.r3 (b := gq) (by repeat first | exact .head _ | apply List.Mem.tail)
  obtain ⟨lt_gr_9, c0_gr_9, c1_gr_9, c2_gr_9⟩ := HB9.out.r3 (b := gr) (by repeat first | exact .head _ | apply List.Mem.tail)
  go_wp2_with fail
  refine (HHpb.out _).mono ?_
  rintro e x10 ⟨rfl, hb10⟩
  have HB10 := Lib.hid (HB9.out.keep hb10)
  have hc10 := below_chain7 hc9 hb10
  clear lt_ga_9 c0_ga_9 c1_ga_9 lt_gb_9 c0_gb_9 c1_gb_9 lt_gp_9 c0_gp_9 c1_gp_9 c2_gp_9 lt_gq_9 c0_gq_9 c1_gq_9 c2_gq_9 lt_gr_9 c0_gr_9 c1_gr_9 c2_gr_9
  clear HB9 hb10 hc9
  obtain ⟨lt_ga_10, c0_ga_10, c1_ga_10⟩ := HB10.out.r2 (b := ga) (by repeat first | exact .head _ | apply List.Mem.tail)
  obtain ⟨lt_gb_10, c0_gb_10, c1_gb_10⟩ := HB10.out.r2 (b := gb) (by repeat first | exact .head _ | apply List.Mem.tail)
  obtain ⟨lt_gp_10, c0_gp_10, c1_gp_10, c2_gp_10⟩ := HB10.out.r3 (b := gp) (by repeat first | exact .head _ | apply List.Mem.tail)
  obtain ⟨lt_gq_10, c0_gq_10, c1_gq_10, c2_gq_10⟩ := HB10.out.r3 (b := gq) (by repeat first | exact .head _ | apply List.Mem.tail)
  obtain ⟨lt_gr_10, c0_gr_10, c1_gr_10, c2_gr_10⟩ := HB10.out.r3 (b := gr) (by repeat first | exact .head _ | apply List.Mem.tail)
  go_wp2_with fail
  refine (HHqa.out _).mono ?_
  rintro e x11 ⟨rfl, hb11⟩
  have HB11 := Lib.hid (HB10.out.keep hb11)
  have hc11 := below_chain7 hc10 hb11
  clear lt_ga_10 c0_ga_10 c1_ga_10 lt_gb_10 c0_gb_10 c1_gb_10 lt_gp_10 c0_gp_10 c1_gp_10 c2_gp_10 lt_gq_10 c0_gq_10 c1_gq_10 c2_gq_10 lt_gr_10 c0_gr_10 c1_gr_10 c2_gr_10
  clear HB10 hb11 hc10
  obtain ⟨lt_ga_11, c0_ga_11, c1_ga_11⟩ := HB11.out.r2 (b := ga) (by repeat first | exact .head _ | apply List.Mem.tail)
  obtain ⟨lt_gb_11, c0_gb_11, c1_gb_11⟩ := HB11.out.r2 (b := gb) (by repeat first | exact .head _ | apply List.Mem.tail)
  obtain ⟨lt_gp_11, c0_gp_11, c1_gp_11, c2_gp_11⟩ := HB11.out.r3 (b := gp) (by repeat first | exact .head _ | apply List.Mem.tail)
  obtain ⟨lt_gq_11, c0_gq_11, c1_gq_11, c2_gq_11⟩ := HB11.out.r3 (b := gq) (by repeat first | exact .head _ | apply List.Mem.tail)
  obtain ⟨lt_gr_11, c0_gr_11, c1_gr_11, c2_gr_11⟩ := HB11.out.r3 (b := gr) (by repeat first | exact .head _ | apply List.Mem.tail)
  go_wp2_with fail
  refine (HTx.out _ hc11).mono ?_
  rintro e x12 ⟨rfl, hb12⟩
  have HB12 := Lib.hid (HB11.out.keep hb12)
  have hc12 := below_chain7 hc11 hb12
  clear lt_ga_11 c0_ga_11 c1_ga_11 lt_gb_11 c0_gb_11 c1_gb_11 lt_gp_11 c0_gp_11 c1_gp_11 c2_gp_11 lt_gq_11 c0_gq_11 c1_gq_11 c2_gq_11 lt_gr_11 c0_gr_11 c1_gr_11 c2_gr_11
  clear HB11 hb12 hc11
  obtain ⟨lt_ga_12, c0_ga_12, c1_ga_12⟩ := HB12.out.r2 (b := ga) (by repeat first | exact .head _ | apply List.Mem.tail)
  obtain ⟨lt_gb_12, c0_gb_12, c1_gb_12⟩ := HB12.out.r2 (b := gb) (by repeat first | exact .head _ | apply List.Mem.tail)
  obtain ⟨lt_gp_12, c0_gp_12, c1_gp_12, c2_gp_12⟩ := HB12.out.r3 (b := gp) (by repeat first | exact .head _ | apply List.Mem.tail)
  obtain ⟨lt_gq_12, c0_gq_12, c1_gq_12, c2_gq_12⟩ := HB12.out.r3 (b := gq) (by repeat first | exact .head _ | apply List.Mem.tail)
  obtain ⟨lt_gr_12, c0_gr_12, c1_gr_12, c2_gr_12⟩ := HB12.out.r3 (b := gr) (by repeat first | exact .head _ | apply List.Mem.tail)
  go_wp2_with fail
  refine (HPs.out _ hc12).mono ?_
  rintro e x13 ⟨rfl, hb13⟩
  have HB13 := Lib.hid (HB12.out.keep hb13)
  have hc13 := below_chain7 hc12 hb13
  clear lt_ga_12 c0_ga_12 c1_ga_12 lt_gb_12 c0_gb_12 c1_gb_12 lt_gp_12 c0_gp_12 c1_gp_12 c2_gp_12 lt_gq_12 c0_gq_12 c1_gq_12 c2_gq_12 lt_gr_12 c0_gr_12 c1_gr_12 c2_gr_12
  clear HB12 hb13 hc12
  obtain ⟨lt_ga_13, c0_ga_13, c1_ga_13⟩ := HB13.out.r2 (b := ga) (by repeat first | exact .head _ | apply List.Mem.tail)
  obtain ⟨lt_gb_13, c0_gb_13, c1_gb_13⟩ := HB13.out.r2 (b := gb) (by repeat first | exact .head _ | apply List.Mem.tail)
  obtain ⟨lt_gp_13, c0_gp_13, c1_gp_13, c2_gp_13⟩ := HB13.out.r3 (b := gp) (by repeat first | exact .head _ | apply List.Mem.tail)
  obtain ⟨lt_gq_13, c0_gq_13, c1_gq_13, c2_gq_13⟩ := HB13.out.r3 (b := gq) (by repeat first | exact .head _ | apply List.Mem.tail)
  obtain ⟨lt_gr_13, c0_gr_13, c1_gr_13, c2_gr_13⟩ := HB13.out.r3 (b := gr) (by repeat first | exact .head _ | apply List.Mem.tail)
  go_wp2
  go_ret
  exact ⟨rfl, hc13.alloc hc13.size _⟩

set_option maxRecDepth 100000 in
set_option maxHeartbeats 8000000 in
theorem nests_bft (hi lo ho hl n m i k ph pl qh ql rh rl : Nat) (X : List UInt8) (w : World) (hbru : BruTab w) (hmax : MaxVar w) (hn : n ≤ 255) (hm : m ≤ 255) (hni : (n : Int) % 129 = (i : Nat)) (hmk : (m : Int) % 129 = (k : Nat)) (hle' : decide (i ≤ k) = true)
    (HOp : Hid (∀ W, Calls Tryd.prog 6 #[.iface 25 (.agg #[.int .u64 (hi : Nat), .int .u64 (lo : Nat)]), .int .i64 (i : Nat)] W fun e w' => e = .returned (.tuple #[.agg #[.int .u64 (ph : Nat), .int .u64 (pl : Nat), .int .i64 (i : Nat)], .bool true]) ∧ Below W.heap.size W w'))
    (HOq : Hid (∀ W, Calls Tryd.prog 6 #[.iface 25 (.agg #[.int .u64 (ho : Nat), .int .u64 (hl : Nat)]), .int .i64 (k : Nat)] W fun e w' => e = .returned (.tuple #[.agg #[.int .u64 (qh : Nat), .int .u64 (ql : Nat), .int .i64 (k : Nat)], .bool true]) ∧ Below W.heap.size W w'))
    (HOr : Hid (∀ W, Calls Tryd.prog 6 #[.iface 25 (.agg #[.int .u64 (hi : Nat), .int .u64 (lo : Nat)]), .int .i64 (k : Nat)] W fun e w' => e = .returned (.tuple #[.agg #[.int .u64 (rh : Nat), .int .u64 (rl : Nat), .int .i64 (k : Nat)], .bool true]) ∧ Below W.heap.size W w'))
    (HRp : Hid (∀ W, Calls Tryd.prog 7 #[.agg #[.int .u64 (ph : Nat), .int .u64 (pl : Nat), .int .i64 (i : Nat)]] W fun e w' => e = .returned (.bool true) ∧ Below W.heap.size W w'))
    (HHpa : Hid (∀ W, Calls Tryd.prog 8 #[.agg #[.int .u64 (ph : Nat), .int .u64 (pl : Nat), .int .i64 (i : Nat)], .iface 25 (.agg #[.int .u64 (hi : Nat), .int .u64 (lo : Nat)])] W fun e w' => e = .returned (.bool true) ∧ Below W.heap.size W w'))
    (HHqb : Hid (∀ W, Calls Tryd.prog 8 #[.agg #[.int .u64 (qh : Nat), .int .u64 (ql : Nat), .int .i64 (k : Nat)], .iface 25 (.agg #[.int .u64 (ho : Nat), .int .u64 (hl : Nat)])] W fun e w' => e = .returned (.bool true) ∧ Below W.heap.size W w'))
    (HCpr : Hid (∀ W, Calls Tryd.prog 9 #[.agg #[.int .u64 (ph : Nat), .int .u64 (pl : Nat), .int .i64 (i : Nat)], .agg #[.int .u64 (rh : Nat), .int .u64 (rl : Nat), .int .i64 (k : Nat)]] W fun e w' => e = .returned (.bool true) ∧ Below W.heap.size W w'))
    (HCpq : Hid (∀ W, Calls Tryd.prog 9 #[.agg #[.int .u64 (ph : Nat), .int .u64 (pl : Nat), .int .i64 (i : Nat)], .agg #[.int .u64 (qh : Nat), .int .u64 (ql : Nat), .int .i64 (k : Nat)]] W fun e w' => e = .returned (.bool false) ∧ Below W.heap.size W w'))
    (HHqa : Hid (∀ W, Calls Tryd.prog 8 #[.agg #[.int .u64 (qh : Nat), .int .u64 (ql : Nat), .int .i64 (k : Nat)], .iface 25 (.agg #[.int .u64 (hi : Nat), .int .u64 (lo : Nat)])] W fun e w' => e = .returned (.bool true) ∧ Below W.heap.size W w'))
    (HHpb : Hid (∀ W, Calls Tryd.prog 8 #[.agg #[.int .u64 (ph : Nat), .int .u64 (pl : Nat), .int .i64 (i : Nat)], .iface 25 (.agg #[.int .u64 (ho : Nat), .int .u64 (hl : Nat)])] W fun e w' => e = .returned (.bool false) ∧ Below W.heap.size W w'))
    (HCqp : Hid (∀ W, Calls Tryd.prog 9 #[.agg #[.int .u64 (qh : Nat), .int .u64 (ql : Nat), .int .i64 (k : Nat)], .agg #[.int .u64 (ph : Nat), .int .u64 (pl : Nat), .int .i64 (i : Nat)]] W fun e w' => e = .returned (.bool true) ∧ Below W.heap.size W w'))
    (HTx : Hid (∀ W, Below w.heap.size w W → Calls Tryd.prog 11 #[.agg #[.int .u64 (ph : Nat), .int .u64 (pl : Nat), .int .i64 (i : Nat)]] W (RetStr W X)))
    (HPs : Hid (∀ W, Below w.heap.size w W → Calls Tryd.prog 10 #[.string ⟨X.toArray⟩] W fun e w' => e = .returned (.tuple #[.agg #[.int .u64 (ph : Nat), .int .u64 (pl : Nat), .int .i64 (i : Nat)], .bool true]) ∧ Below W.heap.size W w')) :
    Calls Tryd.prog 3 #[.int .u64 (hi : Nat), .int .u64 (lo : Nat), .int .u64 (ho : Nat), .int .u64 (hl : Nat), .int .u8 (n : Nat), .int .u8 (m : Nat)] w fun e w' => e = .returned (.bool true) ∧ Below w.heap.size w w' := by
  have HT := Lib.hid hbru
  have HX := Lib.hid hmax
  clear hbru hmax
  have heq : ∀ W : World, (binOp .eql 27 (.agg #[.int .u64 (ph : Nat), .int .u64 (pl : Nat), .int .i64 (i : Nat)]) (.agg #[.int .u64 (ph : Nat), .int .u64 (pl : Nat), .int .i64 (i : Nat)])).run Tryd.prog W = .ok (.bool true) W := fun W => by rw [eqPf]; simp
  have hg := eqPf_guard
  go_enter Tryd.func3, Tryd.ntmps3
  go_wp2_with fail
  refine (awake07_any _ HT.out HX.out).mono ?_
  rintro e x1 ⟨rfl, hb1⟩
  have HB1 := Lib.hid (blks_two (Blks.empty x1) #[.int .u64 (hi : Nat), .int .u64 (lo : Nat)] #[.int .u64 (ho : Nat), .int .u64 (hl : Nat)] 25 25)
  have hc1 : Below w.heap.size w ((x1.alloc (.cells #[.int .u64 (hi : Nat), .int .u64 (lo : Nat)] 25)).alloc (.cells #[.int .u64 (ho : Nat), .int .u64 (hl : Nat)] 25)) := (hb1.alloc hb1.size _).alloc (hb1.alloc hb1.size (.cells #[.int .u64 (hi : Nat), .int .u64 (lo : Nat)] 25)).size _
  go_wp2_with fail
  refine (HOp.out _).mono ?_
  rintro e x2 ⟨rfl, hb2⟩
  have HB2 := Lib.hid (HB1.out.keep hb2)
  have hc2 := below_chain7 hc1 hb2
  generalize x1.heap.size + 1 = gb at *
  generalize x1.heap.size = ga at *
  clear HB1 hb2 hb1 hc1
  obtain ⟨lt_ga_2, c0_ga_2, c1_ga_2⟩ := HB2.out.r2 (b := ga) (by repeat first | exact .head _ | apply List.Mem.tail)
  obtain ⟨lt_gb_2, c0_gb_2, c1_gb_2⟩ := HB2.out.r2 (b := gb) (by repeat first | exact .head _ | apply List.Mem.tail)
  have HN3 := Lib.hid (HB2.out.new #[.int .u64 (ph : Nat), .int .u64 (pl : Nat), .int .i64 (i : Nat)] 27)
  have hd3 := hc2.alloc hc2.size (.cells #[.int .u64 (ph : Nat), .int .u64 (pl : Nat), .int .i64 (i : Nat)] 27)
  go_wp2_with fail
  refine (HOq.out _).mono ?_
  rintro e x3 ⟨rfl, hb3⟩
  have HB3 := Lib.hid (HN3.out.keep hb3)
  have hc3 := below_chain7 hd3 hb3
  generalize x2.heap.size = gp at *
  clear lt_ga_2 c0_ga_2 c1_ga_2 lt_gb_2 c0_gb_2 c1_gb_2
  clear HN3 HB2 hb3 hd3 hc2
  obtain ⟨lt_ga_3, c0_ga_3, c1_ga_3⟩ := HB3.out.r2 (b := ga) (by repeat first | exact .head _ | apply List.Mem.tail)
  obtain ⟨lt_gb_3, c0_gb_3, c1_gb_3⟩ := HB3.out.r2 (b := gb) (by repeat first | exact .head _ | apply List.Mem.tail)
  obtain ⟨lt_gp_3, c0_gp_3, c1_gp_3, c2_gp_3⟩ := HB3.out.r3 (b := gp) (by repeat first | exact .head _ | apply List.Mem.tail)
  have HN4 := Lib.hid (HB3.out.new #[.int .u64 (qh : Nat), .int .u64 (ql : Nat), .int .i64 (k : Nat)] 27)
  have hd4 := hc3.alloc hc3.size (.cells #[.int .u64 (qh : Nat), .int .u64 (ql : Nat), .int .i64 (k : Nat)] 27)
  go_wp2_with fail
  refine (HOr.out _).mono ?_
  rintro e x4 ⟨rfl, hb4⟩
  have HB4 := Lib.hid (HN4.out.keep hb4)
  have hc4 := below_chain7 hd4 hb4
  generalize x3.heap.size = gq at *
  clear lt_ga_3 c0_ga_3 c1_ga_3 lt_gb_3 c0_gb_3 c1_gb_3 lt_gp_3 c0_gp_3 c1_gp_3 c2_gp_3
  clear HN4 HB3 hb4 hd4 hc3
  obtain ⟨lt_ga_4, c0_ga_4, c1_ga_4⟩ := HB4.out.r2 (b := ga) (by repeat first | exact .head _ | apply List.Mem.tail)
  obtain ⟨lt_gb_4, c0_gb_4, c1_gb_4⟩ := HB4.out.r2 (b := gb) (by repeat first | exact .head _ | apply List.Mem.tail)
  obtain ⟨lt_gp_4, c0_gp_4, c1_gp_4, c2_gp_4⟩ := HB4.out.r3 (b := gp) (by repeat first | exact .head _ | apply List.Mem.tail)
  obtain ⟨lt_gq_4, c0_gq_4, c1_gq_4, c2_gq_4⟩ := HB4.out.r3 (b := gq) (by repeat first | exact .head _ | apply List.Mem.tail)
  have HN5 := Lib.hid (HB4.out.new #[.int .u64 (rh : Nat), .int .u64 (rl : Nat), .int .i64 (k : Nat)] 27)
  have hd5 := hc4.alloc hc4.size (.cells #[.int .u64 (rh : Nat), .int .u64 (rl : Nat), .int .i64 (k : Nat)] 27)
  go_wp2_with fail
  refine (HRp.out _).mono ?_
  rintro e x5 ⟨rfl, hb5⟩
  have HB5 := Lib.hid (HN5.out.keep hb5)
  have hc5 := below_chain7 hd5 hb5
  generalize x4.heap.size = gr at *
  clear lt_ga_4 c0_ga_4 c1_ga_4 lt_gb_4 c0_gb_4 c1_gb_4 lt_gp_4 c0_gp_4 c1_gp_4 c2_gp_4 lt_gq_4 c0_gq_4 c1_gq_4 c2_gq_4
  clear HN5 HB4 hb5 hd5 hc4
  obtain ⟨lt_ga_5, c0_ga_5, c1_ga_5⟩ := HB5.out.r2 (b := ga) (by repeat first | exact .head _ | apply List.Mem.tail)
  obtain ⟨lt_gb_5, c0_gb_5, c1_gb_5⟩ := HB5.out.r2 (b := gb) (by repeat first | exact .head _ | apply List.Mem.tail)
  obtain ⟨lt_gp_5, c0_gp_5, c1_gp_5, c2_gp_5⟩ := HB5.out.r3 (b := gp) (by repeat first | exact .head _ | apply List.Mem.tail)
  obtain ⟨lt_gq_5, c0_gq_5, c1_gq_5, c2_gq_5⟩ := HB5.out.r3 (b := gq) (by repeat first | exact .head _ | apply List.Mem.tail)
  obtain ⟨lt_gr_5, c0_gr_5, c1_gr_5, c2_gr_5⟩ := HB5.out.r3 (b := gr) (by repeat first | exact .head _ | apply List.Mem.tail)
  go_wp2_with fail
  refine (HHpa.out _).mono ?_
  rintro e x6 ⟨rfl, hb6⟩
  have HB6 := Lib.hid (HB5.out.keep hb6)
  have hc6 := below_chain7 hc5 hb6
  clear lt_ga_5 c0_ga_5 c1_ga_5 lt_gb_5 c0_gb_5 c1_gb_5 lt_gp_5 c0_gp_5 c1_gp_5 c2_gp_5 lt_gq_5 c0_gq_5 c1_gq_5 c2_gq_5 lt_gr_5 c0_gr_5 c1_gr_5 c2_gr_5
  clear HB5 hb6 hc5
  obtain ⟨lt_ga_6, c0_ga_6, c1_ga_6⟩ := HB6.out.r2 (b := ga) (by repeat first | exact .head _ | apply List.Mem.tail)
  obtain ⟨lt_gb_6, c0_gb_6, c1_gb_6⟩ := HB6.out.r2 (b := gb) (by repeat first | exact .head _ | apply List.Mem.tail)
  obtain ⟨lt_gp_6, c0_gp_6, c1_gp_6, c2_gp_6⟩ := HB6.out.r3 (b := gp) (by repeat first | exact .head _ | apply List.Mem.tail)
  obtain ⟨lt_gq_6, c0_gq_6, c1_gq_6, c2_gq_6⟩ := HB6.out.r3 (b := gq) (by repeat first | exact .head _ | apply List.Mem.tail)
  obtain ⟨lt_gr_6, c0_gr_6, c1_gr_6, c2_gr_6⟩ := HB6.out.r3 (b := gr) (by repeat first | exact .head _ | apply List.Mem.tail)
  go_wp2_with fail
  refine (HHqb.out _).mono ?_
  rintro e x7 ⟨rfl, hb7⟩
  have HB7 := Lib.hid (HB6.out.keep hb7)
  have hc7 := below_chain7 hc6 hb7
  clear lt_ga_6 c0_ga_6 c1_ga_6 lt_gb_6 c0_gb_6 c1_gb_6 lt_gp_6 c0_gp_6 c1_gp_6 c2_gp_6 lt_gq_6 c0_gq_6 c1_gq_6 c2_gq_6 lt_gr_6 c0_gr_6 c1_gr_6 c2_gr_6
  clear HB6 hb7 hc6
  obtain ⟨lt_ga_7, c0_ga_7, c1_ga_7⟩ := HB7.out.r2 (b := ga) (by repeat first | exact .head _ | apply List.Mem.tail)
  obtain ⟨lt_gb_7, c0_gb_7, c1_gb_7⟩ := HB7.out.r2 (b := gb) (by repeat first | exact .head _ | apply List.Mem.tail)
  obtain ⟨lt_gp_7, c0_gp_7, c1_gp_7, c2_gp_7⟩ := HB7.out.r3 (b := gp) (by repeat first | exact .head _ | apply List.Mem.tail)
  obtain ⟨lt_gq_7, c0_gq_7, c1_gq_7, c2_gq_7⟩ := HB7.out.r3 (b := gq) (by repeat first | exact .head _ | apply List.Mem.tail)
  obtain ⟨lt_gr_7, c0_gr_7, c1_gr_7, c2_gr_7⟩ := HB7.out.r3 (b := gr) (by repeat first | exact .head _ | apply List.Mem.tail)
  go_wp2_with fail
  refine (HCpr.out _).mono ?_
  rintro e x8 ⟨rfl, hb8⟩
  have HB8 := Lib.hid (HB7.out.keep hb8)
  have hc8 := below_chain7 hc7 hb8
  clear lt_ga_7 c0_ga_7 c1_ga_7 lt_gb_7 c0_gb_7 c1_gb_7 lt_gp_7 c0_gp_7 c1_gp_7 c2_gp_7 lt_gq_7 c0_gq_7 c1_gq_7 c2_gq_7 lt_gr_7 c0_gr_7 c1_gr_7 c2_gr_7
  clear HB7 hb8 hc7
  obtain ⟨lt_ga_8, c0_ga_8, c1_ga_8⟩ := HB8.out.r2 (b := ga) (by repeat first | exact .head _ | apply List.Mem.tail)
  obtain ⟨lt_gb_8, c0_gb_8, c1_gb_8⟩ := HB8.out.r2 (b := gb) (by repeat first | exact .head _ | apply List.Mem.tail)
  obtain ⟨lt_gp_8, c0_gp_8, c1_gp_8, c2_gp_8⟩ := HB8.out.r3 (b := gp) (by repeat first | exact .head _ | apply List.Mem.tail)
  obtain ⟨lt_gq_8, c0_gq_8, c1_gq_8, c2_gq_8⟩ := HB8.out.r3 (b := gq) (by repeat first | exact .head _ | apply List.Mem.tail)
  obtain ⟨lt_gr_8, c0_gr_8, c1_gr_8, c2_gr_8⟩ := HB8.out.r3 (b := gr) (by repeat first | exact .head _ | apply List.Mem.tail)
  go_wp2_with fail
  refine (HCpq.out _).mono ?_
  rintro e x9 ⟨rfl, hb9⟩
  have HB9 := Lib.hid (HB8.out.keep hb9)
  have hc9 := below_chain7 hc8 hb9
  clear lt_ga_8 c0_ga_8 c1_ga_8 lt_gb_8 c0_gb_8 c1_gb_8 lt_gp_8 c0_gp_8 c1_gp_8 c2_gp_8 lt_gq_8 c0_gq_8 c1_gq_8 c2_gq_8 lt_gr_8 c0_gr_8 c1_gr_8 c2_gr_8
  clear HB8 hb9 hc8
  obtain ⟨lt_ga_9, c0_ga_9, c1_ga_9⟩ := HB9.out.r2 (b := ga) (by repeat first | exact .head _ | apply List.Mem.tail)
  obtain ⟨lt_gb_9, c0_gb_9, c1_gb_9⟩ := HB9.out.r2 (b := gb) (by repeat first | exact .head _ | apply List.Mem.tail)
  obtain ⟨lt_gp_9, c0_gp_9, c1_gp_9, c2_gp_9⟩ := HB9.out.r3 (b := gp) (by repeat first | exact .head _ | apply List.Mem.tail)
  obtain ⟨lt_gq_9, c0_gq_9, c1_gq_9, c2_gq_9⟩ := HB9.out.r3 (b := gq) (by repeat first | exact .head _ | apply List.Mem.tail)
  obtain ⟨lt_gr_9, c0_gr_9, c1_gr_9, c2_gr_9⟩ := HB9.out.r3 (b := gr) (by repeat first | exact .head _ | apply List.Mem.tail)
  go_wp2_with fail
  refine (HHpb.out _).mono ?_
  rintro e x10 ⟨rfl, hb10⟩
  have HB10 := Lib.hid (HB9.out.keep hb10)
  have hc10 := below_chain7 hc9 hb10
  clear lt_ga_9 c0_ga_9 c1_ga_9 lt_gb_9 c0_gb_9 c1_gb_9 lt_gp_9 c0_gp_9 c1_gp_9 c2_gp_9 lt_gq_9 c0_gq_9 c1_gq_9 c2_gq_9 lt_gr_9 c0_gr_9 c1_gr_9 c2_gr_9
  clear HB9 hb10 hc9
  obtain ⟨lt_ga_10, c0_ga_10, c1_ga_10⟩ := HB10.out.r2 (b := ga) (by repeat first | exact .head _ | apply List.Mem.tail)
  obtain ⟨lt_gb_10, c0_gb_10, c1_gb_10⟩ := HB10.out.r2 (b := gb) (by repeat first | exact .head _ | apply List.Mem.tail)
  obtain ⟨lt_gp_10, c0_gp_10, c1_gp_10, c2_gp_10⟩ := HB10.out.r3 (b := gp) (by repeat first | exact .head _ | apply List.Mem.tail)
  obtain ⟨lt_gq_10, c0_gq_10, c1_gq_10, c2_gq_10⟩ := HB10.out.r3 (b := gq) (by repeat first | exact .head _ | apply List.Mem.tail)
  obtain ⟨lt_gr_10, c0_gr_10, c1_gr_10, c2_gr_10⟩ := HB10.out.r3 (b := gr) (by repeat first | exact .head _ | apply List.Mem.tail)
  go_wp2_with fail
  refine (HHqa.out _).mono ?_
  rintro e x11 ⟨rfl, hb11⟩
  have HB11 := Lib.hid (HB10.out.keep hb11)
  have hc11 := below_chain7 hc10 hb11
  clear lt_ga_10 c0_ga_10 c1_ga_10 lt_gb_10 c0_gb_10 c1_gb_10 lt_gp_10 c0_gp_10 c1_gp_10 c2_gp_10 lt_gq_10 c0_gq_10 c1_gq_10 c2_gq_10 lt_gr_10 c0_gr_10 c1_gr_10 c2_gr_10
  clear HB10 hb11 hc10
  obtain ⟨lt_ga_11, c0_ga_11, c1_ga_11⟩ := HB11.out.r2 (b := ga) (by repeat first | exact .head _ | apply List.Mem.tail)
  obtain ⟨lt_gb_11, c0_gb_11, c1_gb_11⟩ := HB11.out.r2 (b := gb) (by repeat first | exact .head _ | apply List.Mem.tail)
  obtain ⟨lt_gp_11, c0_gp_11, c1_gp_11, c2_gp_11⟩ := HB11.out.r3 (b := gp) (by repeat first | exact .head _ | apply List.Mem.tail)
  obtain ⟨lt_gq_11, c0_gq_11, c1_gq_11, c2_gq_11⟩ := HB11.out.r3 (b := gq) (by repeat first | exact .head _ | apply List.Mem.tail)
  obtain ⟨lt_gr_11, c0_gr_11, c1_gr_11, c2_gr_11⟩ := HB11.out.r3 (b := gr) (by repeat first | exact .head _ | apply List.Mem.tail)
  go_wp2_with fail
  refine (HCpq.out _).mono ?_
  rintro e x12 ⟨rfl, hb12⟩
  have HB12 := Lib.hid (HB11.out.keep hb12)
  have hc12 := below_chain7 hc11 hb12
  clear lt_ga_11 c0_ga_11 c1_ga_11 lt_gb_11 c0_gb_11 c1_gb_11 lt_gp_11 c0_gp_11 c1_gp_11 c2_gp_11 lt_gq_11 c0_gq_11 c1_gq_11 c2_gq_11 lt_gr_11 c0_gr_11 c1_gr_11 c2_gr_11
  clear HB11 hb12 hc11
  obtain ⟨lt_ga_12, c0_ga_12, c1_ga_12⟩ := HB12.out.r2 (b := ga) (by repeat first | exact .head _ | apply List.Mem.tail)
  obtain ⟨lt_gb_12, c0_gb_12, c1_gb_12⟩ := HB12.out.r2 (b := gb) (by repeat first | exact .head _ | apply List.Mem.tail)
  obtain ⟨lt_gp_12, c0_gp_12, c1_gp_12, c2_gp_12⟩ := HB12.out.r3 (b := gp) (by repeat first | exact .head _ | apply List.Mem.tail)
  obtain ⟨lt_gq_12, c0_gq_12, c1_gq_12, c2_gq_12⟩ := HB12.out.r3 (b := gq) (by repeat first | exact .head _ | apply List.Mem.tail)
  obtain ⟨lt_gr_12, c0_gr_12, c1_gr_12, c2_gr_12⟩ := HB12.out.r3 (b := gr) (by repeat first | exact .head _ | apply List.Mem.tail)
  go_wp2_with fail
  refine (HCqp.out _).mono ?_
  rintro e x13 ⟨rfl, hb13⟩
  have HB13 := Lib.hid (HB12.out.keep hb13)
  have hc13 := below_chain7 hc12 hb13
  clear lt_ga_12 c0_ga_12 c1_ga_12 lt_gb_12 c0_gb_12 c1_gb_12 lt_gp_12 c0_gp_12 c1_gp_12 c2_gp_12 lt_gq_12 c0_gq_12 c1_gq_12 c2_gq_12 lt_gr_12 c0_gr_12 c1_gr_12 c2_gr_12
  clear HB12 hb13 hc12
  obtain ⟨lt_ga_13, c0_ga_13, c1_ga_13⟩ := HB13.out.r2 (b := ga) (by repeat first | exact .head _ | apply List.Mem.tail)
  obtain ⟨lt_gb_13, c0_gb_13, c1_gb_13⟩ := HB13.out.r2 (b := gb) (by repeat first | exact .head _ | apply List.Mem.tail)
  obtain ⟨lt_gp_13, c0_gp_13, c1_gp_13, c2_gp_13⟩ := HB13.out.r3 (b := gp) (by repeat first | exact .head _ | apply List.Mem.tail)
  obtain ⟨lt_gq_13, c0_gq_13, c1_gq_13, c2_gq_13⟩ := HB13.out.r3 (b := gq) (by repeat first | exact .head _ | apply List.Mem.tail)
  obtain ⟨lt_gr_13, c0_gr_13, c1_gr_13, c2_gr_13⟩ := HB13.out.r3 (b := gr) (by repeat first | exact .head _ | apply List.Mem.tail)
  go_wp2_with fail
  refine (HTx.out _ hc13).mono ?_
  rintro e x14 ⟨rfl, hb14⟩
  have HB14 := Lib.hid (HB13.out.keep hb14)
  have hc14 := below_chain7 hc13 hb14
  clear lt_ga_13 c0_ga_13 c1_ga_13 lt_gb_13 c0_gb_13 c1_gb_13 lt_gp_13 c0_gp_13 c1_gp_13 c2_gp_13 lt_gq_13 c0_gq_13 c1_gq_13 c2_gq_13 lt_gr_13 c0_gr_13 c1_gr_13 c2_gr_13
  clear HB13 hb14 hc13
  obtain ⟨lt_ga_14, c0_ga_14, c1_ga_14⟩ := HB14.out.r2 (b := ga) (by repeat first | exact .head _ | apply List.Mem.tail)
  obtain ⟨lt_gb_14, c0_gb_14, c1_gb_14⟩ := HB14.out.r2 (b := gb) (by repeat first | exact .head _ | apply List.Mem.tail)
  obtain ⟨lt_gp_14, c0_gp_14, c1_gp_14, c2_gp_14⟩ := HB14.out.r3 (b := gp) (by repeat first | exact .head _ | apply List.Mem.tail)
  obtain ⟨lt_gq_14, c0_gq_14, c1_gq_14, c2_gq_14⟩ := HB14.out.r3 (b := gq) (by repeat first | exact .head _ | apply List.Mem.tail)
  obtain ⟨lt_gr_14, c0_gr_14, c1_gr_14, c2_gr_14⟩ := HB14.out.r3 (b := gr) (by repeat first | exact .head _ | apply List.Mem.tail)
  go_wp2_with fail
  refine (HPs.out _ hc14).mono ?_
  rintro e x15 ⟨rfl, hb15⟩
  have HB15 := Lib.hid (HB14.out.keep hb15)
  have hc15 := below_chain7 hc14 hb15
  clear lt_ga_14 c0_ga_14 c1_ga_14 lt_gb_14 c0_gb_14 c1_gb_14 lt_gp_14 c0_gp_14 c1_gp_14 c2_gp_14 lt_gq_14 c0_gq_14 c1_gq_14 c2_gq_14 lt_gr_14 c0_gr_14 c1_gr_14 c2_gr_14
  clear HB14 hb15 hc14
  obtain ⟨lt_ga_15, c0_ga_15, c1_ga_15⟩ := HB15.out.r2 (b := ga) (by repeat first | exact .head _ | apply List.Mem.tail)
  obtain ⟨lt_gb_15, c0_gb_15, c1_gb_15⟩ := HB15.out.r2 (b := gb) (by repeat first | exact .head _ | apply List.Mem.tail)
  obtain ⟨lt_gp_15, c0_gp_15, c1_gp_15, c2_gp_15⟩ := HB15.out.r3 (b := gp) (by repeat first | exact .head _ | apply List.Mem.tail)
  obtain ⟨lt_gq_15, c0_gq_15, c1_gq_15, c2_gq_15⟩ := HB15.out.r3 (b := gq) (by repeat first | exact .head _ | apply List.Mem.tail)
  obtain ⟨lt_gr_15, c0_gr_15, c1_gr_15, c2_gr_15⟩ := HB15.out.r3 (b := gr) (by repeat first | exact .head _ | apply List.Mem.tail)
  go_wp2
  go_ret
  exact ⟨rfl, hc15.alloc hc15.size _⟩

set_option maxRecDepth 100000 in
set_option maxHeartbeats 8000000 in
theorem nests_cff (hi lo ho hl n m i k ph pl qh ql rh rl : Nat) (X : List UInt8) (w : World) (hbru : BruTab w) (hmax : MaxVar w) (hn : n ≤ 255) (hm : m ≤ 255) (hni : (n : Int) % 129 = (i : Nat)) (hmk : (m : Int) % 129 = (k : Nat)) (hle' : decide (i ≤ k) = false)
    (HOp : Hid (∀ W, Calls Tryd.prog 6 #[.iface 25 (.agg #[.int .u64 (hi : Nat), .int .u64 (lo : Nat)]), .int .i64 (i : Nat)] W fun e w' => e = .returned (.tuple #[.agg #[.int .u64 (ph : Nat), .int .u64 (pl : Nat), .int .i64 (i : Nat)], .bool true]) ∧ Below W.heap.size W w'))
    (HOq : Hid (∀ W, Calls Tryd.prog 6 #[.iface 25 (.agg #[.int .u64 (ho : Nat), .int .u64 (hl : Nat)]), .int .i64 (k : Nat)] W fun e w' => e = .returned (.tuple #[.agg #[.int .u64 (qh : Nat), .int .u64 (ql : Nat), .int .i64 (k : Nat)], .bool true]) ∧ Below W.heap.size W w'))
    (HOr : Hid (∀ W, Calls Tryd.prog 6 #[.iface 25 (.agg #[.int .u64 (hi : Nat), .int .u64 (lo : Nat)]), .int .i64 (k : Nat)] W fun e w' => e = .returned (.tuple #[.agg #[.int .u64 (rh : Nat), .int .u64 (rl : Nat), .int .i64 (k : Nat)], .bool true]) ∧ Below W.heap.size W w'))
    (HRp : Hid (∀ W, Calls Tryd.prog 7 #[.agg #[.int .u64 (ph : Nat), .int .u64 (pl : Nat), .int .i64 (i : Nat)]] W fun e w' => e = .returned (.bool true) ∧ Below W.heap.size W w'))
    (HHpa : Hid (∀ W, Calls Tryd.prog 8 #[.agg #[.int .u64 (ph : Nat), .int .u64 (pl : Nat), .int .i64 (i : Nat)], .iface 25 (.agg #[.int .u64 (hi : Nat), .int .u64 (lo : Nat)])] W fun e w' => e = .returned (.bool true) ∧ Below W.heap.size W w'))
    (HHqb : Hid (∀ W, Calls Tryd.prog 8 #[.agg #[.int .u64 (qh : Nat), .int .u64 (ql : Nat), .int .i64 (k : Nat)], .iface 25 (.agg #[.int .u64 (ho : Nat), .int .u64 (hl : Nat)])] W fun e w' => e = .returned (.bool true) ∧ Below W.heap.size W w'))
    (HCpr : Hid (∀ W, Calls Tryd.prog 9 #[.agg #[.int .u64 (ph : Nat), .int .u64 (pl : Nat), .int .i64 (i : Nat)], .agg #[.int .u64 (rh : Nat), .int .u64 (rl : Nat), .int .i64 (k : Nat)]] W fun e w' => e = .returned (.bool false) ∧ Below W.heap.size W w'))
    (HCpq : Hid (∀ W, Calls Tryd.prog 9 #[.agg #[.int .u64 (ph : Nat), .int .u64 (pl : Nat), .int .i64 (i : Nat)], .agg #[.int .u64 (qh : Nat), .int .u64 (ql : Nat), .int .i64 (k : Nat)]] W fun e w' => e = .returned (.bool false) ∧ Below W.heap.size W w'))
    (HHqa : Hid (∀ W, Calls Tryd.prog 8 #[.agg #[.int .u64 (qh : Nat), .int .u64 (ql : Nat), .int .i64 (k : Nat)], .iface 25 (.agg #[.int .u64 (hi : Nat), .int .u64 (lo : Nat)])] W fun e w' => e = .returned (.bool false) ∧ Below W.heap.size W w'))
    (HTx : Hid (∀ W, Below w.heap.size w W → Calls Tryd.prog 11 #[.agg #[.int .u64 (ph : Nat), .int .u64 (pl : Nat), .int .i64 (i : Nat)]] W (RetStr W X)))
    (HPs : Hid (∀ W, Below w.heap.size w W → Calls Tryd.prog 10 #[.string ⟨X.toArray⟩] W fun e w' => e = .returned (.tuple #[.agg #[.int .u64 (ph : Nat), .int .u64 (pl : Nat), .int .i64 (i : Nat)], .bool true]) ∧ Below W.heap.size W w')) :
    Calls Tryd.prog 3 #[.int .u64 (hi : Nat), .int .u64 (lo : Nat), .int .u64 (ho : Nat), .int .u64 (hl : Nat), .int .u8 (n : Nat), .int .u8 (m : Nat)] w fun e w' => e = .returned (.bool true) ∧ Below w.heap.size w w' := by
  have HT := Lib.hid hbru
  have HX := Lib.hid hmax
  clear hbru hmax
  have heq : ∀ W : World, (binOp .eql 27 (.agg #[.int .u64 (ph : Nat), .int .u64 (pl : Nat), .int .i64 (i : Nat)]) (.agg #[.int .u64 (ph : Nat), .int .u64 (pl : Nat), .int .i64 (i : Nat)])).run Tryd.prog W = .ok (.bool true) W := fun W => by rw [eqPf]; simp
  have hg := eqPf_guard
  go_enter Tryd.func3, Tryd.ntmps3
  go_wp2_with fail
  refine (awake07_any _ HT.out HX.out).mono ?_
  rintro e x1 ⟨rfl, hb1⟩
  have HB1 := Lib.hid (blks_two (Blks.empty x1) #[.int .u64 (hi : Nat), .int .u64 (lo : Nat)] #[.int .u64 (ho : Nat), .int .u64 (hl : Nat)] 25 25)
  have hc1 : Below w.heap.size w ((x1.alloc (.cells #[.int .u64 (hi : Nat), .int .u64 (lo : Nat)] 25)).alloc (.cells #[.int .u64 (ho : Nat), .int .u64 (hl : Nat)] 25)) := (hb1.alloc hb1.size _).alloc (hb1.alloc hb1.size (.cells #[.int .u64 (hi : Nat), .int .u64 (lo : Nat)] 25)).size _
  go_wp2_with fail
  refine (HOp.out _).mono ?_
  rintro e x2 ⟨rfl, hb2⟩
  have HB2 := Lib.hid (HB1.out.keep hb2)
  have hc2 := below_chain7 hc1 hb2
  generalize x1.heap.size + 1 = gb at *
  generalize x1.heap.size = ga at *
  clear HB1 hb2 hb1 hc1
  obtain ⟨lt_ga_2, c0_ga_2, c1_ga_2⟩ := HB2.out.r2 (b := ga) (by repeat first | exact .head _ | apply List.Mem.tail)
  obtain ⟨lt_gb_2, c0_gb_2, c1_gb_2⟩ := HB2.out.r2 (b := gb) (by repeat first | exact .head _ | apply List.Mem.tail)
  have HN3 := Lib.hid (HB2.out.new #[.int .u64 (ph : Nat), .int .u64 (pl : Nat), .int .i64 (i : Nat)] 27)
  have hd3 := hc2.alloc hc2.size (.cells #[.int .u64 (ph : Nat), .int .u64 (pl : Nat), .int .i64 (i : Nat)] 27)
  go_wp2_with fail
  refine (HOq.out _).mono ?_
  rintro e x3 ⟨rfl, hb3⟩
  have HB3 := Lib.hid (HN3.out.keep hb3)
  have hc3 := below_chain7 hd3 hb3
  generalize x2.heap.size = gp at *
  clear lt_ga_2 c0_ga_2 c1_ga_2 lt_gb_2 c0_gb_2 c1_gb_2
  clear HN3 HB2 hb3 hd3 hc2
  obtain ⟨lt_ga_3, c0_ga_3, c1_ga_3⟩ := HB3.out.r2 (b := ga) (by repeat first | exact .head _ | apply List.Mem.tail)
  obtain ⟨lt_gb_3, c0_gb_3, c1_gb_3⟩ := HB3.out.r2 (b := gb) (by repeat first | exact .head _ | apply List.Mem.tail)
  obtain ⟨lt_gp_3, c0_gp_3, c1_gp_3, c2_gp_3⟩ := HB3.out.r3 (b := gp) (by repeat first | exact .head _ | apply List.Mem.tail)
  have HN4 := Lib.hid (HB3.out.new #[.int .u64 (qh : Nat), .int .u64 (ql : Nat), .int .i64 (k : Nat)] 27)
  have hd4 := hc3.alloc hc3.size (.cells #[.int .u64 (qh : Nat), .int .u64 (ql : Nat), .int .i64 (k : Nat)] 27)
  go_wp2_with fail
  refine (HOr.out _).mono ?_
  rintro e x4 ⟨rfl, hb4⟩
  have HB4 := Lib.hid (HN4.out.keep hb4)
  have hc4 := below_chain7 hd4 hb4
  generalize x3.heap.size = gq at *
  clear lt_ga_3 c0_ga_3 c1_ga_3 lt_gb_3 c0_gb_3 c1_gb_3 lt_gp_3 c0_gp_3 c1_gp_3 c2_gp_3
  clear HN4 HB3 hb4 hd4 hc3
  obtain ⟨lt_ga_4, c0_ga_4, c1_ga_4⟩ := HB4.out.r2 (b := ga) (by repeat first | exact .head _ | apply List.Mem.tail)
  obtain ⟨lt_gb_4, c0_gb_4, c1_gb_4⟩ := HB4.out.r2 (b := gb) (by repeat first | exact .head _ | apply List.Mem.tail)
  obtain ⟨lt_gp_4, c0_gp_4, c1_gp_4, c2_gp_4⟩ := HB4.out.r3 (b := gp) (by repeat first | exact .head _ | apply List.Mem.tail)
  obtain ⟨lt_gq_4, c0_gq_4, c1_gq_4, c2_gq_4⟩ := HB4.out.r3 (b := gq) (by repeat first | exact .head _ | apply List.Mem.tail)
  have HN5 := Lib.hid (HB4.out.new #[.int .u64 (rh : Nat), .int .u64 (rl : Nat), .int .i64 (k : Nat)] 27)
  have hd5 := hc4.alloc hc4.size (.cells #[.int .u64 (rh : Nat), .int .u64 (rl : Nat), .int .i64 (k : Nat)] 27)
  go_wp2_with fail
  refine (HRp.out _).mono ?_
  rintro e x5 ⟨rfl, hb5⟩
  have HB5 := Lib.hid (HN5.out.keep hb5)
  have hc5 := below_chain7 hd5 hb5
  generalize x4.heap.size = gr at *
  clear lt_ga_4 c0_ga_4 c1_ga_4 lt_gb_4 c0_gb_4 c1_gb_4 lt_gp_4 c0_gp_4 c1_gp_4 c2_gp_4 lt_gq_4 c0_gq_4 c1_gq_4 c2_gq_4
  clear HN5 HB4 hb5 hd5 hc4
  obtain ⟨lt_ga_5, c0_ga_5, c1_ga_5⟩ := HB5.out.r2 (b := ga) (by repeat first | exact .head _ | apply List.Mem.tail)
  obtain ⟨lt_gb_5, c0_gb_5, c1_gb_5⟩ := HB5.out.r2 (b := gb) (by repeat first | exact .head _ | apply List.Mem.tail)
  obtain ⟨lt_gp_5, c0_gp_5, c1_gp_5, c2_gp_5⟩ := HB5.out.r3 (b := gp) (by repeat first | exact .head _ | apply List.Mem.tail)
  obtain ⟨lt_gq_5, c0_gq_5, c1_gq_5, c2_gq_5⟩ := HB5.out.r3 (b := gq) (by repeat first | exact .head _ | apply List.Mem.tail)
  obtain ⟨lt_gr_5, c0_gr_5, c1_gr_5, c2_gr_5⟩ := HB5.out.r3 (b := gr) (by repeat first | exact .head _ | apply List.Mem.tail)
  go_wp2_with fail
  refine (HHpa.out _).mono ?_
  rintro e x6 ⟨rfl, hb6⟩
  have HB6 := Lib.hid (HB5.out.keep hb6)
  have hc6 := below_chain7 hc5 hb6
  clear lt_ga_5 c0_ga_5 c1_ga_5 lt_gb_5 c0_gb_5 c1_gb_5 lt_gp_5 c0_gp_5 c1_gp_5 c2_gp_5 lt_gq_5 c0_gq_5 c1_gq_5 c2_gq_5 lt_gr_5 c0_gr_5 c1_gr_5 c2_gr_5
  clear HB5 hb6 hc5
  obtain ⟨lt_ga_6, c0_ga_6, c1_ga_6⟩ := HB6.out.r2 (b := ga) (by repeat first | exact .head _ | apply List.Mem.tail)
  obtain ⟨lt_gb_6, c0_gb_6, c1_gb_6⟩ := HB6.out.r2 (b := gb) (by repeat first | exact .head _ | apply List.Mem.tail)
  obtain ⟨lt_gp_6, c0_gp_6, c1_gp_6, c2_gp_6⟩ := HB6.out.r3 (b := gp) (by repeat first | exact .head _ | apply List.Mem.tail)
  obtain ⟨lt_gq_6, c0_gq_6, c1_gq_6, c2_gq_6⟩ := HB6.out.r3 (b := gq) (by repeat first | exact .head _ | apply List.Mem.tail)
  obtain ⟨lt_gr_6, c0_gr_6, c1_gr_6, c2_gr_6⟩ := HB6.out.r3 (b := gr) (by repeat first | exact .head _ | apply List.Mem.tail)
  go_wp2_with fail
  refine (HHqb.out _).mono ?_
  rintro e x7 ⟨rfl, hb7⟩
  have HB7 := Lib.hid (HB6.out.keep hb7)
  have hc7 := below_chain7 hc6 hb7
  clear lt_ga_6 c0_ga_6 c1_ga_6 lt_gb_6 c0_gb_6 c1_gb_6 lt_gp_6 c0_gp_6 c1_gp_6 c2_gp_6 lt_gq_6 c0_gq_6 c1_gq_6 c2_gq_6 lt_gr_6 c0_gr_6 c1_gr_6 c2_gr_6
  clear HB6 hb7 hc6
  obtain ⟨lt_ga_7, c0_ga_7, c1_ga_7⟩ := HB7.out.r2 (b := ga) (by repeat first | exact .head _ | apply List.Mem.tail)
  obtain ⟨lt_gb_7, c0_gb_7, c1_gb_7⟩ := HB7.out.r2 (b := gb) (by repeat first | exact .head _ | apply List.Mem.tail)
  obtain ⟨lt_gp_7, c0_gp_7, c1_gp_7, c2_gp_7⟩ := HB7.out.r3 (b := gp) (by repeat first | exact .head _ | apply List.Mem.tail)
  obtain ⟨lt_gq_7, c0_gq_7, c1_gq_7, c2_gq_7⟩ := HB7.out.r3 (b := gq) (by repeat first | exact .head _ | apply List.Mem.tail)
  obtain ⟨lt_gr_7, c0_gr_7, c1_gr_7, c2_gr_7⟩ := HB7.out.r3 (b := gr) (by repeat first | exact .head _ | apply List.Mem.tail)
  go_wp2_with fail
  refine (HCpr.out _).mono ?_
  rintro e x8 ⟨rfl, hb8⟩
  have HB8 := Lib.hid (HB7.out.keep hb8)
  have hc8 := below_chain7 hc7 hb8
  clear lt_ga_7 c0_ga_7 c1_ga_7 lt_gb_7 c0_gb_7 c1_gb_7 lt_gp_7 c0_gp_7 c1_gp_7 c2_gp_7 lt_gq_7 c0_gq_7 c1_gq_7 c2_gq_7 lt_gr_7 c0_gr_7 c1_gr_7 c2_gr_7
  clear HB7 hb8 hc7
  obtain ⟨lt_ga_8, c0_ga_8, c1_ga_8⟩ := HB8.out.r2 (b := ga) (by repeat first | exact .head _ | apply List.Mem.tail)
  obtain ⟨lt_gb_8, c0_gb_8, c1_gb_8⟩ := HB8.out.r2 (b := gb) (by repeat first | exact .head _ | apply List.Mem.tail)
  obtain ⟨lt_gp_8, c0_gp_8, c1_gp_8, c2_gp_8⟩ := HB8.out.r3 (b := gp) (by repeat first | exact .head _ | apply List.Mem.tail)
  obtain ⟨lt_gq_8, c0_gq_8, c1_gq_8, c2_gq_8⟩ := HB8.out.r3 (b := gq) (by repeat first | exact .head _ | apply List.Mem.tail)
  obtain ⟨lt_gr_8, c0_gr_8, c1_gr_8, c2_gr_8⟩ := HB8.out.r3 (b := gr) (by repeat first | exact .head _ | apply List.Mem.tail)
  go_wp2_with fail
  refine (HCpq.out _).mono ?_
  rintro e x9 ⟨rfl, hb9⟩
  have HB9 := Lib.hid (HB8.out.keep hb9)
  have hc9 := below_chain7 hc8 hb9
  clear lt_ga_8 c0_ga_8 c1_ga_8 lt_gb_8 c0_gb_8 c1_gb_8 lt_gp_8 c0_gp_8 c1_gp_8 c2_gp_8 lt_gq_8 c0_gq_8 c1_gq_8 c2_gq_8 lt_gr_8 c0_gr_8 c1_gr_8 c2_gr_8
  clear HB8 hb9 hc8
  obtain ⟨lt_ga_9, c0_ga_9, c1_ga_9⟩ := HB9.out.r2 (b := ga) (by repeat first | exact .head _ | apply List.Mem.tail)
  obtain ⟨lt_gb_9, c0_gb_9, c1_gb_9⟩ := HB9.out.r2 (b := gb) (by repeat first | exact .head _ | apply List.Mem.tail)
  obtain ⟨lt_gp_9, c0_gp_9, c1_gp_9, c2_gp_9⟩ := HB9.out.r3 (b := gp) (by repeat first | exact .head _ | apply List.Mem.tail)
  obtain ⟨lt_gq_9, c0_gq_9, c1_gq_9, c2_gq_9⟩ := HB9.out.r3 (b := gq) (by repeat first | exact .head _ | apply List.Mem.tail)
  obtain ⟨lt_gr_9, c0_gr_9, c1_gr_9, c2_gr_9⟩ := HB9.out.r3 (b := gr) (by repeat first | exact .head _ | apply List.Mem.tail)
  go_wp2_with fail
  refine (HHqa.out _).mono ?_
  rintro e x10 ⟨rfl, hb10⟩
  have HB10 := Lib.hid (HB9.out.keep hb10)
  have hc10 := below_chain7 hc9 hb10
  clear lt_ga_9 c0_ga_9 c1_ga_9 lt_gb_9 c0_gb_9 c1_gb_9 lt_gp_9 c0_gp_9 c1_gp_9 c2_gp_9 lt_gq_9 c0_gq_9 c1_gq_9 c2_gq_9 lt_gr_9 c0_gr_9 c1_gr_9 c2_gr_9
  clear HB9 hb10 hc9
  obtain ⟨lt_ga_10, c0_ga_10, c1_ga_10⟩ := HB10.out.r2 (b := ga) (by repeat first | exact .head _ | apply List.Mem.tail)
  obtain ⟨lt_gb_10, c0_gb_10, c1_gb_10⟩ := HB10.out.r2 (b := gb) (by repeat first | exact .head _ | apply List.Mem.tail)
  obtain ⟨lt_gp_10, c0_gp_10, c1_gp_10, c2_gp_10⟩ := HB10.out.r3 (b := gp) (by repeat first | exact .head _ | apply List.Mem.tail)
  obtain ⟨lt_gq_10, c0_gq_10, c1_gq_10, c2_gq_10⟩ := HB10.out.r3 (b := gq) (by repeat first | exact .head _ | apply List.Mem.tail)
  obtain ⟨lt_gr_10, c0_gr_10, c1_gr_10, c2_gr_10⟩ := HB10.out.r3 (b := gr) (by repeat first | exact .head _ | apply List.Mem.tail)
  go_wp2_with fail
  refine (HTx.out _ hc10).mono ?_
  rintro e x11 ⟨rfl, hb11⟩
  have HB11 := Lib.hid (HB10.out.keep hb11)
  have hc11 := below_chain7 hc10 hb11
  clear lt_ga_10 c0_ga_10 c1_ga_10 lt_gb_10 c0_gb_10 c1_gb_10 lt_gp_10 c0_gp_10 c1_gp_10 c2_gp_10 lt_gq_10 c0_gq_10 c1_gq_10 c2_gq_10 lt_gr_10 c0_gr_10 c1_gr_10 c2_gr_10
  clear HB10 hb11 hc10
  obtain ⟨lt_ga_11, c0_ga_11, c1_ga_11⟩ := HB11.out.r2 (b := ga) (by repeat first | exact .head _ | apply List.Mem.tail)
  obtain ⟨lt_gb_11, c0_gb_11, c1_gb_11⟩ := HB11.out.r2 (b := gb) (by repeat first | exact .head _ | apply List.Mem.tail)
  obtain ⟨lt_gp_11, c0_gp_11, c1_gp_11, c2_gp_11⟩ := HB11.out.r3 (b := gp) (by repeat first | exact .head _ | apply List.Mem.tail)
  obtain ⟨lt_gq_11, c0_gq_11, c1_gq_11, c2_gq_11⟩ := HB11.out.r3 (b := gq) (by repeat first | exact .head _ | apply List.Mem.tail)
  obtain ⟨lt_gr_11, c0_gr_11, c1_gr_11, c2_gr_11⟩ := HB11.out.r3 (b := gr) (by repeat first | exact .head _ | apply List.Mem.tail)
  go_wp2_with fail
  refine (HPs.out _ hc11).mono ?_
  rintro e x12 ⟨rfl, hb12⟩
  have HB12 := Lib.hid (HB11.out.keep hb12)
  have hc12 := below_chain7 hc11 hb12
  clear lt_ga_11 c0_ga_11 c1_ga_11 lt_gb_11 c0_gb_11 c1_gb_11 lt_gp_11 c0_gp_11 c1_gp_11 c2_gp_11 lt_gq_11 c0_gq_11 c1_gq_11 c2_gq_11 lt_gr_11 c0_gr_11 c1_gr_11 c2_gr_11
  clear HB11 hb12 hc11
  obtain ⟨lt_ga_12, c0_ga_12, c1_ga_12⟩ := HB12.out.r2 (b := ga) (by repeat first | exact .head _ | apply List.Mem.tail)
  obtain ⟨lt_gb_12, c0_gb_12, c1_gb_12⟩ := HB12.out.r2 (b := gb) (by repeat first | exact .head _ | apply List.Mem.tail)
  obtain ⟨lt_gp_12, c0_gp_12, c1_gp_12, c2_gp_12⟩ := HB12.out.r3 (b := gp) (by repeat first | exact .head _ | apply List.Mem.tail)
  obtain ⟨lt_gq_12, c0_gq_12, c1_gq_12, c2_gq_12⟩ := HB12.out.r3 (b := gq) (by repeat first | exact .head _ | apply List.Mem.tail)
  obtain ⟨lt_gr_12, c0_gr_12, c1_gr_12, c2_gr_12⟩ := HB12.out.r3 (b := gr) (by repeat first | exact .head _ | apply List.Mem.tail)
  go_wp2
  go_ret
  exact ⟨rfl, hc12.alloc hc12.size _⟩

set_option maxRecDepth 100000 in
set_option maxHeartbeats 8000000 in
theorem nests_cft (hi lo ho hl n m i k ph pl qh ql rh rl : Nat) (X : List UInt8) (w : World) (hbru : BruTab w) (hmax : MaxVar w) (hn : n ≤ 255) (hm : m ≤ 255) (hni : (n : Int) % 129 = (i : Nat)) (hmk : (m : Int) % 129 = (k : Nat)) (hle' : decide (i ≤ k) = false)
    (HOp : Hid (∀ W, Calls Tryd.prog 6 #[.iface 25 (.agg #[.int .u64 (hi : Nat), .int .u64 (lo : Nat)]), .int .i64 (i : Nat)] W fun e w' => e = .returned (.tuple #[.agg #[.int .u64 (ph : Nat), .int .u64 (pl : Nat), .int .i64 (i : Nat)], .bool true]) ∧ Below W.heap.size W w'))
    (HOq : Hid (∀ W, Calls Tryd.prog 6 #[.iface 25 (.agg #[.int .u64 (ho : Nat), .int .u64 (hl : Nat)]), .int .i64 (k : Nat)] W fun e w' => e = .returned (.tuple #[.agg #[.int .u64 (qh : Nat), .int .u64 (ql : Nat), .int .i64 (k : Nat)], .bool true]) ∧ Below W.heap.size W w'))
    (HOr : Hid (∀ W, Calls Tryd.prog 6 #[.iface 25 (.agg #[.int .u64 (hi : Nat), .int .u64 (lo : Nat)]), .int .i64 (k : Nat)] W fun e w' => e = .returned (.tuple #[.agg #[.int .u64 (rh : Nat), .int .u64 (rl : Nat), .int .i64 (k : Nat)], .bool true]) ∧ Below W.heap.size W w'))
    (HRp : Hid (∀ W, Calls Tryd.prog 7 #[.agg #[.int .u64 (ph : Nat), .int .u64 (pl : Nat), .int .i64 (i : Nat)]] W fun e w' => e = .returned (.bool true) ∧ Below W.heap.size W w'))
    (HHpa : Hid (∀ W, Calls Tryd.prog 8 #[.agg #[.int .u64 (ph : Nat), .int .u64 (pl : Nat), .int .i64 (i : Nat)], .iface 25 (.agg #[.int .u64 (hi : Nat), .int .u64 (lo : Nat)])] W fun e w' => e = .returned (.bool true) ∧ Below W.heap.size W w'))
    (HHqb : Hid (∀ W, Calls Tryd.prog 8 #[.agg #[.int .u64 (qh : Nat), .int .u64 (ql : Nat), .int .i64 (k : Nat)], .iface 25 (.agg #[.int .u64 (ho : Nat), .int .u64 (hl : Nat)])] W fun e w' => e = .returned (.bool true) ∧ Below W.heap.size W w'))
    (HCpr : Hid (∀ W, Calls Tryd.prog 9 #[.agg #[.int .u64 (ph : Nat), .int .u64 (pl : Nat), .int .i64 (i : Nat)], .agg #[.int .u64 (rh : Nat), .int .u64 (rl : Nat), .int .i64 (k : Nat)]] W fun e w' => e = .returned (.bool false) ∧ Below W.heap.size W w'))
    (HCpq : Hid (∀ W, Calls Tryd.prog 9 #[.agg #[.int .u64 (ph : Nat), .int .u64 (pl : Nat), .int .i64 (i : Nat)], .agg #[.int .u64 (qh : Nat), .int .u64 (ql : Nat), .int .i64 (k : Nat)]] W fun e w' => e = .returned (.bool false) ∧ Below W.heap.size W w'))
    (HHqa : Hid (∀ W, Calls Tryd.prog 8 #[.agg #[.int .u64 (qh : Nat), .int .u64 (ql : Nat), .int .i64 (k : Nat)], .iface 25 (.agg #[.int .u64 (hi : Nat), .int .u64 (lo : Nat)])] W fun e w' => e = .returned (.bool true) ∧ Below W.heap.size W w'))
    (HCqp : Hid (∀ W, Calls Tryd.prog 9 #[.agg #[.int .u64 (qh : Nat), .int .u64 (ql : Nat), .int .i64 (k : Nat)], .agg #[.int .u64 (ph : Nat), .int .u64 (pl : Nat), .int .i64 (i : Nat)]] W fun e w' => e = .returned (.bool true) ∧ Below W.heap.size W w'))
    (HTx : Hid (∀ W, Below w.heap.size w W → Calls Tryd.prog 11 #[.agg #[.int .u64 (ph : Nat), .int .u64 (pl : Nat), .int .i64 (i : Nat)]] W (RetStr W X)))
    (HPs : Hid (∀ W, Below w.heap.size w W → Calls Tryd.prog 10 #[.string ⟨X.toArray⟩] W fun e w' => e = .returned (.tuple #[.agg #[.int .u64 (ph : Nat), .int .u64 (pl : Nat), .int .i64 (i : Nat)], .bool true]) ∧ Below W.heap.size W w')) :
    Calls Tryd.prog 3 #[.int .u64 (hi : Nat), .int .u64 (lo : Nat), .int .u64 (ho : Nat), .int .u64 (hl : Nat), .int .u8 (n : Nat), .int .u8 (m : Nat)] w fun e w' => e = .returned (.bool true) ∧ Below w.heap.size w w' := by
  have HT := Lib.hid hbru
  have HX := Lib.hid hmax
  clear hbru hmax
  have heq : ∀ W : World, (binOp .eql 27 (.agg #[.int .u64 (ph : Nat), .int .u64 (pl : Nat), .int .i64 (i : Nat)]) (.agg #[.int .u64 (ph : Nat), .int .u64 (pl : Nat), .int .i64 (i : Nat)])).run Tryd.prog W = .ok (.bool true) W := fun W => by rw [eqPf]; simp
  have hg := eqPf_guard
  go_enter Tryd.func3, Tryd.ntmps3
  go_wp2_with fail
  refine (awake07_any _ HT.out HX.out).mono ?_
  rintro e x1 ⟨rfl, hb1⟩
  have HB1 := Lib.hid (blks_two (Blks.empty x1) #[.int .u64 (hi : Nat), .int .u64 (lo : Nat)] #[.int .u64 (ho : Nat), .int .u64 (hl : Nat)] 25 25)
  have hc1 : Below w.heap.size w ((x1.alloc (.cells #[.int .u64 (hi : Nat), .int .u64 (lo : Nat)] 25)).alloc (.cells #[.int .u64 (ho : Nat), .int .u64 (hl : Nat)] 25)) := (hb1.alloc hb1.size _).alloc (hb1.alloc hb1.size (.cells #[.int .u64 (hi : Nat), .int .u64 (lo : Nat)] 25)).size _
  go_wp2_with fail
  refine (HOp.out _).mono ?_
  rintro e x2 ⟨rfl, hb2⟩
  have HB2 := Lib.hid (HB1.out.keep hb2)
  have hc2 := below_chain7 hc1 hb2
  generalize x1.heap.size + 1 = gb at *
  generalize x1.heap.size = ga at *
  clear HB1 hb2 hb1 hc1
  obtain ⟨lt_ga_2, c0_ga_2, c1_ga_2⟩ := HB2.out.r2 (b := ga) (by repeat first | exact .head _ | apply List.Mem.tail)
  obtain ⟨lt_gb_2, c0_gb_2, c1_gb_2⟩ := HB2.out.r2 (b := gb) (by repeat first | exact .head _ | apply List.Mem.tail)
  have HN3 := Lib.hid (HB2.out.new #[.int .u64 (ph : Nat), .int .u64 (pl : Nat), .int .i64 (i : Nat)] 27)
  have hd3 := hc2.alloc hc2.size (.cells #[.int .u64 (ph : Nat), .int .u64 (pl : Nat), .int .i64 (i : Nat)] 27)
  go_wp2_with fail
  refine (HOq.out _).mono ?_
  rintro e x3 ⟨rfl, hb3⟩
  have HB3 := Lib.hid (HN3.out.keep hb3)
  have hc3 := below_chain7 hd3 hb3
  generalize x2.heap.size = gp at *
  clear lt_ga_2 c0_ga_2 c1_ga_2 lt_gb_2 c0_gb_2 c1_gb_2
  clear HN3 HB2 hb3 hd3 hc2
  obtain ⟨lt_ga_3, c0_ga_3, c1_ga_3⟩ := HB3.out.r2 (b := ga) (by repeat first | exact .head _ | apply List.Mem.tail)
  obtain ⟨lt_gb_3, c0_gb_3, c1_gb_3⟩ := HB3.out.r2 (b := gb) (by repeat first | exact .head _ | apply List.Mem.tail)
  obtain ⟨lt_gp_3, c0_gp_3, c1_gp_3, c2_gp_3⟩ := HB3.out.r3 (b := gp) (by repeat first | exact .head _ | apply List.Mem.tail)
  have HN4 := Lib.hid (HB3.out.new #[.int .u64 (qh : Nat), .int .u64 (ql : Nat), .int .i64 (k : Nat)] 27)
  have hd4 := hc3.alloc hc3.size (.cells #[.int .u64 (qh : Nat), .int .u64 (ql : Nat), .int .i64 (k : Nat)] 27)
  go_wp2_with fail
  refine (HOr.out _).mono ?_
  rintro e x4 ⟨rfl, hb4⟩
  have HB4 := Lib.hid (HN4.out.keep hb4)
  have hc4 := below_chain7 hd4 hb4
  generalize x3.heap.size = gq at *
  clear lt_ga_3 c0_ga_3 c1_ga_3 lt_gb_3 c0_gb_3 c1_gb_3 lt_gp_3 c0_gp_3 c1_gp_3 c2_gp_3
  clear HN4 HB3 hb4 hd4 hc3
  obtain ⟨lt_ga_4, c0_ga_4, c1_ga_4⟩ := HB4.out.r2 (b := ga) (by repeat first | exact .head _ | apply List.Mem.tail)
  obtain ⟨lt_gb_4, c0_gb_4, c1_gb_4⟩ := HB4.out.r2 (b := gb) (by repeat first | exact .head _ | apply List.Mem.tail)
  obtain ⟨lt_gp_4, c0_gp_4, c1_gp_4, c2_gp_4⟩ := HB4.out.r3 (b := gp) (by repeat first | exact .head _ | apply List.Mem.tail)
  obtain ⟨lt_gq_4, c0_gq_4, c1_gq_4, c2_gq_4⟩ := HB4.out.r3 (b := gq) (by repeat first | exact .head _ | apply List.Mem.tail)
  have HN5 := Lib.hid (HB4.out.new #[.int .u64 (rh : Nat), .int .u64 (rl : Nat), .int .i64 (k : Nat)] 27)
  have hd5 := hc4.alloc hc4.size (.cells #[.int .u64 (rh : Nat), .int .u64 (rl : Nat), .int .i64 (k : Nat)] 27)
  go_wp2_with fail
  refine (HRp.out _).mono ?_
  rintro e x5 ⟨rfl, hb5⟩
  have HB5 := Lib.hid (HN5.out.keep hb5)
  have hc5 := below_chain7 hd5 hb5
  generalize x4.heap.size = gr at *
  clear lt_ga_4 c0_ga_4 c1_ga_4 lt_gb_4 c0_gb_4 c1_gb_4 lt_gp_4 c0_gp_4 c1_gp_4 c2_gp_4 lt_gq_4 c0_gq_4 c1_gq_4 c2_gq_4
  clear HN5 HB4 hb5 hd5 hc4
  obtain ⟨lt_ga_5, c0_ga_5, c1_ga_5⟩ := HB5.out.r2 (b := ga) (by repeat first | exact .head _ | apply List.Mem.tail)
  obtain ⟨lt_gb_5, c0_gb_5, c1_gb_5⟩ := HB5.out.r2 (b := gb) (by repeat first | exact .head _ | apply List.Mem.tail)
  obtain ⟨lt_gp_5, c0_gp_5, c1_gp_5, c2_gp_5⟩ := HB5.out.r3 (b := gp) (by repeat first | exact .head _ | apply List.Mem.tail)
  obtain ⟨lt_gq_5, c0_gq_5, c1_gq_5, c2_gq_5⟩ := HB5.out.r3 (b := gq) (by repeat first | exact .head _ | apply List.Mem.tail)
  obtain ⟨lt_gr_5, c0_gr_5, c1_gr_5, c2_gr_5⟩ := HB5.out.r3 (b := gr) (by repeat first | exact .head _ | apply List.Mem.tail)
  go_wp2_with fail
  refine (HHpa.out _).mono ?_
  rintro e x6 ⟨rfl, hb6⟩
  have HB6 := Lib.hid (HB5.out.keep hb6)
  have hc6 := below_chain7 hc5 hb6
  clear lt_ga_5 c0_ga_5 c1_ga_5 lt_gb_5 c0_gb_5 c1_gb_5 lt_gp_5 c0_gp_5 c1_gp_5 c2_gp_5 lt_gq_5 c0_gq_5 c1_gq_5 c2_gq_5 lt_gr_5 c0_gr_5 c1_gr_5 c2_gr_5
  clear HB5 hb6 hc5
  obtain ⟨lt_ga_6, c0_ga_6, c1_ga_6⟩ := HB6.out.r2 (b := ga) (by repeat first | exact .head _ | apply List.Mem.tail)
  obtain ⟨lt_gb_6, c0_gb_6, c1_gb_6⟩ := HB6.out.r2 (b := gb) (by repeat first | exact .head _ | apply List.Mem.tail)
  obtain ⟨lt_gp_6, c0_gp_6, c1_gp_6, c2_gp_6⟩ := HB6.out.r3 (b := gp) (by repeat first | exact .head _ | apply List.Mem.tail)
  obtain ⟨lt_gq_6, c0_gq_6, c1_gq_6, c2_gq_6⟩ := HB6.out.r3 (b := gq) (by repeat first | exact .head _ | apply List.Mem.tail)
  obtain ⟨lt_gr_6, c0_gr_6, c1_gr_6, c2_gr_6⟩ := HB6.out.r3 (b := gr) (by repeat first | exact .head _ | apply List.Mem.tail)
  go_wp2_with fail
  refine (HHqb.out _).mono ?_
  rintro e x7 ⟨rfl, hb7⟩
  have HB7 := Lib.hid (HB6.out.keep hb7)
  have hc7 := below_chain7 hc6 hb7
  clear lt_ga_6 c0_ga_6 c1_ga_6 lt_gb_6 c0_gb_6 c1_gb_6 lt_gp_6 c0_gp_6 c1_gp_6 c2_gp_6 lt_gq_6 c0_gq_6 c1_gq_6 c2_gq_6 lt_gr_6 c0_gr_6 c1_gr_6 c2_gr_6
  clear HB6 hb7 hc6
  obtain ⟨lt_ga_7, c0_ga_7, c1_ga_7⟩ := HB7.out.r2 (b := ga) (by repeat first | exact .head _ | apply List.Mem.tail)
  obtain ⟨lt_gb_7, c0_gb_7, c1_gb_7⟩ := HB7.out.r2 (b := gb) (by repeat first | exact .head _ | apply List.Mem.tail)
  obtain ⟨lt_gp_7, c0_gp_7, c1_gp_7, c2_gp_7⟩ := HB7.out.r3 (b := gp) (by repeat first | exact .head _ | apply List.Mem.tail)
  obtain ⟨lt_gq_7, c0_gq_7, c1_gq_7, c2_gq_7⟩ := HB7.out.r3 (b := gq) (by repeat first | exact .head _ | apply List.Mem.tail)
  obtain ⟨lt_gr_7, c0_gr_7, c1_gr_7, c2_gr_7⟩ := HB7.out.r3 (b := gr) (by repeat first | exact .head _ | apply List.Mem.tail)
  go_wp2_with fail
  refine (HCpr.out _).mono ?_
  rintro e x8 ⟨rfl, hb8⟩
  have HB8 := Lib.hid (HB7.out.keep hb8)
  have hc8 := below_chain7 hc7 hb8
  clear lt_ga_7 c0_ga_7 c1_ga_7 lt_gb_7 c0_gb_7 c1_gb_7 lt_gp_7 c0_gp_7 c1_gp_7 c2_gp_7 lt_gq_7 c0_gq_7 c1_gq_7 c2_gq_7 lt_gr_7 c0_gr_7 c1_gr_7 c2_gr_7
  clear HB7 hb8 hc7
  obtain ⟨lt_ga_8, c0_ga_8, c1_ga_8⟩ := HB8.out.r2 (b := ga) (by repeat first | exact .head _ | apply List.Mem.tail)
  obtain ⟨lt_gb_8, c0_gb_8, c1_gb_8⟩ := HB8.out.r2 (b := gb) (by repeat first | exact .head _ | apply List.Mem.tail)
  obtain ⟨lt_gp_8, c0_gp_8, c1_gp_8, c2_gp_8⟩ := HB8.out.r3 (b := gp) (by repeat first | exact .head _ | apply List.Mem.tail)
  obtain ⟨lt_gq_8, c0_gq_8, c1_gq_8, c2_gq_8⟩ := HB8.out.r3 (b := gq) (by repeat first | exact .head _ | apply List.Mem.tail)
  obtain ⟨lt_gr_8, c0_gr_8, c1_gr_8, c2_gr_8⟩ := HB8.out.r3 (b := gr) (by repeat first | exact .head _ | apply List.Mem.tail)
  go_wp2_with fail
  refine (HCpq.out _).mono ?_
  rintro e x9 ⟨rfl, hb9⟩
  have HB9 := Lib.hid (HB8.out.keep hb9)
  have hc9 := below_chain7 hc8 hb9
  clear lt_ga_8 c0_ga_8 c1_ga_8 lt_gb_8 c0_gb_8 c1_gb_8 lt_gp_8 c0_gp_8 c1_gp_8 c2_gp_8 lt_gq_8 c0_gq_8 c1_gq_8 c2_gq_8 lt_gr_8 c0_gr_8 c1_gr_8 c2_gr_8
  clear HB8 hb9 hc8
  obtain ⟨lt_ga_9, c0_ga_9, c1_ga_9⟩ := HB9.out.r2 (b := ga) (by repeat first | exact .head _ | apply List.Mem.tail)
  obtain ⟨lt_gb_9, c0_gb_9, c1_gb_9⟩ := HB9.out.r2 (b := gb) (by repeat first | exact .head _ | apply List.Mem.tail)
  obtain ⟨lt_gp_9, c0_gp_9, c1_gp_9, c2_gp_9⟩ := HB9.out.r3 (b := gp) (by repeat first | exact .head _ | apply List.Mem.tail)
  obtain ⟨lt_gq_9, c0_gq_9, c1_gq_9, c2_gq_9⟩ := HB9.out.r3 (b := gq) (by repeat first | exact .head _ | apply List.Mem.tail)
  obtain ⟨lt_gr_9, c0_gr_9, c1_gr_9, c2_gr_9⟩ := HB9.out.r3 (b := gr) (by repeat first | exact .head _ | apply List.Mem.tail)
  go_wp2_with fail
  refine (HHqa.out _).mono ?_
  rintro e x10 ⟨rfl, hb10⟩
  have HB10 := Lib.hid (HB9.out.keep hb10)
  have hc10 := below_chain7 hc9 hb10
  clear lt_ga_9 c0_ga_9 c1_ga_9 lt_gb_9 c0_gb_9 c1_gb_9 lt_gp_9 c0_gp_9 c1_gp_9 c2_gp_9 lt_gq_9 c0_gq_9 c1_gq_9 c2_gq_9 lt_gr_9 c0_gr_9 c1_gr_9 c2_gr_9
  clear HB9 hb10 hc9
  obtain ⟨lt_ga_10, c0_ga_10, c1_ga_10⟩ := HB10.out.r2 (b := ga) (by repeat first | exact .head _ | apply List.Mem.tail)
  obtain ⟨lt_gb_10, c0_gb_10, c1_gb_10⟩ := HB10.out.r2 (b := gb) (by repeat first | exact .head _ | apply List.Mem.tail)
  obtain ⟨lt_gp_10, c0_gp_10, c1_gp_10, c2_gp_10⟩ := HB10.out.r3 (b := gp) (by repeat first | exact .head _ | apply List.Mem.tail)
  obtain ⟨lt_gq_10, c0_gq_10, c1_gq_10, c2_gq_10⟩ := HB10.out.r3 (b := gq) (by repeat first | exact .head _ | apply List.Mem.tail)
  obtain ⟨lt_gr_10, c0_gr_10, c1_gr_10, c2_gr_10⟩ := HB10.out.r3 (b := gr) (by repeat first | exact .head _ | apply List.Mem.tail)
  go_wp2_with fail
  refine (HCpq.out _).mono ?_
  rintro e x11 ⟨rfl, hb11⟩
  have HB11 := Lib.hid (HB10.out.keep hb11)
  have hc11 := below_chain7 hc10 hb11
  clear lt_ga_10 c0_ga_10 c1_ga_10 lt_gb_10 c0_gb_10 c1_gb_10 lt_gp_10 c0_gp_10 c1_gp_10 c2_gp_10 lt_gq_10 c0_gq_10 c1_gq_10 c2_gq_10 lt_gr_10 c0_gr_10 c1_gr_10 c2_gr_10
  clear HB10 hb11 hc10
  obtain ⟨lt_ga_11, c0_ga_11, c1_ga_11⟩ := HB11.out.r2 (b := ga) (by repeat first | exact .head _ | apply List.Mem.tail)
  obtain ⟨lt_gb_11, c0_gb_11, c1_gb_11⟩ := HB11.out.r2 (b := gb) (by repeat first | exact .head _ | apply List.Mem.tail)
  obtain ⟨lt_gp_11, c0_gp_11, c1_gp_11, c2_gp_11⟩ := HB11.out.r3 (b := gp) (by repeat first | exact .head _ | apply List.Mem.tail)
  obtain ⟨lt_gq_11, c0_gq_11, c1_gq_11, c2_gq_11⟩ := HB11.out.r3 (b := gq) (by repeat first | exact .head _ | apply List.Mem.tail)
  obtain ⟨lt_gr_11, c0_gr_11, c1_gr_11, c2_gr_11⟩ := HB11.out.r3 (b := gr) (by repeat first | exact .head _ | apply List.Mem.tail)
  go_wp2_with fail
  refine (HCqp.out _).mono ?_
  rintro e x12 ⟨rfl, hb12⟩
  have HB12 := Lib.hid (HB11.out.keep hb12)
  have hc12 := below_chain7 hc11 hb12
  clear lt_ga_11 c0_ga_11 c1_ga_11 lt_gb_11 c0_gb_11 c1_gb_11 lt_gp_11 c0_gp_11 c1_gp_11 c2_gp_11 lt_gq_11 c0_gq_11 c1_gq_11 c2_gq_11 lt_gr_11 c0_gr_11 c1_gr_11 c2_gr_11
  clear HB11 hb12 hc11
  obtain ⟨lt_ga_12, c0_ga_12, c1_ga_12⟩ := HB12.out.r2 (b := ga) (by repeat first | exact .head _ | apply List.Mem.tail)
  obtain ⟨lt_gb_12, c0_gb_12, c1_gb_12⟩ := HB12.out.r2 (b := gb) (by repeat first | exact .head _ | apply List.Mem.tail)
  obtain ⟨lt_gp_12, c0_gp_12, c1_gp_12, c2_gp_12⟩ := HB12.out.r3 (b := gp) (by repeat first | exact .head _ | apply List.Mem.tail)
  obtain ⟨lt_gq_12, c0_gq_12, c1_gq_12, c2_gq_12⟩ := HB12.out.r3 (b := gq) (by repeat first | exact .head _ | apply List.Mem.tail)
  obtain ⟨lt_gr_12, c0_gr_12, c1_gr_12, c2_gr_12⟩ := HB12.out.r3 (b := gr) (by repeat first | exact .head _ | apply List.Mem.tail)
  go_wp2_with fail
  refine (HTx.out _ hc12).mono ?_
  rintro e x13 ⟨rfl, hb13⟩
  have HB13 := Lib.hid (HB12.out.keep hb13)
  have hc13 := below_chain7 hc12 hb13
  clear lt_ga_12 c0_ga_12 c1_ga_12 lt_gb_12 c0_gb_12 c1_gb_12 lt_gp_12 c0_gp_12 c1_gp_12 c2_gp_12 lt_gq_12 c0_gq_12 c1_gq_12 c2_gq_12 lt_gr_12 c0_gr_12 c1_gr_12 c2_gr_12
  clear HB12 hb13 hc12
  obtain ⟨lt_ga_13, c0_ga_13, c1_ga_13⟩ := HB13.out.r2 (b := ga) (by repeat first | exact .head _ | apply List.Mem.tail)
  obtain ⟨lt_gb_13, c0_gb_13, c1_gb_13⟩ := HB13.out.r2 (b := gb) (by repeat first | exact .head _ | apply List.Mem.tail)
  obtain ⟨lt_gp_13, c0_gp_13, c1_gp_13, c2_gp_13⟩ := HB13.out.r3 (b := gp) (by repeat first | exact .head _ | apply List.Mem.tail)
  obtain ⟨lt_gq_13, c0_gq_13, c1_gq_13, c2_gq_13⟩ := HB13.out.r3 (b := gq) (by repeat first | exact .head _ | apply List.Mem.tail)
  obtain ⟨lt_gr_13, c0_gr_13, c1_gr_13, c2_gr_13⟩ := HB13.out.r3 (b := gr) (by repeat first | exact .head _ | apply List.Mem.tail)
  go_wp2_with fail
  refine (HPs.out _ hc13).mono ?_
  rintro e x14 ⟨rfl, hb14⟩
  have HB14 := Lib.hid (HB13.out.keep hb14)
  have hc14 := below_chain7 hc13 hb14
  clear lt_ga_13 c0_ga_13 c1_ga_13 lt_gb_13 c0_gb_13 c1_gb_13 lt_gp_13 c0_gp_13 c1_gp_13 c2_gp_13 lt_gq_13 c0_gq_13 c1_gq_13 c2_gq_13 lt_gr_13 c0_gr_13 c1_gr_13 c2_gr_13
  clear HB13 hb14 hc13
  obtain ⟨lt_ga_14, c0_ga_14, c1_ga_14⟩ := HB14.out.r2 (b := ga) (by repeat first | exact .head _ | apply List.Mem.tail)
  obtain ⟨lt_gb_14, c0_gb_14, c1_gb_14⟩ := HB14.out.r2 (b := gb) (by repeat first | exact .head _ | apply List.Mem.tail)
  obtain ⟨lt_gp_14, c0_gp_14, c1_gp_14, c2_gp_14⟩ := HB14.out.r3 (b := gp) (by repeat first | exact .head _ | apply List.Mem.tail)
  obtain ⟨lt_gq_14, c0_gq_14, c1_gq_14, c2_gq_14⟩ := HB14.out.r3 (b := gq) (by repeat first | exact .head _ | apply List.Mem.tail)
  obtain ⟨lt_gr_14, c0_gr_14, c1_gr_14, c2_gr_14⟩ := HB14.out.r3 (b := gr) (by repeat first | exact .head _ | apply List.Mem.tail)
  go_wp2
  go_ret
  exact ⟨rfl, hc14.alloc hc14.size _⟩

theorem bounds_u8 {n : Int} (h : (Lit.int .u8 n).wf = true) : 0 ≤ n ∧ n ≤ 255 := by
  simp [Lit.wf, IntKind.min, IntKind.max, IntKind.bits, IntKind.signed] at h
  omega
theorem bounds_u64' {n : Int} (h : (Lit.int .u64 n).wf = true) : ∃ x : Nat, n = x ∧ x < 18446744073709551616 := by
  simp [Lit.wf, IntKind.min, IntKind.max, IntKind.bits, IntKind.signed] at h
  exact ⟨n.toNat, by omega, by omega⟩
set_option maxRecDepth 100000 in
theorem prefixNests_walk (a0 : Int) (a1 : Int) (a2 : Int) (a3 : Int) (a4 : Int) (a5 : Int) (w0 : (Lit.int .u64 a0).wf = true) (w1 : (Lit.int .u64 a1).wf = true) (w2 : (Lit.int .u64 a2).wf = true) (w3 : (Lit.int .u64 a3).wf = true) (w4 : (Lit.int .u8 a4).wf = true) (w5 : (Lit.int .u8 a5).wf = true) (w : World) (hpow : PowTab w) (hbru : BruTab w) (hmax : MaxVar w) :
    Calls Tryd.prog 3 #[.int .u64 a0, .int .u64 a1, .int .u64 a2, .int .u64 a3, .int .u8 a4, .int .u8 a5] w fun e w' => e = .returned (.bool true) ∧ Below w.heap.size w w' := by
  obtain ⟨hi, rfl, b0⟩ := bounds_u64' w0
  obtain ⟨lo, rfl, b1⟩ := bounds_u64' w1
  obtain ⟨ho, rfl, b2⟩ := bounds_u64' w2
  obtain ⟨hl, rfl, b3⟩ := bounds_u64' w3
  obtain ⟨n, rfl⟩ := Int.eq_ofNat_of_zero_le (bounds_u8 w4).1
  obtain ⟨m, rfl⟩ := Int.eq_ofNat_of_zero_le (bounds_u8 w5).1
  have hn : n ≤ 255 := by have := (bounds_u8 w4).2; omega
  have hm : m ≤ 255 := by have := (bounds_u8 w5).2; omega
  clear w0 w1 w2 w3 w4 w5
  obtain ⟨i, hi'⟩ : ∃ i, n % 129 = i := ⟨_, rfl⟩
  obtain ⟨k, hk'⟩ : ∃ k, m % 129 = k := ⟨_, rfl⟩
  have hi2 : i ≤ 128 := by omega
  have hk2 : k ≤ 128 := by omega
  have hni : (n : Int) % 129 = (i : Nat) := by omega
  have hmk : (m : Int) % 129 = (k : Nat) := by omega
  obtain ⟨A, hA⟩ : ∃ A, wideN hi lo = A := ⟨_, rfl⟩
  obtain ⟨B, hB⟩ : ∃ B, wideN ho hl = B := ⟨_, rfl⟩
  have hAl : A < 2 ^ 128 := hA ▸ wide_lt b0 b1
  have hBl : B < 2 ^ 128 := hB ▸ wide_lt b2 b3
  have pb := hiN_lt (ofW_lt (n := i) hAl)
  have qb := hiN_lt (ofW_lt (n := k) hBl)
  have rb := hiN_lt (ofW_lt (n := k) hAl)
  have pc := loN_lt (ofW A i)
  have qc := loN_lt (ofW B k)
  have rc := loN_lt (ofW A k)
  have ps := wide_split (ofW A i)
  have qs := wide_split (ofW B k)
  have rs := wide_split (ofW A k)
  have HOp := fun W => hA ▸ pOf_six hi lo i W b0 b1 hi2
  have HOq := fun W => hB ▸ pOf_six ho hl k W b2 b3 hk2
  have HOr := fun W => hA ▸ pOf_six hi lo k W b0 b1 hk2
  have okA : (AZ.six hi lo).Ok := ⟨⟨by omega, by omega⟩, by omega, by omega⟩
  have okB : (AZ.six ho hl).Ok := ⟨⟨by omega, by omega⟩, by omega, by omega⟩
  have wA : (AZ.six hi lo).wd = A := hA
  have wB : (AZ.six ho hl).wd = B := hB
  have HRp := fun W => pRight_any (hiN (ofW A i)) (loN (ofW A i)) i W pb pc
  rw [ps, pRightB_nat.2 ⟨hi2, rt_of A i⟩] at HRp
  have HHpa := fun W => pHas_any (hiN (ofW A i)) (loN (ofW A i)) i (.six hi lo) W pb pc okA
  rw [ps, wA, nest_own A i hi2] at HHpa
  have HHqb := fun W => pHas_any (hiN (ofW B k)) (loN (ofW B k)) k (.six ho hl) W qb qc okB
  rw [qs, wB, nest_own B k hk2] at HHqb
  have HCpr := fun W => covers_any (hiN (ofW A i)) (loN (ofW A i)) (hiN (ofW A k)) (loN (ofW A k)) i k W pb pc rb rc
  rw [ps, rs, nest_cov A A i k hi2 hk2, nest_own A i hi2, Bool.and_true] at HCpr
  have HCpq := fun W => covers_any (hiN (ofW A i)) (loN (ofW A i)) (hiN (ofW B k)) (loN (ofW B k)) i k W pb pc qb qc
  rw [ps, qs, nest_cov A B i k hi2 hk2] at HCpq
  have HHpb := fun W => pHas_any (hiN (ofW A i)) (loN (ofW A i)) i (.six ho hl) W pb pc okB
  rw [ps, wB] at HHpb
  have HHqa := fun W => pHas_any (hiN (ofW B k)) (loN (ofW B k)) k (.six hi lo) W qb qc okA
  rw [qs, wA] at HHqa
  have HCqp := fun W => covers_any (hiN (ofW B k)) (loN (ofW B k)) (hiN (ofW A i)) (loN (ofW A i)) k i W qb qc pb pc
  rw [qs, ps] at HCqp
  have HTx : ∀ W, Below w.heap.size w W → Calls Tryd.prog 11 #[.agg #[.int .u64 (hiN (ofW A i) : Nat), .int .u64 (loN (ofW A i) : Nat), .int .i64 (i : Nat)]] W (RetStr W (textPf (hiN (ofW A i)) (loN (ofW A i)) i)) :=
    fun W hW => pText_any _ _ _ W pb pc (by omega) (by omega) (powTab_below hpow hW) (bruTab_below hbru hW)
  have hpz := parse_text pb pc hi2 (by rw [ps]; exact rt_of A i)
  have htl := textPf_len (hiN (ofW A i)) (loN (ofW A i)) i pb pc (by omega) (by omega)
  rw [ps] at hpz
  have HPs : ∀ W, Below w.heap.size w W → Calls Tryd.prog 10 #[.string ⟨(textPf (hiN (ofW A i)) (loN (ofW A i)) i).toArray⟩] W fun e w' => e = .returned (.tuple #[.agg #[.int .u64 (hiN (ofW A i) : Nat), .int .u64 (loN (ofW A i) : Nat), .int .i64 (i : Nat)], .bool true]) ∧ Below W.heap.size W w' := fun W hW => by
    have := pParse_any ⟨(textPf (hiN (ofW A i)) (loN (ofW A i)) i).toArray⟩ W (by rw [size_arr]; omega) (maxVar_below hmax hW)
    rw [list_arr, hpz] at this
    exact this
  have N2 := nest_two A B i k hi2 hk2
  rw [nest_cov A B i k hi2 hk2] at N2
  by_cases hle : i ≤ k
  · have d2 : decide (i ≤ k) = true := decide_eq_true hle
    rw [d2] at HCpr HCpq N2
    rw [Bool.true_and] at HCpq N2
    cases hbv : pHasB (ofW A i) i B with
    | true =>
      rw [hbv] at HCpq HHpb
      cases hqa : pHasB (ofW B k) k A with
      | false =>
        rw [hqa] at HHqa
        exact nests_aff hi lo ho hl n m i k _ _ _ _ _ _ _ w hbru hmax hn hm hni hmk d2 HOp HOq HOr HRp HHpa HHqb HCpr HCpq HHqa HHpb HTx HPs
      | true =>
        rw [hqa] at HHqa
        exact nests_aft hi lo ho hl n m i k _ _ _ _ _ _ _ w hbru hmax hn hm hni hmk d2 HOp HOq HOr HRp HHpa HHqb HCpr HCpq HHqa HHpb HTx HPs
    | false =>
      rw [hbv] at HCpq HHpb
      cases hqa : pHasB (ofW B k) k A with
      | false =>
        rw [hqa] at HHqa
        exact nests_bff hi lo ho hl n m i k _ _ _ _ _ _ _ w hbru hmax hn hm hni hmk d2 HOp HOq HOr HRp HHpa HHqb HCpr HCpq HHqa HHpb HTx HPs
      | true =>
        rw [hqa] at HHqa
        rw [N2 hqa hbv] at HCqp
        exact nests_bft hi lo ho hl n m i k _ _ _ _ _ _ _ w hbru hmax hn hm hni hmk d2 HOp HOq HOr HRp HHpa HHqb HCpr HCpq HHqa HHpb HCqp HTx HPs
  · have d2 : decide (i ≤ k) = false := decide_eq_false hle
    rw [d2] at HCpr HCpq N2
    rw [Bool.false_and] at HCpq N2
    cases hqa : pHasB (ofW B k) k A with
    | false =>
      rw [hqa] at HHqa
      exact nests_cff hi lo ho hl n m i k _ _ _ _ _ _ _ w hbru hmax hn hm hni hmk d2 HOp HOq HOr HRp HHpa HHqb HCpr HCpq HHqa HTx HPs
    | true =>
      rw [hqa] at HHqa
      rw [N2 hqa rfl] at HCqp
      exact nests_cft hi lo ho hl n m i k _ _ _ _ _ _ _ w hbru hmax hn hm hni hmk d2 HOp HOq HOr HRp HHpa HHqb HCpr HCpq HHqa HCqp HTx HPs
end Go.Proofs.YthdcldkcmnpkiaaDoor
