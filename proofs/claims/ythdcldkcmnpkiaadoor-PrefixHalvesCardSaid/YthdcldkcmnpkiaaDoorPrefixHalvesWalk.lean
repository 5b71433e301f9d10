/-
  The law PrefixHalves: its Go text returns true at any numbers, where the library's tables read as they are laid; nothing that lay in memory before is changed.
-/
import Derived.Test.YthdcldkcmnpkiaaDoorPreO
import Derived.RegionTactic
namespace Go.Proofs.YthdcldkcmnpkiaaDoor
open Go.RowKit

theorem blks_two {L : List (Nat × Array Value × TypeId)} {x : World} (h : Blks L x) (c c' : Array Value) (t t' : TypeId) : Blks ((x.heap.size + 1, c', t') :: (x.heap.size, c, t) :: L) ((x.alloc (.cells c t)).alloc (.cells c' t')) := by
  have := (h.new c t).new c' t'
  rw [show (x.alloc (.cells c t)).heap.size = x.heap.size + 1 by simp] at this
  exact this

set_option maxRecDepth 100000 in
set_option maxHeartbeats 8000000 in
theorem halves_h (hi lo oh ol n k ph pl fh : Nat) (w : World) (hbru : BruTab w) (hmax : MaxVar w) (hn : n ≤ 255) (hnk : (n : Int) % 128 = (k : Nat)) (hk : k < 64)
    (b1 : hi < 18446744073709551616) (b2 : lo < 18446744073709551616) (b3 : oh < 18446744073709551616) (b4 : ol < 18446744073709551616) (_ : ph < 18446744073709551616) (b6 : pl < 18446744073709551616) (b7 : fh < 18446744073709551616)
    (hor : bits .or .u64 (ph : Int) ((2 : Int) ^ (63 - k)) = (fh : Nat)) (hwr : IntKind.u64.wrap ((2 : Int) ^ (63 - k)) = (2 : Int) ^ (63 - k))
    (HOp : Hid (∀ W, Calls Tryd.prog 6 #[.iface 25 (.agg #[.int .u64 (hi : Nat), .int .u64 (lo : Nat)]), .int .i64 (k : Nat)] W fun e w' => e = .returned (.tuple #[.agg #[.int .u64 (ph : Nat), .int .u64 (pl : Nat), .int .i64 (k : Nat)], .bool true]) ∧ Below W.heap.size W w'))
    (HOq : Hid (∀ W, Calls Tryd.prog 6 #[.iface 25 (.agg #[.int .u64 (ph : Nat), .int .u64 (pl : Nat)]), .int .i64 ((k : Int) + 1)] W fun e w' => e = .returned (.tuple #[.agg #[.int .u64 (ph : Nat), .int .u64 (pl : Nat), .int .i64 ((k : Int) + 1)], .bool true]) ∧ Below W.heap.size W w'))
    (HOr : Hid (∀ W, Calls Tryd.prog 6 #[.iface 25 (.agg #[.int .u64 (fh : Nat), .int .u64 (pl : Nat)]), .int .i64 ((k : Int) + 1)] W fun e w' => e = .returned (.tuple #[.agg #[.int .u64 (fh : Nat), .int .u64 (pl : Nat), .int .i64 ((k : Int) + 1)], .bool true]) ∧ Below W.heap.size W w'))
    (HCpq : Hid (∀ W, Calls Tryd.prog 9 #[.agg #[.int .u64 (ph : Nat), .int .u64 (pl : Nat), .int .i64 (k : Nat)], .agg #[.int .u64 (ph : Nat), .int .u64 (pl : Nat), .int .i64 ((k : Int) + 1)]] W fun e w' => e = .returned (.bool true) ∧ Below W.heap.size W w'))
    (HCpr : Hid (∀ W, Calls Tryd.prog 9 #[.agg #[.int .u64 (ph : Nat), .int .u64 (pl : Nat), .int .i64 (k : Nat)], .agg #[.int .u64 (fh : Nat), .int .u64 (pl : Nat), .int .i64 ((k : Int) + 1)]] W fun e w' => e = .returned (.bool true) ∧ Below W.heap.size W w'))
    (HCqr : Hid (∀ W, Calls Tryd.prog 9 #[.agg #[.int .u64 (ph : Nat), .int .u64 (pl : Nat), .int .i64 ((k : Int) + 1)], .agg #[.int .u64 (fh : Nat), .int .u64 (pl : Nat), .int .i64 ((k : Int) + 1)]] W fun e w' => e = .returned (.bool false) ∧ Below W.heap.size W w'))
    (HCrq : Hid (∀ W, Calls Tryd.prog 9 #[.agg #[.int .u64 (fh : Nat), .int .u64 (pl : Nat), .int .i64 ((k : Int) + 1)], .agg #[.int .u64 (ph : Nat), .int .u64 (pl : Nat), .int .i64 ((k : Int) + 1)]] W fun e w' => e = .returned (.bool false) ∧ Below W.heap.size W w'))
    (HBq : Hid (∀ W, Calls Tryd.prog 12 #[.agg #[.int .u64 (ph : Nat), .int .u64 (pl : Nat), .int .i64 ((k : Int) + 1)], .int .i64 (k : Nat)] W fun e w' => e = .returned (.int .i64 0) ∧ Below W.heap.size W w'))
    (HBr : Hid (∀ W, Calls Tryd.prog 12 #[.agg #[.int .u64 (fh : Nat), .int .u64 (pl : Nat), .int .i64 ((k : Int) + 1)], .int .i64 (k : Nat)] W fun e w' => e = .returned (.int .i64 1) ∧ Below W.heap.size W w'))
    (HS : Hid (∀ xh xl : Nat, xh < 18446744073709551616 → xl < 18446744073709551616 → ∃ hp hq hr : Bool, (hp = (hq || hr) ∧ (hq && hr) = false) ∧ (∀ W, Calls Tryd.prog 8 #[.agg #[.int .u64 (ph : Nat), .int .u64 (pl : Nat), .int .i64 (k : Nat)], .iface 25 (.agg #[.int .u64 (xh : Nat), .int .u64 (xl : Nat)])] W fun e w' => e = .returned (.bool hp) ∧ Below W.heap.size W w') ∧ (∀ W, Calls Tryd.prog 8 #[.agg #[.int .u64 (ph : Nat), .int .u64 (pl : Nat), .int .i64 ((k : Int) + 1)], .iface 25 (.agg #[.int .u64 (xh : Nat), .int .u64 (xl : Nat)])] W fun e w' => e = .returned (.bool hq) ∧ Below W.heap.size W w') ∧ (∀ W, Calls Tryd.prog 8 #[.agg #[.int .u64 (fh : Nat), .int .u64 (pl : Nat), .int .i64 ((k : Int) + 1)], .iface 25 (.agg #[.int .u64 (xh : Nat), .int .u64 (xl : Nat)])] W fun e w' => e = .returned (.bool hr) ∧ Below W.heap.size W w'))) :
    Calls Tryd.prog 4 #[.int .u64 (hi : Nat), .int .u64 (lo : Nat), .int .u64 (oh : Nat), .int .u64 (ol : Nat), .int .u8 (n : Nat)] w fun e w' => e = .returned (.bool true) ∧ Below w.heap.size w w' := by
  have HT := Lib.hid hbru
  have HX := Lib.hid hmax
  clear hbru hmax
  go_enter Tryd.func4, Tryd.ntmps4
  go_wp2_with fail
  refine (awake07_any _ HT.out HX.out).mono ?_
  rintro e x1 ⟨rfl, hc1⟩
  go_wp2_with fail
  refine (HOp.out _).mono ?_
  rintro e x2 ⟨rfl, hb2⟩
  have hc2 := below_chain7 hc1 hb2
  clear hb2 hc1
  have HB3 := Lib.hid (blks_two (Blks.empty x2) #[.int .u64 (ph : Nat), .int .u64 (pl : Nat), .int .i64 (k : Nat)] #[.int .u64 (fh : Nat), .int .u64 (pl : Nat)] 27 25)
  have hc3 : Below w.heap.size w ((x2.alloc (.cells #[.int .u64 (ph : Nat), .int .u64 (pl : Nat), .int .i64 (k : Nat)] 27)).alloc (.cells #[.int .u64 (fh : Nat), .int .u64 (pl : Nat)] 25)) := (hc2.alloc hc2.size _).alloc (hc2.alloc hc2.size (.cells #[.int .u64 (ph : Nat), .int .u64 (pl : Nat), .int .i64 (k : Nat)] 27)).size _
  go_wp2
  go_region
  go_wp2_with fail
  refine (HOq.out _).mono ?_
  rintro e x4 ⟨rfl, hb4⟩
  have HB4 := Lib.hid (HB3.out.keep (drew_c hb4))
  have hc4 := below_chain7 hc3 (drew_c hb4)
  generalize x2.heap.size + 1 = gf at *
  generalize x2.heap.size = gp at *
  clear HB3 hb4 hc3 hc2
  obtain ⟨lt_gp_4, c0_gp_4, c1_gp_4, c2_gp_4⟩ := HB4.out.r3 (b := gp) (by repeat first | exact .head _ | apply List.Mem.tail)
  obtain ⟨lt_gf_4, c0_gf_4, c1_gf_4⟩ := HB4.out.r2 (b := gf) (by repeat first | exact .head _ | apply List.Mem.tail)
  have HN5 := Lib.hid (HB4.out.new #[.int .u64 (ph : Nat), .int .u64 (pl : Nat), .int .i64 ((k : Int) + 1)] 27)
  have hd5 := hc4.alloc hc4.size (.cells #[.int .u64 (ph : Nat), .int .u64 (pl : Nat), .int .i64 ((k : Int) + 1)] 27)
  go_wp2_with fail
  refine (HOr.out _).mono ?_
  rintro e x5 ⟨rfl, hb5⟩
  have HB5 := Lib.hid (HN5.out.keep hb5)
  have hc5 := below_chain7 hd5 hb5
  generalize x4.heap.size = gq at *
  clear lt_gp_4 c0_gp_4 c1_gp_4 c2_gp_4 lt_gf_4 c0_gf_4 c1_gf_4
  clear HN5 HB4 hb5 hd5 hc4
  obtain ⟨lt_gp_5, c0_gp_5, c1_gp_5, c2_gp_5⟩ := HB5.out.r3 (b := gp) (by repeat first | exact .head _ | apply List.Mem.tail)
  obtain ⟨lt_gf_5, c0_gf_5, c1_gf_5⟩ := HB5.out.r2 (b := gf) (by repeat first | exact .head _ | apply List.Mem.tail)
  obtain ⟨lt_gq_5, c0_gq_5, c1_gq_5, c2_gq_5⟩ := HB5.out.r3 (b := gq) (by repeat first | exact .head _ | apply List.Mem.tail)
  have HN6 := Lib.hid (HB5.out.new #[.int .u64 (fh : Nat), .int .u64 (pl : Nat), .int .i64 ((k : Int) + 1)] 27)
  have hd6 := hc5.alloc hc5.size (.cells #[.int .u64 (fh : Nat), .int .u64 (pl : Nat), .int .i64 ((k : Int) + 1)] 27)
  go_wp2_with fail
  refine (HCpq.out _).mono ?_
  rintro e x6 ⟨rfl, hb6⟩
  have HB6 := Lib.hid (HN6.out.keep hb6)
  have hc6 := below_chain7 hd6 hb6
  generalize x5.heap.size = gr at *
  clear lt_gp_5 c0_gp_5 c1_gp_5 c2_gp_5 lt_gf_5 c0_gf_5 c1_gf_5 lt_gq_5 c0_gq_5 c1_gq_5 c2_gq_5
  clear HN6 HB5 hb6 hd6 hc5
  obtain ⟨lt_gp_6, c0_gp_6, c1_gp_6, c2_gp_6⟩ := HB6.out.r3 (b := gp) (by repeat first | exact .head _ | apply List.Mem.tail)
  obtain ⟨lt_gf_6, c0_gf_6, c1_gf_6⟩ := HB6.out.r2 (b := gf) (by repeat first | exact .head _ | apply List.Mem.tail)
  obtain ⟨lt_gq_6, c0_gq_6, c1_gq_6, c2_gq_6⟩ := HB6.out.r3 (b := gq) (by repeat first | exact .head _ | apply List.Mem.tail)
  obtain ⟨lt_gr_6, c0_gr_6, c1_gr_6, c2_gr_6⟩ := HB6.out.r3 (b := gr) (by repeat first | exact .head _ | apply List.Mem.tail)
  go_wp2_with fail
  refine (HCpr.out _).mono ?_
  rintro e x7 ⟨rfl, hb7⟩
  have HB7 := Lib.hid (HB6.out.keep hb7)
  have hc7 := below_chain7 hc6 hb7
  clear lt_gp_6 c0_gp_6 c1_gp_6 c2_gp_6 lt_gf_6 c0_gf_6 c1_gf_6 lt_gq_6 c0_gq_6 c1_gq_6 c2_gq_6 lt_gr_6 c0_gr_6 c1_gr_6 c2_gr_6
  clear HB6 hb7 hc6
  obtain ⟨lt_gp_7, c0_gp_7, c1_gp_7, c2_gp_7⟩ := HB7.out.r3 (b := gp) (by repeat first | exact .head _ | apply List.Mem.tail)
  obtain ⟨lt_gf_7, c0_gf_7, c1_gf_7⟩ := HB7.out.r2 (b := gf) (by repeat first | exact .head _ | apply List.Mem.tail)
  obtain ⟨lt_gq_7, c0_gq_7, c1_gq_7, c2_gq_7⟩ := HB7.out.r3 (b := gq) (by repeat first | exact .head _ | apply List.Mem.tail)
  obtain ⟨lt_gr_7, c0_gr_7, c1_gr_7, c2_gr_7⟩ := HB7.out.r3 (b := gr) (by repeat first | exact .head _ | apply List.Mem.tail)
  go_wp2_with fail
  refine (HCqr.out _).mono ?_
  rintro e x8 ⟨rfl, hb8⟩
  have HB8 := Lib.hid (HB7.out.keep hb8)
  have hc8 := below_chain7 hc7 hb8
  clear lt_gp_7 c0_gp_7 c1_gp_7 c2_gp_7 lt_gf_7 c0_gf_7 c1_gf_7 lt_gq_7 c0_gq_7 c1_gq_7 c2_gq_7 lt_gr_7 c0_gr_7 c1_gr_7 c2_gr_7
  clear HB7 hb8 hc7
  obtain ⟨lt_gp_8, c0_gp_8, c1_gp_8, c2_gp_8⟩ := HB8.out.r3 (b := gp) (by repeat first | exact .head _ | apply List.Mem.tail)
  obtain ⟨lt_gf_8, c0_gf_8, c1_gf_8⟩ := HB8.out.r2 (b := gf) (by repeat first | exact .head _ | apply List.Mem.tail)
  obtain ⟨lt_gq_8, c0_gq_8, c1_gq_8, c2_gq_8⟩ := HB8.out.r3 (b := gq) (by repeat first | exact .head _ | apply List.Mem.tail)
  obtain ⟨lt_gr_8, c0_gr_8, c1_gr_8, c2_gr_8⟩ := HB8.out.r3 (b := gr) (by repeat first | exact .head _ | apply List.Mem.tail)
  go_wp2_with fail
  refine (HCrq.out _).mono ?_
  rintro e x9 ⟨rfl, hb9⟩
  have HB9 := Lib.hid (HB8.out.keep hb9)
  have hc9 := below_chain7 hc8 hb9
  clear lt_gp_8 c0_gp_8 c1_gp_8 c2_gp_8 lt_gf_8 c0_gf_8 c1_gf_8 lt_gq_8 c0_gq_8 c1_gq_8 c2_gq_8 lt_gr_8 c0_gr_8 c1_gr_8 c2_gr_8
  clear HB8 hb9 hc8
  obtain ⟨lt_gp_9, c0_gp_9, c1_gp_9, c2_gp_9⟩ := HB9.out.r3 (b := gp) (by repeat first | exact .head _ | apply List.Mem.tail)
  obtain ⟨lt_gf_9, c0_gf_9, c1_gf_9⟩ := HB9.out.r2 (b := gf) (by repeat first | exact .head _ | apply List.Mem.tail)
  obtain ⟨lt_gq_9, c0_gq_9, c1_gq_9, c2_gq_9⟩ := HB9.out.r3 (b := gq) (by repeat first | exact .head _ | apply List.Mem.tail)
  obtain ⟨lt_gr_9, c0_gr_9, c1_gr_9, c2_gr_9⟩ := HB9.out.r3 (b := gr) (by repeat first | exact .head _ | apply List.Mem.tail)
  go_wp2_with fail
  refine (HBq.out _).mono ?_
  rintro e x10 ⟨rfl, hb10⟩
  have HB10 := Lib.hid (HB9.out.keep hb10)
  have hc10 := below_chain7 hc9 hb10
  clear lt_gp_9 c0_gp_9 c1_gp_9 c2_gp_9 lt_gf_9 c0_gf_9 c1_gf_9 lt_gq_9 c0_gq_9 c1_gq_9 c2_gq_9 lt_gr_9 c0_gr_9 c1_gr_9 c2_gr_9
  clear HB9 hb10 hc9
  obtain ⟨lt_gp_10, c0_gp_10, c1_gp_10, c2_gp_10⟩ := HB10.out.r3 (b := gp) (by repeat first | exact .head _ | apply List.Mem.tail)
  obtain ⟨lt_gf_10, c0_gf_10, c1_gf_10⟩ := HB10.out.r2 (b := gf) (by repeat first | exact .head _ | apply List.Mem.tail)
  obtain ⟨lt_gq_10, c0_gq_10, c1_gq_10, c2_gq_10⟩ := HB10.out.r3 (b := gq) (by repeat first | exact .head _ | apply List.Mem.tail)
  obtain ⟨lt_gr_10, c0_gr_10, c1_gr_10, c2_gr_10⟩ := HB10.out.r3 (b := gr) (by repeat first | exact .head _ | apply List.Mem.tail)
  go_wp2_with fail
  refine (HBr.out _).mono ?_
  rintro e x11 ⟨rfl, hb11⟩
  have HB11 := Lib.hid (HB10.out.keep hb11)
  have hc11 := below_chain7 hc10 hb11
  clear lt_gp_10 c0_gp_10 c1_gp_10 c2_gp_10 lt_gf_10 c0_gf_10 c1_gf_10 lt_gq_10 c0_gq_10 c1_gq_10 c2_gq_10 lt_gr_10 c0_gr_10 c1_gr_10 c2_gr_10
  clear HB10 hb11 hc10
  obtain ⟨lt_gp_11, c0_gp_11, c1_gp_11, c2_gp_11⟩ := HB11.out.r3 (b := gp) (by repeat first | exact .head _ | apply List.Mem.tail)
  obtain ⟨lt_gf_11, c0_gf_11, c1_gf_11⟩ := HB11.out.r2 (b := gf) (by repeat first | exact .head _ | apply List.Mem.tail)
  obtain ⟨lt_gq_11, c0_gq_11, c1_gq_11, c2_gq_11⟩ := HB11.out.r3 (b := gq) (by repeat first | exact .head _ | apply List.Mem.tail)
  obtain ⟨lt_gr_11, c0_gr_11, c1_gr_11, c2_gr_11⟩ := HB11.out.r3 (b := gr) (by repeat first | exact .head _ | apply List.Mem.tail)
  have HNL := Lib.hid (HB11.out.new #[.int .u64 (hi : Nat), .int .u64 (lo : Nat), .int .u64 (oh : Nat), .int .u64 (ol : Nat), .int .u64 (fh : Nat), .int .u64 (pl : Nat)] 25)
  have hcL := hc11.alloc hc11.size (.cells #[.int .u64 (hi : Nat), .int .u64 (lo : Nat), .int .u64 (oh : Nat), .int .u64 (ol : Nat), .int .u64 (fh : Nat), .int .u64 (pl : Nat)] 25)
  go_wp2
  generalize x11.heap.size = gs at *
  clear lt_gp_11 c0_gp_11 c1_gp_11 c2_gp_11 lt_gf_11 c0_gf_11 c1_gf_11 lt_gq_11 c0_gq_11 c1_gq_11 c2_gq_11 lt_gr_11 c0_gr_11 c1_gr_11 c2_gr_11
  clear HB11 hc11
  go_loopw [129] (fun x wr => ∃ j : Nat, j ≤ 3 ∧ x = .int .i64 j ∧ Hid (Blks [(gs, #[.int .u64 (hi : Nat), .int .u64 (lo : Nat), .int .u64 (oh : Nat), .int .u64 (ol : Nat), .int .u64 (fh : Nat), .int .u64 (pl : Nat)], 25), (gr, #[.int .u64 (fh : Nat), .int .u64 (pl : Nat), .int .i64 ((k : Int) + 1)], 27), (gq, #[.int .u64 (ph : Nat), .int .u64 (pl : Nat), .int .i64 ((k : Int) + 1)], 27), (gf, #[.int .u64 (fh : Nat), .int .u64 (pl : Nat)], 25), (gp, #[.int .u64 (ph : Nat), .int .u64 (pl : Nat), .int .i64 (k : Nat)], 27)] wr) ∧ Below w.heap.size w wr) (fun x _ => 3 - (intOf x).toNat)
  case atStart => exact ⟨0, by omega, rfl, HNL.out, hcL⟩
  case round =>
    clear HNL hcL
    obtain ⟨j, hj, rfl, HB, hcr⟩ := hrel
    by_cases hlt : j < 3
    · rcases (show j = 0 ∨ j = 1 ∨ j = 2 from by omega) with rfl | rfl | rfl
      · have s0 : wr.cell? ⟨gs, 0, none⟩ = some (.int .u64 (hi : Nat)) := cell_row (HB.out _ (.head _)) 0
        have s1 : wr.cell? ⟨gs, 1, none⟩ = some (.int .u64 (lo : Nat)) := cell_row (HB.out _ (.head _)) 1
        have hgs := HB.out.lt (.head _)
        obtain ⟨hp, hq, hr, ⟨e1, e2⟩, HP', HQ', HR'⟩ := HS.out hi lo b1 b2
        have HP := Lib.hid HP'
        have HQ := Lib.hid HQ'
        have HR := Lib.hid HR'
        have HY := Lib.hid (HB.out.new #[.int .u64 (hi : Nat), .int .u64 (lo : Nat)] 25)
        have hcy := hcr.alloc hcr.size (.cells #[.int .u64 (hi : Nat), .int .u64 (lo : Nat)] 25)
        clear HP' HQ' HR'
        rw [show ((0 : Nat) : Int) = 0 from rfl]
        go_wp2
        generalize wr.alloc (.cells #[.int .u64 (hi : Nat), .int .u64 (lo : Nat)] 25) = y at *
        generalize wr.heap.size = ga at *
        have HK : Hid (∀ W, Below y.heap.size y W → (fun W => ((W.cell? ⟨gp, 0, none⟩ = some (.int .u64 (ph : Nat)) ∧ W.cell? ⟨gp, 1, none⟩ = some (.int .u64 (pl : Nat)) ∧ W.cell? ⟨gp, 2, none⟩ = some (.int .i64 (k : Nat))) ∧ (W.cell? ⟨gq, 0, none⟩ = some (.int .u64 (ph : Nat)) ∧ W.cell? ⟨gq, 1, none⟩ = some (.int .u64 (pl : Nat)) ∧ W.cell? ⟨gq, 2, none⟩ = some (.int .i64 ((k : Int) + 1))) ∧ (W.cell? ⟨gr, 0, none⟩ = some (.int .u64 (fh : Nat)) ∧ W.cell? ⟨gr, 1, none⟩ = some (.int .u64 (pl : Nat)) ∧ W.cell? ⟨gr, 2, none⟩ = some (.int .i64 ((k : Int) + 1)))) ∧ W.cell? ⟨ga, 0, none⟩ = some (.int .u64 (hi : Nat)) ∧ W.cell? ⟨ga, 1, none⟩ = some (.int .u64 (lo : Nat))) W) := fun W hW => by
          have h := HY.out.keep hW
          exact ⟨⟨(h.r3 (b := gp) (by repeat first | exact .head _ | apply List.Mem.tail)).2, (h.r3 (b := gq) (by repeat first | exact .head _ | apply List.Mem.tail)).2, (h.r3 (b := gr) (by repeat first | exact .head _ | apply List.Mem.tail)).2⟩, (h.r2 (b := ga) (.head _)).2⟩
        clear s0 s1 hgs
        cases hq with
        | true =>
          obtain rfl : hr = false := by simpa using e2
          obtain rfl : hp = true := by simpa using e1
          clear e1 e2
          refine wp_region_held_drew (S := fun W => ((W.cell? ⟨gp, 0, none⟩ = some (.int .u64 (ph : Nat)) ∧ W.cell? ⟨gp, 1, none⟩ = some (.int .u64 (pl : Nat)) ∧ W.cell? ⟨gp, 2, none⟩ = some (.int .i64 (k : Nat))) ∧ (W.cell? ⟨gq, 0, none⟩ = some (.int .u64 (ph : Nat)) ∧ W.cell? ⟨gq, 1, none⟩ = some (.int .u64 (pl : Nat)) ∧ W.cell? ⟨gq, 2, none⟩ = some (.int .i64 ((k : Int) + 1))) ∧ (W.cell? ⟨gr, 0, none⟩ = some (.int .u64 (fh : Nat)) ∧ W.cell? ⟨gr, 1, none⟩ = some (.int .u64 (pl : Nat)) ∧ W.cell? ⟨gr, 2, none⟩ = some (.int .i64 ((k : Int) + 1)))) ∧ W.cell? ⟨ga, 0, none⟩ = some (.int .u64 (hi : Nat)) ∧ W.cell? ⟨ga, 1, none⟩ = some (.int .u64 (lo : Nat))) (by kernel_rfl) ?_ (fun hHeld => ?_)
          · exact HK.out _ (Below.refl _ _).drew
          refine wpAnyH_take (i := 0) (oi := ⟨some 133, _, _, _, _, _⟩) (v := ?_) rfl (by kernel_rfl) (by kernel_rfl) (by kernel_rfl) (fun _ _ _ h => h) (Or.inl ⟨by rfl, ?_⟩) hHeld ?_
          rotate_left
          · intro w hSw
            (try dsimp only at hSw)
            go_simp
            try with_reducible rfl
          try simp only [Act.put, List.setIfInBounds_toArray, List.set_cons_zero, List.set_cons_succ]
          refine wpAnyH_take (i := 1) (oi := ⟨some 134, _, _, _, _, _⟩) (v := ?_) rfl (by kernel_rfl) (by kernel_rfl) (by kernel_rfl) (fun _ _ _ h => h) (Or.inl ⟨by rfl, ?_⟩) hHeld ?_
          rotate_left
          · intro w hSw
            (try dsimp only at hSw)
            go_simp
            try with_reducible rfl
          try simp only [Act.put, List.setIfInBounds_toArray, List.set_cons_zero, List.set_cons_succ]
          refine wpAnyH_take (i := 2) (oi := ⟨some 135, _, _, _, _, _⟩) (v := ?_) rfl (by kernel_rfl) (by kernel_rfl) (by kernel_rfl) (fun _ _ _ h => h) (Or.inl ⟨by rfl, ?_⟩) hHeld ?_
          rotate_left
          · intro w hSw
            (try dsimp only at hSw)
            go_simp
            try with_reducible rfl
          try simp only [Act.put, List.setIfInBounds_toArray, List.set_cons_zero, List.set_cons_succ]
          refine wpAnyH_take (i := 4) (oi := ⟨some 137, _, _, _, _, _⟩) (v := ?_) rfl (by kernel_rfl) (by kernel_rfl) (by kernel_rfl) (fun _ _ _ h => h) (Or.inl ⟨by rfl, ?_⟩) hHeld ?_
          rotate_left
          · intro w hSw
            (try dsimp only at hSw)
            go_simp
            try with_reducible rfl
          try simp only [Act.put, List.setIfInBounds_toArray, List.set_cons_zero, List.set_cons_succ]
          refine wpAnyH_take (i := 5) (oi := ⟨some 138, _, _, _, _, _⟩) (v := ?_) rfl (by kernel_rfl) (by kernel_rfl) (by kernel_rfl) (fun _ _ _ h => h) (Or.inl ⟨by rfl, ?_⟩) hHeld ?_
          rotate_left
          · intro w hSw
            (try dsimp only at hSw)
            go_simp
            try with_reducible rfl
          try simp only [Act.put, List.setIfInBounds_toArray, List.set_cons_zero, List.set_cons_succ]
          refine wpAnyH_take (i := 6) (oi := ⟨some 139, _, _, _, _, _⟩) (v := ?_) rfl (by kernel_rfl) (by kernel_rfl) (by kernel_rfl) (fun _ _ _ h => h) (Or.inl ⟨by rfl, ?_⟩) hHeld ?_
          rotate_left
          · intro w hSw
            (try dsimp only at hSw)
            go_simp
            try with_reducible rfl
          try simp only [Act.put, List.setIfInBounds_toArray, List.set_cons_zero, List.set_cons_succ]
          refine wpAnyH_ready (rs := [3]) (by kernel_rfl) (by simp) ?_
          refine AllReadyH.cons (o := ⟨some 136, _, _, _, _, _⟩) rfl (fun K hK => ?_) AllReadyH.nil
          go_simp
          go_at_call 8
          refine (HP.out _).mono ?_
          rintro e y1 ⟨rfl, hy1⟩
          (try go_wp2_with fail)
          refine hK.out _ _ ?_ (fun hHeld1 => ?_)
          · exact HK.out _ (drew_c hy1)
          clear hK K
          try simp only [Act.put, List.setIfInBounds_toArray, List.set_cons_zero, List.set_cons_succ]
          refine wpAnyH_ready (rs := [7]) (by kernel_rfl) (by simp) ?_
          refine AllReadyH.cons (o := ⟨some 140, _, _, _, _, _⟩) rfl (fun K hK => ?_) AllReadyH.nil
          go_simp
          go_at_call 8
          refine (HQ.out _).mono ?_
          rintro e y2 ⟨rfl, hy2⟩
          (try go_wp2_with fail)
          refine hK.out _ _ ?_ (fun hHeld2 => ?_)
          · exact HK.out _ (below_chain7 (drew_c hy1) hy2)
          clear hK K
          try simp only [Act.put, List.setIfInBounds_toArray, List.set_cons_zero, List.set_cons_succ]
          refine wpAnyH_take (i := 8) (oi := ⟨some 141, _, _, _, _, _⟩) (v := ?_) rfl (by kernel_rfl) (by kernel_rfl) (by kernel_rfl) (fun _ _ _ h => h) (Or.inl ⟨by rfl, ?_⟩) hHeld2 ?_
          rotate_left
          · intro w hSw
            (try dsimp only at hSw)
            go_simp
            try with_reducible rfl
          try simp only [Act.put, List.setIfInBounds_toArray, List.set_cons_zero, List.set_cons_succ]
          refine wpAnyH_take (i := 9) (oi := ⟨some 142, _, _, _, _, _⟩) (v := undef) rfl (by kernel_rfl) (by kernel_rfl) (by kernel_rfl) (fun _ _ _ h => h) (Or.inr ⟨by rfl, rfl⟩) hHeld2 ?_
          try simp only [Act.put, List.setIfInBounds_toArray, List.set_cons_zero, List.set_cons_succ]
          refine wpAnyH_take (i := 10) (oi := ⟨some 143, _, _, _, _, _⟩) (v := undef) rfl (by kernel_rfl) (by kernel_rfl) (by kernel_rfl) (fun _ _ _ h => h) (Or.inr ⟨by rfl, rfl⟩) hHeld2 ?_
          try simp only [Act.put, List.setIfInBounds_toArray, List.set_cons_zero, List.set_cons_succ]
          refine wpAnyH_take (i := 11) (oi := ⟨some 144, _, _, _, _, _⟩) (v := undef) rfl (by kernel_rfl) (by kernel_rfl) (by kernel_rfl) (fun _ _ _ h => h) (Or.inr ⟨by rfl, rfl⟩) hHeld2 ?_
          try simp only [Act.put, List.setIfInBounds_toArray, List.set_cons_zero, List.set_cons_succ]
          refine wpAnyH_take (i := 12) (oi := ⟨some 145, _, _, _, _, _⟩) (v := undef) rfl (by kernel_rfl) (by kernel_rfl) (by kernel_rfl) (fun _ _ _ h => h) (Or.inr ⟨by rfl, rfl⟩) hHeld2 ?_
          try simp only [Act.put, List.setIfInBounds_toArray, List.set_cons_zero, List.set_cons_succ]
          refine wpAnyH_take (i := 13) (oi := ⟨some 146, _, _, _, _, _⟩) (v := ?_) rfl (by kernel_rfl) (by kernel_rfl) (by kernel_rfl) (fun _ _ _ h => h) (Or.inl ⟨by rfl, ?_⟩) hHeld2 ?_
          rotate_left
          · intro w hSw
            (try dsimp only at hSw)
            go_simp
            try with_reducible rfl
          try simp only [Act.put, List.setIfInBounds_toArray, List.set_cons_zero, List.set_cons_succ]
          refine wpAnyH_take (i := 14) (oi := ⟨some 147, _, _, _, _, _⟩) (v := ?_) rfl (by kernel_rfl) (by kernel_rfl) (by kernel_rfl) (fun _ _ _ h => h) (Or.inl ⟨by rfl, ?_⟩) hHeld2 ?_
          rotate_left
          · intro w hSw
            (try dsimp only at hSw)
            go_simp
            try with_reducible rfl
          try simp only [Act.put, List.setIfInBounds_toArray, List.set_cons_zero, List.set_cons_succ]
          refine wpAnyH_take (i := 15) (oi := ⟨some 148, _, _, _, _, _⟩) (v := ?_) rfl (by kernel_rfl) (by kernel_rfl) (by kernel_rfl) (fun _ _ _ h => h) (Or.inl ⟨by rfl, ?_⟩) hHeld2 ?_
          rotate_left
          · intro w hSw
            (try dsimp only at hSw)
            go_simp
            try with_reducible rfl
          try simp only [Act.put, List.setIfInBounds_toArray, List.set_cons_zero, List.set_cons_succ]
          refine wpAnyH_take (i := 16) (oi := ⟨some 149, _, _, _, _, _⟩) (v := ?_) rfl (by kernel_rfl) (by kernel_rfl) (by kernel_rfl) (fun _ _ _ h => h) (Or.inl ⟨by rfl, ?_⟩) hHeld2 ?_
          rotate_left
          · intro w hSw
            (try dsimp only at hSw)
            go_simp
            try with_reducible rfl
          try simp only [Act.put, List.setIfInBounds_toArray, List.set_cons_zero, List.set_cons_succ]
          refine wpAnyH_take (i := 17) (oi := ⟨some 150, _, _, _, _, _⟩) (v := ?_) rfl (by kernel_rfl) (by kernel_rfl) (by kernel_rfl) (fun _ _ _ h => h) (Or.inl ⟨by rfl, ?_⟩) hHeld2 ?_
          rotate_left
          · intro w hSw
            (try dsimp only at hSw)
            go_simp
            try with_reducible rfl
          try simp only [Act.put, List.setIfInBounds_toArray, List.set_cons_zero, List.set_cons_succ]
          refine wpAnyH_take (i := 18) (oi := ⟨some 151, _, _, _, _, _⟩) (v := ?_) rfl (by kernel_rfl) (by kernel_rfl) (by kernel_rfl) (fun _ _ _ h => h) (Or.inl ⟨by rfl, ?_⟩) hHeld2 ?_
          rotate_left
          · intro w hSw
            (try dsimp only at hSw)
            go_simp
            try with_reducible rfl
          try simp only [Act.put, List.setIfInBounds_toArray, List.set_cons_zero, List.set_cons_succ]
          refine wpAnyH_ready (rs := [19]) (by kernel_rfl) (by simp) ?_
          refine AllReadyH.cons (o := ⟨some 152, _, _, _, _, _⟩) rfl (fun K hK => ?_) AllReadyH.nil
          go_simp
          go_at_call 8
          refine (HQ.out _).mono ?_
          rintro e y3 ⟨rfl, hy3⟩
          (try go_wp2_with fail)
          refine hK.out _ _ ?_ (fun hHeld3 => ?_)
          · exact HK.out _ (below_chain7 (below_chain7 (drew_c hy1) hy2) hy3)
          clear hK K
          try simp only [Act.put, List.setIfInBounds_toArray, List.set_cons_zero, List.set_cons_succ]
          refine wpAnyH_take (i := 20) (oi := ⟨some 153, _, _, _, _, _⟩) (v := ?_) rfl (by kernel_rfl) (by kernel_rfl) (by kernel_rfl) (fun _ _ _ h => h) (Or.inl ⟨by rfl, ?_⟩) hHeld3 ?_
          rotate_left
          · intro w hSw
            (try dsimp only at hSw)
            go_simp
            try with_reducible rfl
          try simp only [Act.put, List.setIfInBounds_toArray, List.set_cons_zero, List.set_cons_succ]
          refine wpAnyH_take (i := 21) (oi := ⟨some 154, _, _, _, _, _⟩) (v := ?_) rfl (by kernel_rfl) (by kernel_rfl) (by kernel_rfl) (fun _ _ _ h => h) (Or.inl ⟨by rfl, ?_⟩) hHeld3 ?_
          rotate_left
          · intro w hSw
            (try dsimp only at hSw)
            go_simp
            try with_reducible rfl
          try simp only [Act.put, List.setIfInBounds_toArray, List.set_cons_zero, List.set_cons_succ]
          refine wpAnyH_take (i := 22) (oi := ⟨some 155, _, _, _, _, _⟩) (v := ?_) rfl (by kernel_rfl) (by kernel_rfl) (by kernel_rfl) (fun _ _ _ h => h) (Or.inl ⟨by rfl, ?_⟩) hHeld3 ?_
          rotate_left
          · intro w hSw
            (try dsimp only at hSw)
            go_simp
            try with_reducible rfl
          try simp only [Act.put, List.setIfInBounds_toArray, List.set_cons_zero, List.set_cons_succ]
          refine wpAnyH_take (i := 23) (oi := ⟨some 156, _, _, _, _, _⟩) (v := ?_) rfl (by kernel_rfl) (by kernel_rfl) (by kernel_rfl) (fun _ _ _ h => h) (Or.inl ⟨by rfl, ?_⟩) hHeld3 ?_
          rotate_left
          · intro w hSw
            (try dsimp only at hSw)
            go_simp
            try with_reducible rfl
          try simp only [Act.put, List.setIfInBounds_toArray, List.set_cons_zero, List.set_cons_succ]
          refine wpAnyH_ready (rs := [24]) (by kernel_rfl) (by simp) ?_
          refine AllReadyH.cons (o := ⟨some 157, _, _, _, _, _⟩) rfl (fun K hK => ?_) AllReadyH.nil
          go_simp
          go_at_call 8
          refine (HR.out _).mono ?_
          rintro e y4 ⟨rfl, hy4⟩
          (try go_wp2_with fail)
          refine hK.out _ _ ?_ (fun hHeld4 => ?_)
          · exact HK.out _ (below_chain7 (below_chain7 (below_chain7 (drew_c hy1) hy2) hy3) hy4)
          clear hK K
          try simp only [Act.put, List.setIfInBounds_toArray, List.set_cons_zero, List.set_cons_succ]
          refine wpAnyH_take (i := 25) (oi := ⟨some 158, _, _, _, _, _⟩) (v := ?_) rfl (by kernel_rfl) (by kernel_rfl) (by kernel_rfl) (fun _ _ _ h => h) (Or.inl ⟨by rfl, ?_⟩) hHeld4 ?_
          rotate_left
          · intro w hSw
            (try dsimp only at hSw)
            go_simp
            try with_reducible rfl
          try simp only [Act.put, List.setIfInBounds_toArray, List.set_cons_zero, List.set_cons_succ]
          refine wpAnyH_take (i := 26) (oi := ⟨some 159, _, _, _, _, _⟩) (v := ?_) rfl (by kernel_rfl) (by kernel_rfl) (by kernel_rfl) (fun _ _ _ h => h) (Or.inl ⟨by rfl, ?_⟩) hHeld4 ?_
          rotate_left
          · intro w hSw
            (try dsimp only at hSw)
            go_simp
            try with_reducible rfl
          try simp only [Act.put, List.setIfInBounds_toArray, List.set_cons_zero, List.set_cons_succ]
          refine wpAnyH_done (by kernel_rfl) ?_ _
          go_wp2
          go_roundw
          case rel => exact ⟨1, by omega, by go_num, fun e he => HY.out.keep (below_chain7 (below_chain7 (below_chain7 (drew_c hy1) hy2) hy3) hy4) e (.tail _ he), below_chain7 hcy (below_chain7 (below_chain7 (below_chain7 (drew_c hy1) hy2) hy3) hy4)⟩
          case measure => simp [intOf]
        | false =>
          obtain rfl : hp = hr := by simpa using e1
          clear e1 e2
          cases hp with
          | true =>
            refine wp_region_held_drew (S := fun W => ((W.cell? ⟨gp, 0, none⟩ = some (.int .u64 (ph : Nat)) ∧ W.cell? ⟨gp, 1, none⟩ = some (.int .u64 (pl : Nat)) ∧ W.cell? ⟨gp, 2, none⟩ = some (.int .i64 (k : Nat))) ∧ (W.cell? ⟨gq, 0, none⟩ = some (.int .u64 (ph : Nat)) ∧ W.cell? ⟨gq, 1, none⟩ = some (.int .u64 (pl : Nat)) ∧ W.cell? ⟨gq, 2, none⟩ = some (.int .i64 ((k : Int) + 1))) ∧ (W.cell? ⟨gr, 0, none⟩ = some (.int .u64 (fh : Nat)) ∧ W.cell? ⟨gr, 1, none⟩ = some (.int .u64 (pl : Nat)) ∧ W.cell? ⟨gr, 2, none⟩ = some (.int .i64 ((k : Int) + 1)))) ∧ W.cell? ⟨ga, 0, none⟩ = some (.int .u64 (hi : Nat)) ∧ W.cell? ⟨ga, 1, none⟩ = some (.int .u64 (lo : Nat))) (by kernel_rfl) ?_ (fun hHeld => ?_)
            · exact HK.out _ (Below.refl _ _).drew
            refine wpAnyH_take (i := 0) (oi := ⟨some 133, _, _, _, _, _⟩) (v := ?_) rfl (by kernel_rfl) (by kernel_rfl) (by kernel_rfl) (fun _ _ _ h => h) (Or.inl ⟨by rfl, ?_⟩) hHeld ?_
            rotate_left
            · intro w hSw
              (try dsimp only at hSw)
              go_simp
              try with_reducible rfl
            try simp only [Act.put, List.setIfInBounds_toArray, List.set_cons_zero, List.set_cons_succ]
            refine wpAnyH_take (i := 1) (oi := ⟨some 134, _, _, _, _, _⟩) (v := ?_) rfl (by kernel_rfl) (by kernel_rfl) (by kernel_rfl) (fun _ _ _ h => h) (Or.inl ⟨by rfl, ?_⟩) hHeld ?_
            rotate_left
            · intro w hSw
              (try dsimp only at hSw)
              go_simp
              try with_reducible rfl
            try simp only [Act.put, List.setIfInBounds_toArray, List.set_cons_zero, List.set_cons_succ]
            refine wpAnyH_take (i := 2) (oi := ⟨some 135, _, _, _, _, _⟩) (v := ?_) rfl (by kernel_rfl) (by kernel_rfl) (by kernel_rfl) (fun _ _ _ h => h) (Or.inl ⟨by rfl, ?_⟩) hHeld ?_
            rotate_left
            · intro w hSw
              (try dsimp only at hSw)
              go_simp
              try with_reducible rfl
            try simp only [Act.put, List.setIfInBounds_toArray, List.set_cons_zero, List.set_cons_succ]
            refine wpAnyH_take (i := 4) (oi := ⟨some 137, _, _, _, _, _⟩) (v := ?_) rfl (by kernel_rfl) (by kernel_rfl) (by kernel_rfl) (fun _ _ _ h => h) (Or.inl ⟨by rfl, ?_⟩) hHeld ?_
            rotate_left
            · intro w hSw
              (try dsimp only at hSw)
              go_simp
              try with_reducible rfl
            try simp only [Act.put, List.setIfInBounds_toArray, List.set_cons_zero, List.set_cons_succ]
            refine wpAnyH_take (i := 5) (oi := ⟨some 138, _, _, _, _, _⟩) (v := ?_) rfl (by kernel_rfl) (by kernel_rfl) (by kernel_rfl) (fun _ _ _ h => h) (Or.inl ⟨by rfl, ?_⟩) hHeld ?_
            rotate_left
            · intro w hSw
              (try dsimp only at hSw)
              go_simp
              try with_reducible rfl
            try simp only [Act.put, List.setIfInBounds_toArray, List.set_cons_zero, List.set_cons_succ]
            refine wpAnyH_take (i := 6) (oi := ⟨some 139, _, _, _, _, _⟩) (v := ?_) rfl (by kernel_rfl) (by kernel_rfl) (by kernel_rfl) (fun _ _ _ h => h) (Or.inl ⟨by rfl, ?_⟩) hHeld ?_
            rotate_left
            · intro w hSw
              (try dsimp only at hSw)
              go_simp
              try with_reducible rfl
            try simp only [Act.put, List.setIfInBounds_toArray, List.set_cons_zero, List.set_cons_succ]
            refine wpAnyH_ready (rs := [3]) (by kernel_rfl) (by simp) ?_
            refine AllReadyH.cons (o := ⟨some 136, _, _, _, _, _⟩) rfl (fun K hK => ?_) AllReadyH.nil
            go_simp
            go_at_call 8
            refine (HP.out _).mono ?_
            rintro e y1 ⟨rfl, hy1⟩
            (try go_wp2_with fail)
            refine hK.out _ _ ?_ (fun hHeld1 => ?_)
            · exact HK.out _ (drew_c hy1)
            clear hK K
            try simp only [Act.put, List.setIfInBounds_toArray, List.set_cons_zero, List.set_cons_succ]
            refine wpAnyH_ready (rs := [7]) (by kernel_rfl) (by simp) ?_
            refine AllReadyH.cons (o := ⟨some 140, _, _, _, _, _⟩) rfl (fun K hK => ?_) AllReadyH.nil
            go_simp
            go_at_call 8
            refine (HQ.out _).mono ?_
            rintro e y2 ⟨rfl, hy2⟩
            (try go_wp2_with fail)
            refine hK.out _ _ ?_ (fun hHeld2 => ?_)
            · exact HK.out _ (below_chain7 (drew_c hy1) hy2)
            clear hK K
            try simp only [Act.put, List.setIfInBounds_toArray, List.set_cons_zero, List.set_cons_succ]
            refine wpAnyH_take (i := 8) (oi := ⟨some 141, _, _, _, _, _⟩) (v := ?_) rfl (by kernel_rfl) (by kernel_rfl) (by kernel_rfl) (fun _ _ _ h => h) (Or.inl ⟨by rfl, ?_⟩) hHeld2 ?_
            rotate_left
            · intro w hSw
              (try dsimp only at hSw)
              go_simp
              try with_reducible rfl
            try simp only [Act.put, List.setIfInBounds_toArray, List.set_cons_zero, List.set_cons_succ]
            refine wpAnyH_take (i := 9) (oi := ⟨some 142, _, _, _, _, _⟩) (v := ?_) rfl (by kernel_rfl) (by kernel_rfl) (by kernel_rfl) (fun _ _ _ h => h) (Or.inl ⟨by rfl, ?_⟩) hHeld2 ?_
            rotate_left
            · intro w hSw
              (try dsimp only at hSw)
              go_simp
              try with_reducible rfl
            try simp only [Act.put, List.setIfInBounds_toArray, List.set_cons_zero, List.set_cons_succ]
            refine wpAnyH_take (i := 10) (oi := ⟨some 143, _, _, _, _, _⟩) (v := ?_) rfl (by kernel_rfl) (by kernel_rfl) (by kernel_rfl) (fun _ _ _ h => h) (Or.inl ⟨by rfl, ?_⟩) hHeld2 ?_
            rotate_left
            · intro w hSw
              (try dsimp only at hSw)
              go_simp
              try with_reducible rfl
            try simp only [Act.put, List.setIfInBounds_toArray, List.set_cons_zero, List.set_cons_succ]
            refine wpAnyH_take (i := 11) (oi := ⟨some 144, _, _, _, _, _⟩) (v := ?_) rfl (by kernel_rfl) (by kernel_rfl) (by kernel_rfl) (fun _ _ _ h => h) (Or.inl ⟨by rfl, ?_⟩) hHeld2 ?_
            rotate_left
            · intro w hSw
              (try dsimp only at hSw)
              go_simp
              try with_reducible rfl
            try simp only [Act.put, List.setIfInBounds_toArray, List.set_cons_zero, List.set_cons_succ]
            refine wpAnyH_ready (rs := [12]) (by kernel_rfl) (by simp) ?_
            refine AllReadyH.cons (o := ⟨some 145, _, _, _, _, _⟩) rfl (fun K hK => ?_) AllReadyH.nil
            go_simp
            go_at_call 8
            refine (HR.out _).mono ?_
            rintro e y3 ⟨rfl, hy3⟩
            (try go_wp2_with fail)
            refine hK.out _ _ ?_ (fun hHeld3 => ?_)
            · exact HK.out _ (below_chain7 (below_chain7 (drew_c hy1) hy2) hy3)
            clear hK K
            try simp only [Act.put, List.setIfInBounds_toArray, List.set_cons_zero, List.set_cons_succ]
            refine wpAnyH_take (i := 13) (oi := ⟨some 146, _, _, _, _, _⟩) (v := ?_) rfl (by kernel_rfl) (by kernel_rfl) (by kernel_rfl) (fun _ _ _ h => h) (Or.inl ⟨by rfl, ?_⟩) hHeld3 ?_
            rotate_left
            · intro w hSw
              (try dsimp only at hSw)
              go_simp
              try with_reducible rfl
            try simp only [Act.put, List.setIfInBounds_toArray, List.set_cons_zero, List.set_cons_succ]
            refine wpAnyH_take (i := 14) (oi := ⟨some 147, _, _, _, _, _⟩) (v := ?_) rfl (by kernel_rfl) (by kernel_rfl) (by kernel_rfl) (fun _ _ _ h => h) (Or.inl ⟨by rfl, ?_⟩) hHeld3 ?_
            rotate_left
            · intro w hSw
              (try dsimp only at hSw)
              go_simp
              try with_reducible rfl
            try simp only [Act.put, List.setIfInBounds_toArray, List.set_cons_zero, List.set_cons_succ]
            refine wpAnyH_take (i := 15) (oi := ⟨some 148, _, _, _, _, _⟩) (v := ?_) rfl (by kernel_rfl) (by kernel_rfl) (by kernel_rfl) (fun _ _ _ h => h) (Or.inl ⟨by rfl, ?_⟩) hHeld3 ?_
            rotate_left
            · intro w hSw
              (try dsimp only at hSw)
              go_simp
              try with_reducible rfl
            try simp only [Act.put, List.setIfInBounds_toArray, List.set_cons_zero, List.set_cons_succ]
            refine wpAnyH_take (i := 16) (oi := ⟨some 149, _, _, _, _, _⟩) (v := ?_) rfl (by kernel_rfl) (by kernel_rfl) (by kernel_rfl) (fun _ _ _ h => h) (Or.inl ⟨by rfl, ?_⟩) hHeld3 ?_
            rotate_left
            · intro w hSw
              (try dsimp only at hSw)
              go_simp
              try with_reducible rfl
            try simp only [Act.put, List.setIfInBounds_toArray, List.set_cons_zero, List.set_cons_succ]
            refine wpAnyH_take (i := 17) (oi := ⟨some 150, _, _, _, _, _⟩) (v := ?_) rfl (by kernel_rfl) (by kernel_rfl) (by kernel_rfl) (fun _ _ _ h => h) (Or.inl ⟨by rfl, ?_⟩) hHeld3 ?_
            rotate_left
            · intro w hSw
              (try dsimp only at hSw)
              go_simp
              try with_reducible rfl
            try simp only [Act.put, List.setIfInBounds_toArray, List.set_cons_zero, List.set_cons_succ]
            refine wpAnyH_take (i := 18) (oi := ⟨some 151, _, _, _, _, _⟩) (v := ?_) rfl (by kernel_rfl) (by kernel_rfl) (by kernel_rfl) (fun _ _ _ h => h) (Or.inl ⟨by rfl, ?_⟩) hHeld3 ?_
            rotate_left
            · intro w hSw
              (try dsimp only at hSw)
              go_simp
              try with_reducible rfl
            try simp only [Act.put, List.setIfInBounds_toArray, List.set_cons_zero, List.set_cons_succ]
            refine wpAnyH_ready (rs := [19]) (by kernel_rfl) (by simp) ?_
            refine AllReadyH.cons (o := ⟨some 152, _, _, _, _, _⟩) rfl (fun K hK => ?_) AllReadyH.nil
            go_simp
            go_at_call 8
            refine (HQ.out _).mono ?_
            rintro e y4 ⟨rfl, hy4⟩
            (try go_wp2_with fail)
            refine hK.out _ _ ?_ (fun hHeld4 => ?_)
            · exact HK.out _ (below_chain7 (below_chain7 (below_chain7 (drew_c hy1) hy2) hy3) hy4)
            clear hK K
            try simp only [Act.put, List.setIfInBounds_toArray, List.set_cons_zero, List.set_cons_succ]
            refine wpAnyH_take (i := 20) (oi := ⟨some 153, _, _, _, _, _⟩) (v := ?_) rfl (by kernel_rfl) (by kernel_rfl) (by kernel_rfl) (fun _ _ _ h => h) (Or.inl ⟨by rfl, ?_⟩) hHeld4 ?_
            rotate_left
            · intro w hSw
              (try dsimp only at hSw)
              go_simp
              try with_reducible rfl
            try simp only [Act.put, List.setIfInBounds_toArray, List.set_cons_zero, List.set_cons_succ]
            refine wpAnyH_take (i := 21) (oi := ⟨some 154, _, _, _, _, _⟩) (v := undef) rfl (by kernel_rfl) (by kernel_rfl) (by kernel_rfl) (fun _ _ _ h => h) (Or.inr ⟨by rfl, rfl⟩) hHeld4 ?_
            try simp only [Act.put, List.setIfInBounds_toArray, List.set_cons_zero, List.set_cons_succ]
            refine wpAnyH_take (i := 22) (oi := ⟨some 155, _, _, _, _, _⟩) (v := undef) rfl (by kernel_rfl) (by kernel_rfl) (by kernel_rfl) (fun _ _ _ h => h) (Or.inr ⟨by rfl, rfl⟩) hHeld4 ?_
            try simp only [Act.put, List.setIfInBounds_toArray, List.set_cons_zero, List.set_cons_succ]
            refine wpAnyH_take (i := 23) (oi := ⟨some 156, _, _, _, _, _⟩) (v := undef) rfl (by kernel_rfl) (by kernel_rfl) (by kernel_rfl) (fun _ _ _ h => h) (Or.inr ⟨by rfl, rfl⟩) hHeld4 ?_
            try simp only [Act.put, List.setIfInBounds_toArray, List.set_cons_zero, List.set_cons_succ]
            refine wpAnyH_take (i := 24) (oi := ⟨some 157, _, _, _, _, _⟩) (v := undef) rfl (by kernel_rfl) (by kernel_rfl) (by kernel_rfl) (fun _ _ _ h => h) (Or.inr ⟨by rfl, rfl⟩) hHeld4 ?_
            try simp only [Act.put, List.setIfInBounds_toArray, List.set_cons_zero, List.set_cons_succ]
            refine wpAnyH_take (i := 25) (oi := ⟨some 158, _, _, _, _, _⟩) (v := ?_) rfl (by kernel_rfl) (by kernel_rfl) (by kernel_rfl) (fun _ _ _ h => h) (Or.inl ⟨by rfl, ?_⟩) hHeld4 ?_
            rotate_left
            · intro w hSw
              (try dsimp only at hSw)
              go_simp
              try with_reducible rfl
            try simp only [Act.put, List.setIfInBounds_toArray, List.set_cons_zero, List.set_cons_succ]
            refine wpAnyH_take (i := 26) (oi := ⟨some 159, _, _, _, _, _⟩) (v := ?_) rfl (by kernel_rfl) (by kernel_rfl) (by kernel_rfl) (fun _ _ _ h => h) (Or.inl ⟨by rfl, ?_⟩) hHeld4 ?_
            rotate_left
            · intro w hSw
              (try dsimp only at hSw)
              go_simp
              try with_reducible rfl
            try simp only [Act.put, List.setIfInBounds_toArray, List.set_cons_zero, List.set_cons_succ]
            refine wpAnyH_done (by kernel_rfl) ?_ _
            go_wp2
            go_roundw
            case rel => exact ⟨1, by omega, by go_num, fun e he => HY.out.keep (below_chain7 (below_chain7 (below_chain7 (drew_c hy1) hy2) hy3) hy4) e (.tail _ he), below_chain7 hcy (below_chain7 (below_chain7 (below_chain7 (drew_c hy1) hy2) hy3) hy4)⟩
            case measure => simp [intOf]
          | false =>
            refine wp_region_held_drew (S := fun W => ((W.cell? ⟨gp, 0, none⟩ = some (.int .u64 (ph : Nat)) ∧ W.cell? ⟨gp, 1, none⟩ = some (.int .u64 (pl : Nat)) ∧ W.cell? ⟨gp, 2, none⟩ = some (.int .i64 (k : Nat))) ∧ (W.cell? ⟨gq, 0, none⟩ = some (.int .u64 (ph : Nat)) ∧ W.cell? ⟨gq, 1, none⟩ = some (.int .u64 (pl : Nat)) ∧ W.cell? ⟨gq, 2, none⟩ = some (.int .i64 ((k : Int) + 1))) ∧ (W.cell? ⟨gr, 0, none⟩ = some (.int .u64 (fh : Nat)) ∧ W.cell? ⟨gr, 1, none⟩ = some (.int .u64 (pl : Nat)) ∧ W.cell? ⟨gr, 2, none⟩ = some (.int .i64 ((k : Int) + 1)))) ∧ W.cell? ⟨ga, 0, none⟩ = some (.int .u64 (hi : Nat)) ∧ W.cell? ⟨ga, 1, none⟩ = some (.int .u64 (lo : Nat))) (by kernel_rfl) ?_ (fun hHeld => ?_)
            · exact HK.out _ (Below.refl _ _).drew
            refine wpAnyH_take (i := 0) (oi := ⟨some 133, _, _, _, _, _⟩) (v := ?_) rfl (by kernel_rfl) (by kernel_rfl) (by kernel_rfl) (fun _ _ _ h => h) (Or.inl ⟨by rfl, ?_⟩) hHeld ?_
            rotate_left
            · intro w hSw
              (try dsimp only at hSw)
              go_simp
              try with_reducible rfl
            try simp only [Act.put, List.setIfInBounds_toArray, List.set_cons_zero, List.set_cons_succ]
            refine wpAnyH_take (i := 1) (oi := ⟨some 134, _, _, _, _, _⟩) (v := ?_) rfl (by kernel_rfl) (by kernel_rfl) (by kernel_rfl) (fun _ _ _ h => h) (Or.inl ⟨by rfl, ?_⟩) hHeld ?_
            rotate_left
            · intro w hSw
              (try dsimp only at hSw)
              go_simp
              try with_reducible rfl
            try simp only [Act.put, List.setIfInBounds_toArray, List.set_cons_zero, List.set_cons_succ]
            refine wpAnyH_take (i := 2) (oi := ⟨some 135, _, _, _, _, _⟩) (v := ?_) rfl (by kernel_rfl) (by kernel_rfl) (by kernel_rfl) (fun _ _ _ h => h) (Or.inl ⟨by rfl, ?_⟩) hHeld ?_
            rotate_left
            · intro w hSw
              (try dsimp only at hSw)
              go_simp
              try with_reducible rfl
            try simp only [Act.put, List.setIfInBounds_toArray, List.set_cons_zero, List.set_cons_succ]
            refine wpAnyH_take (i := 4) (oi := ⟨some 137, _, _, _, _, _⟩) (v := ?_) rfl (by kernel_rfl) (by kernel_rfl) (by kernel_rfl) (fun _ _ _ h => h) (Or.inl ⟨by rfl, ?_⟩) hHeld ?_
            rotate_left
            · intro w hSw
              (try dsimp only at hSw)
              go_simp
              try with_reducible rfl
            try simp only [Act.put, List.setIfInBounds_toArray, List.set_cons_zero, List.set_cons_succ]
            refine wpAnyH_take (i := 5) (oi := ⟨some 138, _, _, _, _, _⟩) (v := ?_) rfl (by kernel_rfl) (by kernel_rfl) (by kernel_rfl) (fun _ _ _ h => h) (Or.inl ⟨by rfl, ?_⟩) hHeld ?_
            rotate_left
            · intro w hSw
              (try dsimp only at hSw)
              go_simp
              try with_reducible rfl
            try simp only [Act.put, List.setIfInBounds_toArray, List.set_cons_zero, List.set_cons_succ]
            refine wpAnyH_take (i := 6) (oi := ⟨some 139, _, _, _, _, _⟩) (v := ?_) rfl (by kernel_rfl) (by kernel_rfl) (by kernel_rfl) (fun _ _ _ h => h) (Or.inl ⟨by rfl, ?_⟩) hHeld ?_
            rotate_left
            · intro w hSw
              (try dsimp only at hSw)
              go_simp
              try with_reducible rfl
            try simp only [Act.put, List.setIfInBounds_toArray, List.set_cons_zero, List.set_cons_succ]
            refine wpAnyH_ready (rs := [3]) (by kernel_rfl) (by simp) ?_
            refine AllReadyH.cons (o := ⟨some 136, _, _, _, _, _⟩) rfl (fun K hK => ?_) AllReadyH.nil
            go_simp
            go_at_call 8
            refine (HP.out _).mono ?_
            rintro e y1 ⟨rfl, hy1⟩
            (try go_wp2_with fail)
            refine hK.out _ _ ?_ (fun hHeld1 => ?_)
            · exact HK.out _ (drew_c hy1)
            clear hK K
            try simp only [Act.put, List.setIfInBounds_toArray, List.set_cons_zero, List.set_cons_succ]
            refine wpAnyH_ready (rs := [7]) (by kernel_rfl) (by simp) ?_
            refine AllReadyH.cons (o := ⟨some 140, _, _, _, _, _⟩) rfl (fun K hK => ?_) AllReadyH.nil
            go_simp
            go_at_call 8
            refine (HQ.out _).mono ?_
            rintro e y2 ⟨rfl, hy2⟩
            (try go_wp2_with fail)
            refine hK.out _ _ ?_ (fun hHeld2 => ?_)
            · exact HK.out _ (below_chain7 (drew_c hy1) hy2)
            clear hK K
            try simp only [Act.put, List.setIfInBounds_toArray, List.set_cons_zero, List.set_cons_succ]
            refine wpAnyH_take (i := 8) (oi := ⟨some 141, _, _, _, _, _⟩) (v := ?_) rfl (by kernel_rfl) (by kernel_rfl) (by kernel_rfl) (fun _ _ _ h => h) (Or.inl ⟨by rfl, ?_⟩) hHeld2 ?_
            rotate_left
            · intro w hSw
              (try dsimp only at hSw)
              go_simp
              try with_reducible rfl
            try simp only [Act.put, List.setIfInBounds_toArray, List.set_cons_zero, List.set_cons_succ]
            refine wpAnyH_take (i := 9) (oi := ⟨some 142, _, _, _, _, _⟩) (v := ?_) rfl (by kernel_rfl) (by kernel_rfl) (by kernel_rfl) (fun _ _ _ h => h) (Or.inl ⟨by rfl, ?_⟩) hHeld2 ?_
            rotate_left
            · intro w hSw
              (try dsimp only at hSw)
              go_simp
              try with_reducible rfl
            try simp only [Act.put, List.setIfInBounds_toArray, List.set_cons_zero, List.set_cons_succ]
            refine wpAnyH_take (i := 10) (oi := ⟨some 143, _, _, _, _, _⟩) (v := ?_) rfl (by kernel_rfl) (by kernel_rfl) (by kernel_rfl) (fun _ _ _ h => h) (Or.inl ⟨by rfl, ?_⟩) hHeld2 ?_
            rotate_left
            · intro w hSw
              (try dsimp only at hSw)
              go_simp
              try with_reducible rfl
            try simp only [Act.put, List.setIfInBounds_toArray, List.set_cons_zero, List.set_cons_succ]
            refine wpAnyH_take (i := 11) (oi := ⟨some 144, _, _, _, _, _⟩) (v := ?_) rfl (by kernel_rfl) (by kernel_rfl) (by kernel_rfl) (fun _ _ _ h => h) (Or.inl ⟨by rfl, ?_⟩) hHeld2 ?_
            rotate_left
            · intro w hSw
              (try dsimp only at hSw)
              go_simp
              try with_reducible rfl
            try simp only [Act.put, List.setIfInBounds_toArray, List.set_cons_zero, List.set_cons_succ]
            refine wpAnyH_ready (rs := [12]) (by kernel_rfl) (by simp) ?_
            refine AllReadyH.cons (o := ⟨some 145, _, _, _, _, _⟩) rfl (fun K hK => ?_) AllReadyH.nil
            go_simp
            go_at_call 8
            refine (HR.out _).mono ?_
            rintro e y3 ⟨rfl, hy3⟩
            (try go_wp2_with fail)
            refine hK.out _ _ ?_ (fun hHeld3 => ?_)
            · exact HK.out _ (below_chain7 (below_chain7 (drew_c hy1) hy2) hy3)
            clear hK K
            try simp only [Act.put, List.setIfInBounds_toArray, List.set_cons_zero, List.set_cons_succ]
            refine wpAnyH_take (i := 13) (oi := ⟨some 146, _, _, _, _, _⟩) (v := ?_) rfl (by kernel_rfl) (by kernel_rfl) (by kernel_rfl) (fun _ _ _ h => h) (Or.inl ⟨by rfl, ?_⟩) hHeld3 ?_
            rotate_left
            · intro w hSw
              (try dsimp only at hSw)
              go_simp
              try with_reducible rfl
            try simp only [Act.put, List.setIfInBounds_toArray, List.set_cons_zero, List.set_cons_succ]
            refine wpAnyH_take (i := 14) (oi := ⟨some 147, _, _, _, _, _⟩) (v := ?_) rfl (by kernel_rfl) (by kernel_rfl) (by kernel_rfl) (fun _ _ _ h => h) (Or.inl ⟨by rfl, ?_⟩) hHeld3 ?_
            rotate_left
            · intro w hSw
              (try dsimp only at hSw)
              go_simp
              try with_reducible rfl
            try simp only [Act.put, List.setIfInBounds_toArray, List.set_cons_zero, List.set_cons_succ]
            refine wpAnyH_take (i := 15) (oi := ⟨some 148, _, _, _, _, _⟩) (v := ?_) rfl (by kernel_rfl) (by kernel_rfl) (by kernel_rfl) (fun _ _ _ h => h) (Or.inl ⟨by rfl, ?_⟩) hHeld3 ?_
            rotate_left
            · intro w hSw
              (try dsimp only at hSw)
              go_simp
              try with_reducible rfl
            try simp only [Act.put, List.setIfInBounds_toArray, List.set_cons_zero, List.set_cons_succ]
            refine wpAnyH_take (i := 16) (oi := ⟨some 149, _, _, _, _, _⟩) (v := ?_) rfl (by kernel_rfl) (by kernel_rfl) (by kernel_rfl) (fun _ _ _ h => h) (Or.inl ⟨by rfl, ?_⟩) hHeld3 ?_
            rotate_left
            · intro w hSw
              (try dsimp only at hSw)
              go_simp
              try with_reducible rfl
            try simp only [Act.put, List.setIfInBounds_toArray, List.set_cons_zero, List.set_cons_succ]
            refine wpAnyH_take (i := 17) (oi := ⟨some 150, _, _, _, _, _⟩) (v := ?_) rfl (by kernel_rfl) (by kernel_rfl) (by kernel_rfl) (fun _ _ _ h => h) (Or.inl ⟨by rfl, ?_⟩) hHeld3 ?_
            rotate_left
            · intro w hSw
              (try dsimp only at hSw)
              go_simp
              try with_reducible rfl
            try simp only [Act.put, List.setIfInBounds_toArray, List.set_cons_zero, List.set_cons_succ]
            refine wpAnyH_take (i := 18) (oi := ⟨some 151, _, _, _, _, _⟩) (v := ?_) rfl (by kernel_rfl) (by kernel_rfl) (by kernel_rfl) (fun _ _ _ h => h) (Or.inl ⟨by rfl, ?_⟩) hHeld3 ?_
            rotate_left
            · intro w hSw
              (try dsimp only at hSw)
              go_simp
              try with_reducible rfl
            try simp only [Act.put, List.setIfInBounds_toArray, List.set_cons_zero, List.set_cons_succ]
            refine wpAnyH_ready (rs := [19]) (by kernel_rfl) (by simp) ?_
            refine AllReadyH.cons (o := ⟨some 152, _, _, _, _, _⟩) rfl (fun K hK => ?_) AllReadyH.nil
            go_simp
            go_at_call 8
            refine (HQ.out _).mono ?_
            rintro e y4 ⟨rfl, hy4⟩
            (try go_wp2_with fail)
            refine hK.out _ _ ?_ (fun hHeld4 => ?_)
            · exact HK.out _ (below_chain7 (below_chain7 (below_chain7 (drew_c hy1) hy2) hy3) hy4)
            clear hK K
            try simp only [Act.put, List.setIfInBounds_toArray, List.set_cons_zero, List.set_cons_succ]
            refine wpAnyH_take (i := 20) (oi := ⟨some 153, _, _, _, _, _⟩) (v := ?_) rfl (by kernel_rfl) (by kernel_rfl) (by kernel_rfl) (fun _ _ _ h => h) (Or.inl ⟨by rfl, ?_⟩) hHeld4 ?_
            rotate_left
            · intro w hSw
              (try dsimp only at hSw)
              go_simp
              try with_reducible rfl
            try simp only [Act.put, List.setIfInBounds_toArray, List.set_cons_zero, List.set_cons_succ]
            refine wpAnyH_take (i := 21) (oi := ⟨some 154, _, _, _, _, _⟩) (v := undef) rfl (by kernel_rfl) (by kernel_rfl) (by kernel_rfl) (fun _ _ _ h => h) (Or.inr ⟨by rfl, rfl⟩) hHeld4 ?_
            try simp only [Act.put, List.setIfInBounds_toArray, List.set_cons_zero, List.set_cons_succ]
            refine wpAnyH_take (i := 22) (oi := ⟨some 155, _, _, _, _, _⟩) (v := undef) rfl (by kernel_rfl) (by kernel_rfl) (by kernel_rfl) (fun _ _ _ h => h) (Or.inr ⟨by rfl, rfl⟩) hHeld4 ?_
            try simp only [Act.put, List.setIfInBounds_toArray, List.set_cons_zero, List.set_cons_succ]
            refine wpAnyH_take (i := 23) (oi := ⟨some 156, _, _, _, _, _⟩) (v := undef) rfl (by kernel_rfl) (by kernel_rfl) (by kernel_rfl) (fun _ _ _ h => h) (Or.inr ⟨by rfl, rfl⟩) hHeld4 ?_
            try simp only [Act.put, List.setIfInBounds_toArray, List.set_cons_zero, List.set_cons_succ]
            refine wpAnyH_take (i := 24) (oi := ⟨some 157, _, _, _, _, _⟩) (v := undef) rfl (by kernel_rfl) (by kernel_rfl) (by kernel_rfl) (fun _ _ _ h => h) (Or.inr ⟨by rfl, rfl⟩) hHeld4 ?_
            try simp only [Act.put, List.setIfInBounds_toArray, List.set_cons_zero, List.set_cons_succ]
            refine wpAnyH_take (i := 25) (oi := ⟨some 158, _, _, _, _, _⟩) (v := ?_) rfl (by kernel_rfl) (by kernel_rfl) (by kernel_rfl) (fun _ _ _ h => h) (Or.inl ⟨by rfl, ?_⟩) hHeld4 ?_
            rotate_left
            · intro w hSw
              (try dsimp only at hSw)
              go_simp
              try with_reducible rfl
            try simp only [Act.put, List.setIfInBounds_toArray, List.set_cons_zero, List.set_cons_succ]
            refine wpAnyH_take (i := 26) (oi := ⟨some 159, _, _, _, _, _⟩) (v := ?_) rfl (by kernel_rfl) (by kernel_rfl) (by kernel_rfl) (fun _ _ _ h => h) (Or.inl ⟨by rfl, ?_⟩) hHeld4 ?_
            rotate_left
            · intro w hSw
              (try dsimp only at hSw)
              go_simp
              try with_reducible rfl
            try simp only [Act.put, List.setIfInBounds_toArray, List.set_cons_zero, List.set_cons_succ]
            refine wpAnyH_done (by kernel_rfl) ?_ _
            go_wp2
            go_roundw
            case rel => exact ⟨1, by omega, by go_num, fun e he => HY.out.keep (below_chain7 (below_chain7 (below_chain7 (drew_c hy1) hy2) hy3) hy4) e (.tail _ he), below_chain7 hcy (below_chain7 (below_chain7 (below_chain7 (drew_c hy1) hy2) hy3) hy4)⟩
            case measure => simp [intOf]
      · have s0 : wr.cell? ⟨gs, 2, none⟩ = some (.int .u64 (oh : Nat)) := cell_row (HB.out _ (.head _)) 2
        have s1 : wr.cell? ⟨gs, 3, none⟩ = some (.int .u64 (ol : Nat)) := cell_row (HB.out _ (.head _)) 3
        have hgs := HB.out.lt (.head _)
        obtain ⟨hp, hq, hr, ⟨e1, e2⟩, HP', HQ', HR'⟩ := HS.out oh ol b3 b4
        have HP := Lib.hid HP'
        have HQ := Lib.hid HQ'
        have HR := Lib.hid HR'
        have HY := Lib.hid (HB.out.new #[.int .u64 (oh : Nat), .int .u64 (ol : Nat)] 25)
        have hcy := hcr.alloc hcr.size (.cells #[.int .u64 (oh : Nat), .int .u64 (ol : Nat)] 25)
        clear HP' HQ' HR'
        rw [show ((1 : Nat) : Int) = 1 from rfl]
        go_wp2
        generalize wr.alloc (.cells #[.int .u64 (oh : Nat), .int .u64 (ol : Nat)] 25) = y at *
        generalize wr.heap.size = ga at *
        have HK : Hid (∀ W, Below y.heap.size y W → (fun W => ((W.cell? ⟨gp, 0, none⟩ = some (.int .u64 (ph : Nat)) ∧ W.cell? ⟨gp, 1, none⟩ = some (.int .u64 (pl : Nat)) ∧ W.cell? ⟨gp, 2, none⟩ = some (.int .i64 (k : Nat))) ∧ (W.cell? ⟨gq, 0, none⟩ = some (.int .u64 (ph : Nat)) ∧ W.cell? ⟨gq, 1, none⟩ = some (.int .u64 (pl : Nat)) ∧ W.cell? ⟨gq, 2, none⟩ = some (.int .i64 ((k : Int) + 1))) ∧ (W.cell? ⟨gr, 0, none⟩ = some (.int .u64 (fh : Nat)) ∧ W.cell? ⟨gr, 1, none⟩ = some (.int .u64 (pl : Nat)) ∧ W.cell? ⟨gr, 2, none⟩ = some (.int .i64 ((k : Int) + 1)))) ∧ W.cell? ⟨ga, 0, none⟩ = some (.int .u64 (oh : Nat)) ∧ W.cell? ⟨ga, 1, none⟩ = some (.int .u64 (ol : Nat))) W) := fun W hW => by
          have h := HY.out.keep hW
          exact ⟨⟨(h.r3 (b := gp) (by repeat first | exact .head _ | apply List.Mem.tail)).2, (h.r3 (b := gq) (by repeat first | exact .head _ | apply List.Mem.tail)).2, (h.r3 (b := gr) (by repeat first | exact .head _ | apply List.Mem.tail)).2⟩, (h.r2 (b := ga) (.head _)).2⟩
        clear s0 s1 hgs
        cases hq with
        | true =>
          obtain rfl : hr = false := by simpa using e2
          obtain rfl : hp = true := by simpa using e1
          clear e1 e2
          refine wp_region_held_drew (S := fun W => ((W.cell? ⟨gp, 0, none⟩ = some (.int .u64 (ph : Nat)) ∧ W.cell? ⟨gp, 1, none⟩ = some (.int .u64 (pl : Nat)) ∧ W.cell? ⟨gp, 2, none⟩ = some (.int .i64 (k : Nat))) ∧ (W.cell? ⟨gq, 0, none⟩ = some (.int .u64 (ph : Nat)) ∧ W.cell? ⟨gq, 1, none⟩ = some (.int .u64 (pl : Nat)) ∧ W.cell? ⟨gq, 2, none⟩ = some (.int .i64 ((k : Int) + 1))) ∧ (W.cell? ⟨gr, 0, none⟩ = some (.int .u64 (fh : Nat)) ∧ W.cell? ⟨gr, 1, none⟩ = some (.int .u64 (pl : Nat)) ∧ W.cell? ⟨gr, 2, none⟩ = some (.int .i64 ((k : Int) + 1)))) ∧ W.cell? ⟨ga, 0, none⟩ = some (.int .u64 (oh : Nat)) ∧ W.cell? ⟨ga, 1, none⟩ = some (.int .u64 (ol : Nat))) (by kernel_rfl) ?_ (fun hHeld => ?_)
          · exact HK.out _ (Below.refl _ _).drew
          refine wpAnyH_take (i := 0) (oi := ⟨some 133, _, _, _, _, _⟩) (v := ?_) rfl (by kernel_rfl) (by kernel_rfl) (by kernel_rfl) (fun _ _ _ h => h) (Or.inl ⟨by rfl, ?_⟩) hHeld ?_
          rotate_left
          · intro w hSw
            (try dsimp only at hSw)
            go_simp
            try with_reducible rfl
          try simp only [Act.put, List.setIfInBounds_toArray, List.set_cons_zero, List.set_cons_succ]
          refine wpAnyH_take (i := 1) (oi := ⟨some 134, _, _, _, _, _⟩) (v := ?_) rfl (by kernel_rfl) (by kernel_rfl) (by kernel_rfl) (fun _ _ _ h => h) (Or.inl ⟨by rfl, ?_⟩) hHeld ?_
          rotate_left
          · intro w hSw
            (try dsimp only at hSw)
            go_simp
            try with_reducible rfl
          try simp only [Act.put, List.setIfInBounds_toArray, List.set_cons_zero, List.set_cons_succ]
          refine wpAnyH_take (i := 2) (oi := ⟨some 135, _, _, _, _, _⟩) (v := ?_) rfl (by kernel_rfl) (by kernel_rfl) (by kernel_rfl) (fun _ _ _ h => h) (Or.inl ⟨by rfl, ?_⟩) hHeld ?_
          rotate_left
          · intro w hSw
            (try dsimp only at hSw)
            go_simp
            try with_reducible rfl
          try simp only [Act.put, List.setIfInBounds_toArray, List.set_cons_zero, List.set_cons_succ]
          refine wpAnyH_take (i := 4) (oi := ⟨some 137, _, _, _, _, _⟩) (v := ?_) rfl (by kernel_rfl) (by kernel_rfl) (by kernel_rfl) (fun _ _ _ h => h) (Or.inl ⟨by rfl, ?_⟩) hHeld ?_
          rotate_left
          · intro w hSw
            (try dsimp only at hSw)
            go_simp
            try with_reducible rfl
          try simp only [Act.put, List.setIfInBounds_toArray, List.set_cons_zero, List.set_cons_succ]
          refine wpAnyH_take (i := 5) (oi := ⟨some 138, _, _, _, _, _⟩) (v := ?_) rfl (by kernel_rfl) (by kernel_rfl) (by kernel_rfl) (fun _ _ _ h => h) (Or.inl ⟨by rfl, ?_⟩) hHeld ?_
          rotate_left
          · intro w hSw
            (try dsimp only at hSw)
            go_simp
            try with_reducible rfl
          try simp only [Act.put, List.setIfInBounds_toArray, List.set_cons_zero, List.set_cons_succ]
          refine wpAnyH_take (i := 6) (oi := ⟨some 139, _, _, _, _, _⟩) (v := ?_) rfl (by kernel_rfl) (by kernel_rfl) (by kernel_rfl) (fun _ _ _ h => h) (Or.inl ⟨by rfl, ?_⟩) hHeld ?_
          rotate_left
          · intro w hSw
            (try dsimp only at hSw)
            go_simp
            try with_reducible rfl
          try simp only [Act.put, List.setIfInBounds_toArray, List.set_cons_zero, List.set_cons_succ]
          refine wpAnyH_ready (rs := [3]) (by kernel_rfl) (by simp) ?_
          refine AllReadyH.cons (o := ⟨some 136, _, _, _, _, _⟩) rfl (fun K hK => ?_) AllReadyH.nil
          go_simp
          go_at_call 8
          refine (HP.out _).mono ?_
          rintro e y1 ⟨rfl, hy1⟩
          (try go_wp2_with fail)
          refine hK.out _ _ ?_ (fun hHeld1 => ?_)
          · exact HK.out _ (drew_c hy1)
          clear hK K
          try simp only [Act.put, List.setIfInBounds_toArray, List.set_cons_zero, List.set_cons_succ]
          refine wpAnyH_ready (rs := [7]) (by kernel_rfl) (by simp) ?_
          refine AllReadyH.cons (o := ⟨some 140, _, _, _, _, _⟩) rfl (fun K hK => ?_) AllReadyH.nil
          go_simp
          go_at_call 8
          refine (HQ.out _).mono ?_
          rintro e y2 ⟨rfl, hy2⟩
          (try go_wp2_with fail)
          refine hK.out _ _ ?_ (fun hHeld2 => ?_)
          · exact HK.out _ (below_chain7 (drew_c hy1) hy2)
          clear hK K
          try simp only [Act.put, List.setIfInBounds_toArray, List.set_cons_zero, List.set_cons_succ]
          refine wpAnyH_take (i := 8) (oi := ⟨some 141, _, _, _, _, _⟩) (v := ?_) rfl (by kernel_rfl) (by kernel_rfl) (by kernel_rfl) (fun _ _ _ h => h) (Or.inl ⟨by rfl, ?_⟩) hHeld2 ?_
          rotate_left
          · intro w hSw
            (try dsimp only at hSw)
            go_simp
            try with_reducible rfl
          try simp only [Act.put, List.setIfInBounds_toArray, List.set_cons_zero, List.set_cons_succ]
          refine wpAnyH_take (i := 9) (oi := ⟨some 142, _, _, _, _, _⟩) (v := undef) rfl (by kernel_rfl) (by kernel_rfl) (by kernel_rfl) (fun _ _ _ h => h) (Or.inr ⟨by rfl, rfl⟩) hHeld2 ?_
          try simp only [Act.put, List.setIfInBounds_toArray, List.set_cons_zero, List.set_cons_succ]
          refine wpAnyH_take (i := 10) (oi := ⟨some 143, _, _, _, _, _⟩) (v := undef) rfl (by kernel_rfl) (by kernel_rfl) (by kernel_rfl) (fun _ _ _ h => h) (Or.inr ⟨by rfl, rfl⟩) hHeld2 ?_
          try simp only [Act.put, List.setIfInBounds_toArray, List.set_cons_zero, List.set_cons_succ]
          refine wpAnyH_take (i := 11) (oi := ⟨some 144, _, _, _, _, _⟩) (v := undef) rfl (by kernel_rfl) (by kernel_rfl) (by kernel_rfl) (fun _ _ _ h => h) (Or.inr ⟨by rfl, rfl⟩) hHeld2 ?_
          try simp only [Act.put, List.setIfInBounds_toArray, List.set_cons_zero, List.set_cons_succ]
          refine wpAnyH_take (i := 12) (oi := ⟨some 145, _, _, _, _, _⟩) (v := undef) rfl (by kernel_rfl) (by kernel_rfl) (by kernel_rfl) (fun _ _ _ h => h) (Or.inr ⟨by rfl, rfl⟩) hHeld2 ?_
          try simp only [Act.put, List.setIfInBounds_toArray, List.set_cons_zero, List.set_cons_succ]
          refine wpAnyH_take (i := 13) (oi := ⟨some 146, _, _, _, _, _⟩) (v := ?_) rfl (by kernel_rfl) (by kernel_rfl) (by kernel_rfl) (fun _ _ _ h => h) (Or.inl ⟨by rfl, ?_⟩) hHeld2 ?_
          rotate_left
          · intro w hSw
            (try dsimp only at hSw)
            go_simp
            try with_reducible rfl
          try simp only [Act.put, List.setIfInBounds_toArray, List.set_cons_zero, List.set_cons_succ]
          refine wpAnyH_take (i := 14) (oi := ⟨some 147, _, _, _, _, _⟩) (v := ?_) rfl (by kernel_rfl) (by kernel_rfl) (by kernel_rfl) (fun _ _ _ h => h) (Or.inl ⟨by rfl, ?_⟩) hHeld2 ?_
          rotate_left
          · intro w hSw
            (try dsimp only at hSw)
            go_simp
            try with_reducible rfl
          try simp only [Act.put, List.setIfInBounds_toArray, List.set_cons_zero, List.set_cons_succ]
          refine wpAnyH_take (i := 15) (oi := ⟨some 148, _, _, _, _, _⟩) (v := ?_) rfl (by kernel_rfl) (by kernel_rfl) (by kernel_rfl) (fun _ _ _ h => h) (Or.inl ⟨by rfl, ?_⟩) hHeld2 ?_
          rotate_left
          · intro w hSw
            (try dsimp only at hSw)
            go_simp
            try with_reducible rfl
          try simp only [Act.put, List.setIfInBounds_toArray, List.set_cons_zero, List.set_cons_succ]
          refine wpAnyH_take (i := 16) (oi := ⟨some 149, _, _, _, _, _⟩) (v := ?_) rfl (by kernel_rfl) (by kernel_rfl) (by kernel_rfl) (fun _ _ _ h => h) (Or.inl ⟨by rfl, ?_⟩) hHeld2 ?_
          rotate_left
          · intro w hSw
            (try dsimp only at hSw)
            go_simp
            try with_reducible rfl
          try simp only [Act.put, List.setIfInBounds_toArray, List.set_cons_zero, List.set_cons_succ]
          refine wpAnyH_take (i := 17) (oi := ⟨some 150, _, _, _, _, _⟩) (v := ?_) rfl (by kernel_rfl) (by kernel_rfl) (by kernel_rfl) (fun _ _ _ h => h) (Or.inl ⟨by rfl, ?_⟩) hHeld2 ?_
          rotate_left
          · intro w hSw
            (try dsimp only at hSw)
            go_simp
            try with_reducible rfl
          try simp only [Act.put, List.setIfInBounds_toArray, List.set_cons_zero, List.set_cons_succ]
          refine wpAnyH_take (i := 18) (oi := ⟨some 151, _, _, _, _, _⟩) (v := ?_) rfl (by kernel_rfl) (by kernel_rfl) (by kernel_rfl) (fun _ _ _ h => h) (Or.inl ⟨by rfl, ?_⟩) hHeld2 ?_
          rotate_left
          · intro w hSw
            (try dsimp only at hSw)
            go_simp
            try with_reducible rfl
          try simp only [Act.put, List.setIfInBounds_toArray, List.set_cons_zero, List.set_cons_succ]
          refine wpAnyH_ready (rs := [19]) (by kernel_rfl) (by simp) ?_
          refine AllReadyH.cons (o := ⟨some 152, _, _, _, _, _⟩) rfl (fun K hK => ?_) AllReadyH.nil
          go_simp
          go_at_call 8
          refine (HQ.out _).mono ?_
          rintro e y3 ⟨rfl, hy3⟩
          (try go_wp2_with fail)
          refine hK.out _ _ ?_ (fun hHeld3 => ?_)
          · exact HK.out _ (below_chain7 (below_chain7 (drew_c hy1) hy2) hy3)
          clear hK K
          try simp only [Act.put, List.setIfInBounds_toArray, List.set_cons_zero, List.set_cons_succ]
          refine wpAnyH_take (i := 20) (oi := ⟨some 153, _, _, _, _, _⟩) (v := ?_) rfl (by kernel_rfl) (by kernel_rfl) (by kernel_rfl) (fun _ _ _ h => h) (Or.inl ⟨by rfl, ?_⟩) hHeld3 ?_
          rotate_left
          · intro w hSw
            (try dsimp only at hSw)
            go_simp
            try with_reducible rfl
          try simp only [Act.put, List.setIfInBounds_toArray, List.set_cons_zero, List.set_cons_succ]
          refine wpAnyH_take (i := 21) (oi := ⟨some 154, _, _, _, _, _⟩) (v := ?_) rfl (by kernel_rfl) (by kernel_rfl) (by kernel_rfl) (fun _ _ _ h => h) (Or.inl ⟨by rfl, ?_⟩) hHeld3 ?_
          rotate_left
          · intro w hSw
            (try dsimp only at hSw)
            go_simp
            try with_reducible rfl
          try simp only [Act.put, List.setIfInBounds_toArray, List.set_cons_zero, List.set_cons_succ]
          refine wpAnyH_take (i := 22) (oi := ⟨some 155, _, _, _, _, _⟩) (v := ?_) rfl (by kernel_rfl) (by kernel_rfl) (by kernel_rfl) (fun _ _ _ h => h) (Or.inl ⟨by rfl, ?_⟩) hHeld3 ?_
          rotate_left
          · intro w hSw
            (try dsimp only at hSw)
            go_simp
            try with_reducible rfl
          try simp only [Act.put, List.setIfInBounds_toArray, List.set_cons_zero, List.set_cons_succ]
          refine wpAnyH_take (i := 23) (oi := ⟨some 156, _, _, _, _, _⟩) (v := ?_) rfl (by kernel_rfl) (by kernel_rfl) (by kernel_rfl) (fun _ _ _ h => h) (Or.inl ⟨by rfl, ?_⟩) hHeld3 ?_
          rotate_left
          · intro w hSw
            (try dsimp only at hSw)
            go_simp
            try with_reducible rfl
          try simp only [Act.put, List.setIfInBounds_toArray, List.set_cons_zero, List.set_cons_succ]
          refine wpAnyH_ready (rs := [24]) (by kernel_rfl) (by simp) ?_
          refine AllReadyH.cons (o := ⟨some 157, _, _, _, _, _⟩) rfl (fun K hK => ?_) AllReadyH.nil
          go_simp
          go_at_call 8
          refine (HR.out _).mono ?_
          rintro e y4 ⟨rfl, hy4⟩
          (try go_wp2_with fail)
          refine hK.out _ _ ?_ (fun hHeld4 => ?_)
          · exact HK.out _ (below_chain7 (below_chain7 (below_chain7 (drew_c hy1) hy2) hy3) hy4)
          clear hK K
          try simp only [Act.put, List.setIfInBounds_toArray, List.set_cons_zero, List.set_cons_succ]
          refine wpAnyH_take (i := 25) (oi := ⟨some 158, _, _, _, _, _⟩) (v := ?_) rfl (by kernel_rfl) (by kernel_rfl) (by kernel_rfl) (fun _ _ _ h => h) (Or.inl ⟨by rfl, ?_⟩) hHeld4 ?_
          rotate_left
          · intro w hSw
            (try dsimp only at hSw)
            go_simp
            try with_reducible rfl
          try simp only [Act.put, List.setIfInBounds_toArray, List.set_cons_zero, List.set_cons_succ]
          refine wpAnyH_take (i := 26) (oi := ⟨some 159, _, _, _, _, _⟩) (v := ?_) rfl (by kernel_rfl) (by kernel_rfl) (by kernel_rfl) (fun _ _ _ h => h) (Or.inl ⟨by rfl, ?_⟩) hHeld4 ?_
          rotate_left
          · intro w hSw
            (try dsimp only at hSw)
            go_simp
            try with_reducible rfl
          try simp only [Act.put, List.setIfInBounds_toArray, List.set_cons_zero, List.set_cons_succ]
          refine wpAnyH_done (by kernel_rfl) ?_ _
          go_wp2
          go_roundw
          case rel => exact ⟨2, by omega, by go_num, fun e he => HY.out.keep (below_chain7 (below_chain7 (below_chain7 (drew_c hy1) hy2) hy3) hy4) e (.tail _ he), below_chain7 hcy (below_chain7 (below_chain7 (below_chain7 (drew_c hy1) hy2) hy3) hy4)⟩
          case measure => simp [intOf]
        | false =>
          obtain rfl : hp = hr := by simpa using e1
          clear e1 e2
          cases hp with
          | true =>
            refine wp_region_held_drew (S := fun W => ((W.cell? ⟨gp, 0, none⟩ = some (.int .u64 (ph : Nat)) ∧ W.cell? ⟨gp, 1, none⟩ = some (.int .u64 (pl : Nat)) ∧ W.cell? ⟨gp, 2, none⟩ = some (.int .i64 (k : Nat))) ∧ (W.cell? ⟨gq, 0, none⟩ = some (.int .u64 (ph : Nat)) ∧ W.cell? ⟨gq, 1, none⟩ = some (.int .u64 (pl : Nat)) ∧ W.cell? ⟨gq, 2, none⟩ = some (.int .i64 ((k : Int) + 1))) ∧ (W.cell? ⟨gr, 0, none⟩ = some (.int .u64 (fh : Nat)) ∧ W.cell? ⟨gr, 1, none⟩ = some (.int .u64 (pl : Nat)) ∧ W.cell? ⟨gr, 2, none⟩ = some (.int .i64 ((k : Int) + 1)))) ∧ W.cell? ⟨ga, 0, none⟩ = some (.int .u64 (oh : Nat)) ∧ W.cell? ⟨ga, 1, none⟩ = some (.int .u64 (ol : Nat))) (by kernel_rfl) ?_ (fun hHeld => ?_)
            · exact HK.out _ (Below.refl _ _).drew
            refine wpAnyH_take (i := 0) (oi := ⟨some 133, _, _, _, _, _⟩) (v := ?_) rfl (by kernel_rfl) (by kernel_rfl) (by kernel_rfl) (fun _ _ _ h => h) (Or.inl ⟨by rfl, ?_⟩) hHeld ?_
            rotate_left
            · intro w hSw
              (try dsimp only at hSw)
              go_simp
              try with_reducible rfl
            try simp only [Act.put, List.setIfInBounds_toArray, List.set_cons_zero, List.set_cons_succ]
            refine wpAnyH_take (i := 1) (oi := ⟨some 134, _, _, _, _, _⟩) (v := ?_) rfl (by kernel_rfl) (by kernel_rfl) (by kernel_rfl) (fun _ _ _ h => h) (Or.inl ⟨by rfl, ?_⟩) hHeld ?_
            rotate_left
            · intro w hSw
              (try dsimp only at hSw)
              go_simp
              try with_reducible rfl
            try simp only [Act.put, List.setIfInBounds_toArray, List.set_cons_zero, List.set_cons_succ]
            refine wpAnyH_take (i := 2) (oi := ⟨some 135, _, _, _, _, _⟩) (v := ?_) rfl (by kernel_rfl) (by kernel_rfl) (by kernel_rfl) (fun _ _ _ h => h) (Or.inl ⟨by rfl, ?_⟩) hHeld ?_
            rotate_left
            · intro w hSw
              (try dsimp only at hSw)
              go_simp
              try with_reducible rfl
            try simp only [Act.put, List.setIfInBounds_toArray, List.set_cons_zero, List.set_cons_succ]
            refine wpAnyH_take (i := 4) (oi := ⟨some 137, _, _, _, _, _⟩) (v := ?_) rfl (by kernel_rfl) (by kernel_rfl) (by kernel_rfl) (fun _ _ _ h => h) (Or.inl ⟨by rfl, ?_⟩) hHeld ?_
            rotate_left
            · intro w hSw
              (try dsimp only at hSw)
              go_simp
              try with_reducible rfl
            try simp only [Act.put, List.setIfInBounds_toArray, List.set_cons_zero, List.set_cons_succ]
            refine wpAnyH_take (i := 5) (oi := ⟨some 138, _, _, _, _, _⟩) (v := ?_) rfl (by kernel_rfl) (by kernel_rfl) (by kernel_rfl) (fun _ _ _ h => h) (Or.inl ⟨by rfl, ?_⟩) hHeld ?_
            rotate_left
            · intro w hSw
              (try dsimp only at hSw)
              go_simp
              try with_reducible rfl
            try simp only [Act.put, List.setIfInBounds_toArray, List.set_cons_zero, List.set_cons_succ]
            refine wpAnyH_take (i := 6) (oi := ⟨some 139, _, _, _, _, _⟩) (v := ?_) rfl (by kernel_rfl) (by kernel_rfl) (by kernel_rfl) (fun _ _ _ h => h) (Or.inl ⟨by rfl, ?_⟩) hHeld ?_
            rotate_left
            · intro w hSw
              (try dsimp only at hSw)
              go_simp
              try with_reducible rfl
            try simp only [Act.put, List.setIfInBounds_toArray, List.set_cons_zero, List.set_cons_succ]
            refine wpAnyH_ready (rs := [3]) (by kernel_rfl) (by simp) ?_
            refine AllReadyH.cons (o := ⟨some 136, _, _, _, _, _⟩) rfl (fun K hK => ?_) AllReadyH.nil
            go_simp
            go_at_call 8
            refine (HP.out _).mono ?_
            rintro e y1 ⟨rfl, hy1⟩
            (try go_wp2_with fail)
            refine hK.out _ _ ?_ (fun hHeld1 => ?_)
            · exact HK.out _ (drew_c hy1)
            clear hK K
            try simp only [Act.put, List.setIfInBounds_toArray, List.set_cons_zero, List.set_cons_succ]
            refine wpAnyH_ready (rs := [7]) (by kernel_rfl) (by simp) ?_
            refine AllReadyH.cons (o := ⟨some 140, _, _, _, _, _⟩) rfl (fun K hK => ?_) AllReadyH.nil
            go_simp
            go_at_call 8
            refine (HQ.out _).mono ?_
            rintro e y2 ⟨rfl, hy2⟩
            (try go_wp2_with fail)
            refine hK.out _ _ ?_ (fun hHeld2 => ?_)
            · exact HK.out _ (below_chain7 (drew_c hy1) hy2)
            clear hK K
            try simp only [Act.put, List.setIfInBounds_toArray, List.set_cons_zero, List.set_cons_succ]
            refine wpAnyH_take (i := 8) (oi := ⟨some 141, _, _, _, _, _⟩) (v := ?_) rfl (by kernel_rfl) (by kernel_rfl) (by kernel_rfl) (fun _ _ _ h => h) (Or.inl ⟨by rfl, ?_⟩) hHeld2 ?_
            rotate_left
            · intro w hSw
              (try dsimp only at hSw)
              go_simp
              try with_reducible rfl
            try simp only [Act.put, List.setIfInBounds_toArray, List.set_cons_zero, List.set_cons_succ]
            refine wpAnyH_take (i := 9) (oi := ⟨some 142, _, _, _, _, _⟩) (v := ?_) rfl (by kernel_rfl) (by kernel_rfl) (by kernel_rfl) (fun _ _ _ h => h) (Or.inl ⟨by rfl, ?_⟩) hHeld2 ?_
            rotate_left
            · intro w hSw
              (try dsimp only at hSw)
              go_simp
              try with_reducible rfl
            try simp only [Act.put, List.setIfInBounds_toArray, List.set_cons_zero, List.set_cons_succ]
            refine wpAnyH_take (i := 10) (oi := ⟨some 143, _, _, _, _, _⟩) (v := ?_) rfl (by kernel_rfl) (by kernel_rfl) (by kernel_rfl) (fun _ _ _ h => h) (Or.inl ⟨by rfl, ?_⟩) hHeld2 ?_
            rotate_left
            · intro w hSw
              (try dsimp only at hSw)
              go_simp
              try with_reducible rfl
            try simp only [Act.put, List.setIfInBounds_toArray, List.set_cons_zero, List.set_cons_succ]
            refine wpAnyH_take (i := 11) (oi := ⟨some 144, _, _, _, _, _⟩) (v := ?_) rfl (by kernel_rfl) (by kernel_rfl) (by kernel_rfl) (fun _ _ _ h => h) (Or.inl ⟨by rfl, ?_⟩) hHeld2 ?_
            rotate_left
            · intro w hSw
              (try dsimp only at hSw)
              go_simp
              try with_reducible rfl
            try simp only [Act.put, List.setIfInBounds_toArray, List.set_cons_zero, List.set_cons_succ]
            refine wpAnyH_ready (rs := [12]) (by kernel_rfl) (by simp) ?_
            refine AllReadyH.cons (o := ⟨some 145, _, _, _, _, _⟩) rfl (fun K hK => ?_) AllReadyH.nil
            go_simp
            go_at_call 8
            refine (HR.out _).mono ?_
            rintro e y3 ⟨rfl, hy3⟩
            (try go_wp2_with fail)
            refine hK.out _ _ ?_ (fun hHeld3 => ?_)
            · exact HK.out _ (below_chain7 (below_chain7 (drew_c hy1) hy2) hy3)
            clear hK K
            try simp only [Act.put, List.setIfInBounds_toArray, List.set_cons_zero, List.set_cons_succ]
            refine wpAnyH_take (i := 13) (oi := ⟨some 146, _, _, _, _, _⟩) (v := ?_) rfl (by kernel_rfl) (by kernel_rfl) (by kernel_rfl) (fun _ _ _ h => h) (Or.inl ⟨by rfl, ?_⟩) hHeld3 ?_
            rotate_left
            · intro w hSw
              (try dsimp only at hSw)
              go_simp
              try with_reducible rfl
            try simp only [Act.put, List.setIfInBounds_toArray, List.set_cons_zero, List.set_cons_succ]
            refine wpAnyH_take (i := 14) (oi := ⟨some 147, _, _, _, _, _⟩) (v := ?_) rfl (by kernel_rfl) (by kernel_rfl) (by kernel_rfl) (fun _ _ _ h => h) (Or.inl ⟨by rfl, ?_⟩) hHeld3 ?_
            rotate_left
            · intro w hSw
              (try dsimp only at hSw)
              go_simp
              try with_reducible rfl
            try simp only [Act.put, List.setIfInBounds_toArray, List.set_cons_zero, List.set_cons_succ]
            refine wpAnyH_take (i := 15) (oi := ⟨some 148, _, _, _, _, _⟩) (v := ?_) rfl (by kernel_rfl) (by kernel_rfl) (by kernel_rfl) (fun _ _ _ h => h) (Or.inl ⟨by rfl, ?_⟩) hHeld3 ?_
            rotate_left
            · intro w hSw
              (try dsimp only at hSw)
              go_simp
              try with_reducible rfl
            try simp only [Act.put, List.setIfInBounds_toArray, List.set_cons_zero, List.set_cons_succ]
            refine wpAnyH_take (i := 16) (oi := ⟨some 149, _, _, _, _, _⟩) (v := ?_) rfl (by kernel_rfl) (by kernel_rfl) (by kernel_rfl) (fun _ _ _ h => h) (Or.inl ⟨by rfl, ?_⟩) hHeld3 ?_
            rotate_left
            · intro w hSw
              (try dsimp only at hSw)
              go_simp
              try with_reducible rfl
            try simp only [Act.put, List.setIfInBounds_toArray, List.set_cons_zero, List.set_cons_succ]
            refine wpAnyH_take (i := 17) (oi := ⟨some 150, _, _, _, _, _⟩) (v := ?_) rfl (by kernel_rfl) (by kernel_rfl) (by kernel_rfl) (fun _ _ _ h => h) (Or.inl ⟨by rfl, ?_⟩) hHeld3 ?_
            rotate_left
            · intro w hSw
              (try dsimp only at hSw)
              go_simp
              try with_reducible rfl
            try simp only [Act.put, List.setIfInBounds_toArray, List.set_cons_zero, List.set_cons_succ]
            refine wpAnyH_take (i := 18) (oi := ⟨some 151, _, _, _, _, _⟩) (v := ?_) rfl (by kernel_rfl) (by kernel_rfl) (by kernel_rfl) (fun _ _ _ h => h) (Or.inl ⟨by rfl, ?_⟩) hHeld3 ?_
            rotate_left
            · intro w hSw
              (try dsimp only at hSw)
              go_simp
              try with_reducible rfl
            try simp only [Act.put, List.setIfInBounds_toArray, List.set_cons_zero, List.set_cons_succ]
            refine wpAnyH_ready (rs := [19]) (by kernel_rfl) (by simp) ?_
            refine AllReadyH.cons (o := ⟨some 152, _, _, _, _, _⟩) rfl (fun K hK => ?_) AllReadyH.nil
            go_simp
            go_at_call 8
            refine (HQ.out _).mono ?_
            rintro e y4 ⟨rfl, hy4⟩
            (try go_wp2_with fail)
            refine hK.out _ _ ?_ (fun hHeld4 => ?_)
            · exact HK.out _ (below_chain7 (below_chain7 (below_chain7 (drew_c hy1) hy2) hy3) hy4)
            clear hK K
            try simp only [Act.put, List.setIfInBounds_toArray, List.set_cons_zero, List.set_cons_succ]
            refine wpAnyH_take (i := 20) (oi := ⟨some 153, _, _, _, _, _⟩) (v := ?_) rfl (by kernel_rfl) (by kernel_rfl) (by kernel_rfl) (fun _ _ _ h => h) (Or.inl ⟨by rfl, ?_⟩) hHeld4 ?_
            rotate_left
            · intro w hSw
              (try dsimp only at hSw)
              go_simp
              try with_reducible rfl
            try simp only [Act.put, List.setIfInBounds_toArray, List.set_cons_zero, List.set_cons_succ]
            refine wpAnyH_take (i := 21) (oi := ⟨some 154, _, _, _, _, _⟩) (v := undef) rfl (by kernel_rfl) (by kernel_rfl) (by kernel_rfl) (fun _ _ _ h => h) (Or.inr ⟨by rfl, rfl⟩) hHeld4 ?_
            try simp only [Act.put, List.setIfInBounds_toArray, List.set_cons_zero, List.set_cons_succ]
            refine wpAnyH_take (i := 22) (oi := ⟨some 155, _, _, _, _, _⟩) (v := undef) rfl (by kernel_rfl) (by kernel_rfl) (by kernel_rfl) (fun _ _ _ h => h) (Or.inr ⟨by rfl, rfl⟩) hHeld4 ?_
            try simp only [Act.put, List.setIfInBounds_toArray, List.set_cons_zero, List.set_cons_succ]
            refine wpAnyH_take (i := 23) (oi := ⟨some 156, _, _, _, _, _⟩) (v := undef) rfl (by kernel_rfl) (by kernel_rfl) (by kernel_rfl) (fun _ _ _ h => h) (Or.inr ⟨by rfl, rfl⟩) hHeld4 ?_
            try simp only [Act.put, List.setIfInBounds_toArray, List.set_cons_zero, List.set_cons_succ]
            refine wpAnyH_take (i := 24) (oi := ⟨some 157, _, _, _, _, _⟩) (v := undef) rfl (by kernel_rfl) (by kernel_rfl) (by kernel_rfl) (fun _ _ _ h => h) (Or.inr ⟨by rfl, rfl⟩) hHeld4 ?_
            try simp only [Act.put, List.setIfInBounds_toArray, List.set_cons_zero, List.set_cons_succ]
            refine wpAnyH_take (i := 25) (oi := ⟨some 158, _, _, _, _, _⟩) (v := ?_) rfl (by kernel_rfl) (by kernel_rfl) (by kernel_rfl) (fun _ _ _ h => h) (Or.inl ⟨by rfl, ?_⟩) hHeld4 ?_
            rotate_left
            · intro w hSw
              (try dsimp only at hSw)
              go_simp
              try with_reducible rfl
            try simp only [Act.put, List.setIfInBounds_toArray, List.set_cons_zero, List.set_cons_succ]
            refine wpAnyH_take (i := 26) (oi := ⟨some 159, _, _, _, _, _⟩) (v := ?_) rfl (by kernel_rfl) (by kernel_rfl) (by kernel_rfl) (fun _ _ _ h => h) (Or.inl ⟨by rfl, ?_⟩) hHeld4 ?_
            rotate_left
            · intro w hSw
              (try dsimp only at hSw)
              go_simp
              try with_reducible rfl
            try simp only [Act.put, List.setIfInBounds_toArray, List.set_cons_zero, List.set_cons_succ]
            refine wpAnyH_done (by kernel_rfl) ?_ _
            go_wp2
            go_roundw
            case rel => exact ⟨2, by omega, by go_num, fun e he => HY.out.keep (below_chain7 (below_chain7 (below_chain7 (drew_c hy1) hy2) hy3) hy4) e (.tail _ he), below_chain7 hcy (below_chain7 (below_chain7 (below_chain7 (drew_c hy1) hy2) hy3) hy4)⟩
            case measure => simp [intOf]
          | false =>
            refine wp_region_held_drew (S := fun W => ((W.cell? ⟨gp, 0, none⟩ = some (.int .u64 (ph : Nat)) ∧ W.cell? ⟨gp, 1, none⟩ = some (.int .u64 (pl : Nat)) ∧ W.cell? ⟨gp, 2, none⟩ = some (.int .i64 (k : Nat))) ∧ (W.cell? ⟨gq, 0, none⟩ = some (.int .u64 (ph : Nat)) ∧ W.cell? ⟨gq, 1, none⟩ = some (.int .u64 (pl : Nat)) ∧ W.cell? ⟨gq, 2, none⟩ = some (.int .i64 ((k : Int) + 1))) ∧ (W.cell? ⟨gr, 0, none⟩ = some (.int .u64 (fh : Nat)) ∧ W.cell? ⟨gr, 1, none⟩ = some (.int .u64 (pl : Nat)) ∧ W.cell? ⟨gr, 2, none⟩ = some (.int .i64 ((k : Int) + 1)))) ∧ W.cell? ⟨ga, 0, none⟩ = some (.int .u64 (oh : Nat)) ∧ W.cell? ⟨ga, 1, none⟩ = some (.int .u64 (ol : Nat))) (by kernel_rfl) ?_ (fun hHeld => ?_)
            · exact HK.out _ (Below.refl _ _).drew
            refine wpAnyH_take (i := 0) (oi := ⟨some 133, _, _, _, _, _⟩) (v := ?_) rfl (by kernel_rfl) (by kernel_rfl) (by kernel_rfl) (fun _ _ _ h => h) (Or.inl ⟨by rfl, ?_⟩) hHeld ?_
            rotate_left
            · intro w hSw
              (try dsimp only at hSw)
              go_simp
              try with_reducible rfl
            try simp only [Act.put, List.setIfInBounds_toArray, List.set_cons_zero, List.set_cons_succ]
            refine wpAnyH_take (i := 1) (oi := ⟨some 134, _, _, _, _, _⟩) (v := ?_) rfl (by kernel_rfl) (by kernel_rfl) (by kernel_rfl) (fun _ _ _ h => h) (Or.inl ⟨by rfl, ?_⟩) hHeld ?_
            rotate_left
            · intro w hSw
              (try dsimp only at hSw)
              go_simp
              try with_reducible rfl
            try simp only [Act.put, List.setIfInBounds_toArray, List.set_cons_zero, List.set_cons_succ]
            refine wpAnyH_take (i := 2) (oi := ⟨some 135, _, _, _, _, _⟩) (v := ?_) rfl (by kernel_rfl) (by kernel_rfl) (by kernel_rfl) (fun _ _ _ h => h) (Or.inl ⟨by rfl, ?_⟩) hHeld ?_
            rotate_left
            · intro w hSw
              (try dsimp only at hSw)
              go_simp
              try with_reducible rfl
            try simp only [Act.put, List.setIfInBounds_toArray, List.set_cons_zero, List.set_cons_succ]
            refine wpAnyH_take (i := 4) (oi := ⟨some 137, _, _, _, _, _⟩) (v := ?_) rfl (by kernel_rfl) (by kernel_rfl) (by kernel_rfl) (fun _ _ _ h => h) (Or.inl ⟨by rfl, ?_⟩) hHeld ?_
            rotate_left
            · intro w hSw
              (try dsimp only at hSw)
              go_simp
              try with_reducible rfl
            try simp only [Act.put, List.setIfInBounds_toArray, List.set_cons_zero, List.set_cons_succ]
            refine wpAnyH_take (i := 5) (oi := ⟨some 138, _, _, _, _, _⟩) (v := ?_) rfl (by kernel_rfl) (by kernel_rfl) (by kernel_rfl) (fun _ _ _ h => h) (Or.inl ⟨by rfl, ?_⟩) hHeld ?_
            rotate_left
            · intro w hSw
              (try dsimp only at hSw)
              go_simp
              try with_reducible rfl
            try simp only [Act.put, List.setIfInBounds_toArray, List.set_cons_zero, List.set_cons_succ]
            refine wpAnyH_take (i := 6) (oi := ⟨some 139, _, _, _, _, _⟩) (v := ?_) rfl (by kernel_rfl) (by kernel_rfl) (by kernel_rfl) (fun _ _ _ h => h) (Or.inl ⟨by rfl, ?_⟩) hHeld ?_
            rotate_left
            · intro w hSw
              (try dsimp only at hSw)
              go_simp
              try with_reducible rfl
            try simp only [Act.put, List.setIfInBounds_toArray, List.set_cons_zero, List.set_cons_succ]
            refine wpAnyH_ready (rs := [3]) (by kernel_rfl) (by simp) ?_
            refine AllReadyH.cons (o := ⟨some 136, _, _, _, _, _⟩) rfl (fun K hK => ?_) AllReadyH.nil
            go_simp
            go_at_call 8
            refine (HP.out _).mono ?_
            rintro e y1 ⟨rfl, hy1⟩
            (try go_wp2_with fail)
            refine hK.out _ _ ?_ (fun hHeld1 => ?_)
            · exact HK.out _ (drew_c hy1)
            clear hK K
            try simp only [Act.put, List.setIfInBounds_toArray, List.set_cons_zero, List.set_cons_succ]
            refine wpAnyH_ready (rs := [7]) (by kernel_rfl) (by simp) ?_
            refine AllReadyH.cons (o := ⟨some 140, _, _, _, _, _⟩) rfl (fun K hK => ?_) AllReadyH.nil
            go_simp
            go_at_call 8
            refine (HQ.out _).mono ?_
            rintro e y2 ⟨rfl, hy2⟩
            (try go_wp2_with fail)
            refine hK.out _ _ ?_ (fun hHeld2 => ?_)
            · exact HK.out _ (below_chain7 (drew_c hy1) hy2)
            clear hK K
            try simp only [Act.put, List.setIfInBounds_toArray, List.set_cons_zero, List.set_cons_succ]
            refine wpAnyH_take (i := 8) (oi := ⟨some 141, _, _, _, _, _⟩) (v := ?_) rfl (by kernel_rfl) (by kernel_rfl) (by kernel_rfl) (fun _ _ _ h => h) (Or.inl ⟨by rfl, ?_⟩) hHeld2 ?_
            rotate_left
            · intro w hSw
              (try dsimp only at hSw)
              go_simp
              try with_reducible rfl
            try simp only [Act.put, List.setIfInBounds_toArray, List.set_cons_zero, List.set_cons_succ]
            refine wpAnyH_take (i := 9) (oi := ⟨some 142, _, _, _, _, _⟩) (v := ?_) rfl (by kernel_rfl) (by kernel_rfl) (by kernel_rfl) (fun _ _ _ h => h) (Or.inl ⟨by rfl, ?_⟩) hHeld2 ?_
            rotate_left
            · intro w hSw
              (try dsimp only at hSw)
              go_simp
              try with_reducible rfl
            try simp only [Act.put, List.setIfInBounds_toArray, List.set_cons_zero, List.set_cons_succ]
            refine wpAnyH_take (i := 10) (oi := ⟨some 143, _, _, _, _, _⟩) (v := ?_) rfl (by kernel_rfl) (by kernel_rfl) (by kernel_rfl) (fun _ _ _ h => h) (Or.inl ⟨by rfl, ?_⟩) hHeld2 ?_
            rotate_left
            · intro w hSw
              (try dsimp only at hSw)
              go_simp
              try with_reducible rfl
            try simp only [Act.put, List.setIfInBounds_toArray, List.set_cons_zero, List.set_cons_succ]
            refine wpAnyH_take (i := 11) (oi := ⟨some 144, _, _, _, _, _⟩) (v := ?_) rfl (by kernel_rfl) (by kernel_rfl) (by kernel_rfl) (fun _ _ _ h => h) (Or.inl ⟨by rfl, ?_⟩) hHeld2 ?_
            rotate_left
            · intro w hSw
              (try dsimp only at hSw)
              go_simp
              try with_reducible rfl
            try simp only [Act.put, List.setIfInBounds_toArray, List.set_cons_zero, List.set_cons_succ]
            refine wpAnyH_ready (rs := [12]) (by kernel_rfl) (by simp) ?_
            refine AllReadyH.cons (o := ⟨some 145, _, _, _, _, _⟩) rfl (fun K hK => ?_) AllReadyH.nil
            go_simp
            go_at_call 8
            refine (HR.out _).mono ?_
            rintro e y3 ⟨rfl, hy3⟩
            (try go_wp2_with fail)
            refine hK.out _ _ ?_ (fun hHeld3 => ?_)
            · exact HK.out _ (below_chain7 (below_chain7 (drew_c hy1) hy2) hy3)
            clear hK K
            try simp only [Act.put, List.setIfInBounds_toArray, List.set_cons_zero, List.set_cons_succ]
            refine wpAnyH_take (i := 13) (oi := ⟨some 146, _, _, _, _, _⟩) (v := ?_) rfl (by kernel_rfl) (by kernel_rfl) (by kernel_rfl) (fun _ _ _ h => h) (Or.inl ⟨by rfl, ?_⟩) hHeld3 ?_
            rotate_left
            · intro w hSw
              (try dsimp only at hSw)
              go_simp
              try with_reducible rfl
            try simp only [Act.put, List.setIfInBounds_toArray, List.set_cons_zero, List.set_cons_succ]
            refine wpAnyH_take (i := 14) (oi := ⟨some 147, _, _, _, _, _⟩) (v := ?_) rfl (by kernel_rfl) (by kernel_rfl) (by kernel_rfl) (fun _ _ _ h => h) (Or.inl ⟨by rfl, ?_⟩) hHeld3 ?_
            rotate_left
            · intro w hSw
              (try dsimp only at hSw)
              go_simp
              try with_reducible rfl
            try simp only [Act.put, List.setIfInBounds_toArray, List.set_cons_zero, List.set_cons_succ]
            refine wpAnyH_take (i := 15) (oi := ⟨some 148, _, _, _, _, _⟩) (v := ?_) rfl (by kernel_rfl) (by kernel_rfl) (by kernel_rfl) (fun _ _ _ h => h) (Or.inl ⟨by rfl, ?_⟩) hHeld3 ?_
            rotate_left
            · intro w hSw
              (try dsimp only at hSw)
              go_simp
              try with_reducible rfl
            try simp only [Act.put, List.setIfInBounds_toArray, List.set_cons_zero, List.set_cons_succ]
            refine wpAnyH_take (i := 16) (oi := ⟨some 149, _, _, _, _, _⟩) (v := ?_) rfl (by kernel_rfl) (by kernel_rfl) (by kernel_rfl) (fun _ _ _ h => h) (Or.inl ⟨by rfl, ?_⟩) hHeld3 ?_
            rotate_left
            · intro w hSw
              (try dsimp only at hSw)
              go_simp
              try with_reducible rfl
            try simp only [Act.put, List.setIfInBounds_toArray, List.set_cons_zero, List.set_cons_succ]
            refine wpAnyH_take (i := 17) (oi := ⟨some 150, _, _, _, _, _⟩) (v := ?_) rfl (by kernel_rfl) (by kernel_rfl) (by kernel_rfl) (fun _ _ _ h => h) (Or.inl ⟨by rfl, ?_⟩) hHeld3 ?_
            rotate_left
            · intro w hSw
              (try dsimp only at hSw)
              go_simp
              try with_reducible rfl
            try simp only [Act.put, List.setIfInBounds_toArray, List.set_cons_zero, List.set_cons_succ]
            refine wpAnyH_take (i := 18) (oi := ⟨some 151, _, _, _, _, _⟩) (v := ?_) rfl (by kernel_rfl) (by kernel_rfl) (by kernel_rfl) (fun _ _ _ h => h) (Or.inl ⟨by rfl, ?_⟩) hHeld3 ?_
            rotate_left
            · intro w hSw
              (try dsimp only at hSw)
              go_simp
              try with_reducible rfl
            try simp only [Act.put, List.setIfInBounds_toArray, List.set_cons_zero, List.set_cons_succ]
            refine wpAnyH_ready (rs := [19]) (by kernel_rfl) (by simp) ?_
            refine AllReadyH.cons (o := ⟨some 152, _, _, _, _, _⟩) rfl (fun K hK => ?_) AllReadyH.nil
            go_simp
            go_at_call 8
            refine (HQ.out _).mono ?_
            rintro e y4 ⟨rfl, hy4⟩
            (try go_wp2_with fail)
            refine hK.out _ _ ?_ (fun hHeld4 => ?_)
            · exact HK.out _ (below_chain7 (below_chain7 (below_chain7 (drew_c hy1) hy2) hy3) hy4)
            clear hK K
            try simp only [Act.put, List.setIfInBounds_toArray, List.set_cons_zero, List.set_cons_succ]
            refine wpAnyH_take (i := 20) (oi := ⟨some 153, _, _, _, _, _⟩) (v := ?_) rfl (by kernel_rfl) (by kernel_rfl) (by kernel_rfl) (fun _ _ _ h => h) (Or.inl ⟨by rfl, ?_⟩) hHeld4 ?_
            rotate_left
            · intro w hSw
              (try dsimp only at hSw)
              go_simp
              try with_reducible rfl
            try simp only [Act.put, List.setIfInBounds_toArray, List.set_cons_zero, List.set_cons_succ]
            refine wpAnyH_take (i := 21) (oi := ⟨some 154, _, _, _, _, _⟩) (v := undef) rfl (by kernel_rfl) (by kernel_rfl) (by kernel_rfl) (fun _ _ _ h => h) (Or.inr ⟨by rfl, rfl⟩) hHeld4 ?_
            try simp only [Act.put, List.setIfInBounds_toArray, List.set_cons_zero, List.set_cons_succ]
            refine wpAnyH_take (i := 22) (oi := ⟨some 155, _, _, _, _, _⟩) (v := undef) rfl (by kernel_rfl) (by kernel_rfl) (by kernel_rfl) (fun _ _ _ h => h) (Or.inr ⟨by rfl, rfl⟩) hHeld4 ?_
            try simp only [Act.put, List.setIfInBounds_toArray, List.set_cons_zero, List.set_cons_succ]
            refine wpAnyH_take (i := 23) (oi := ⟨some 156, _, _, _, _, _⟩) (v := undef) rfl (by kernel_rfl) (by kernel_rfl) (by kernel_rfl) (fun _ _ _ h => h) (Or.inr ⟨by rfl, rfl⟩) hHeld4 ?_
            try simp only [Act.put, List.setIfInBounds_toArray, List.set_cons_zero, List.set_cons_succ]
            refine wpAnyH_take (i := 24) (oi := ⟨some 157, _, _, _, _, _⟩) (v := undef) rfl (by kernel_rfl) (by kernel_rfl) (by kernel_rfl) (fun _ _ _ h => h) (Or.inr ⟨by rfl, rfl⟩) hHeld4 ?_
            try simp only [Act.put, List.setIfInBounds_toArray, List.set_cons_zero, List.set_cons_succ]
            refine wpAnyH_take (i := 25) (oi := ⟨some 158, _, _, _, _, _⟩) (v := ?_) rfl (by kernel_rfl) (by kernel_rfl) (by kernel_rfl) (fun _ _ _ h => h) (Or.inl ⟨by rfl, ?_⟩) hHeld4 ?_
            rotate_left
            · intro w hSw
              (try dsimp only at hSw)
              go_simp
              try with_reducible rfl
            try simp only [Act.put, List.setIfInBounds_toArray, List.set_cons_zero, List.set_cons_succ]
            refine wpAnyH_take (i := 26) (oi := ⟨some 159, _, _, _, _, _⟩) (v := ?_) rfl (by kernel_rfl) (by kernel_rfl) (by kernel_rfl) (fun _ _ _ h => h) (Or.inl ⟨by rfl, ?_⟩) hHeld4 ?_
            rotate_left
            · intro w hSw
              (try dsimp only at hSw)
              go_simp
              try with_reducible rfl
            try simp only [Act.put, List.setIfInBounds_toArray, List.set_cons_zero, List.set_cons_succ]
            refine wpAnyH_done (by kernel_rfl) ?_ _
            go_wp2
            go_roundw
            case rel => exact ⟨2, by omega, by go_num, fun e he => HY.out.keep (below_chain7 (below_chain7 (below_chain7 (drew_c hy1) hy2) hy3) hy4) e (.tail _ he), below_chain7 hcy (below_chain7 (below_chain7 (below_chain7 (drew_c hy1) hy2) hy3) hy4)⟩
            case measure => simp [intOf]
      · have s0 : wr.cell? ⟨gs, 4, none⟩ = some (.int .u64 (fh : Nat)) := cell_row (HB.out _ (.head _)) 4
        have s1 : wr.cell? ⟨gs, 5, none⟩ = some (.int .u64 (pl : Nat)) := cell_row (HB.out _ (.head _)) 5
        have hgs := HB.out.lt (.head _)
        obtain ⟨hp, hq, hr, ⟨e1, e2⟩, HP', HQ', HR'⟩ := HS.out fh pl b7 b6
        have HP := Lib.hid HP'
        have HQ := Lib.hid HQ'
        have HR := Lib.hid HR'
        have HY := Lib.hid (HB.out.new #[.int .u64 (fh : Nat), .int .u64 (pl : Nat)] 25)
        have hcy := hcr.alloc hcr.size (.cells #[.int .u64 (fh : Nat), .int .u64 (pl : Nat)] 25)
        clear HP' HQ' HR'
        rw [show ((2 : Nat) : Int) = 2 from rfl]
        go_wp2
        generalize wr.alloc (.cells #[.int .u64 (fh : Nat), .int .u64 (pl : Nat)] 25) = y at *
        generalize wr.heap.size = ga at *
        have HK : Hid (∀ W, Below y.heap.size y W → (fun W => ((W.cell? ⟨gp, 0, none⟩ = some (.int .u64 (ph : Nat)) ∧ W.cell? ⟨gp, 1, none⟩ = some (.int .u64 (pl : Nat)) ∧ W.cell? ⟨gp, 2, none⟩ = some (.int .i64 (k : Nat))) ∧ (W.cell? ⟨gq, 0, none⟩ = some (.int .u64 (ph : Nat)) ∧ W.cell? ⟨gq, 1, none⟩ = some (.int .u64 (pl : Nat)) ∧ W.cell? ⟨gq, 2, none⟩ = some (.int .i64 ((k : Int) + 1))) ∧ (W.cell? ⟨gr, 0, none⟩ = some (.int .u64 (fh : Nat)) ∧ W.cell? ⟨gr, 1, none⟩ = some (.int .u64 (pl : Nat)) ∧ W.cell? ⟨gr, 2, none⟩ = some (.int .i64 ((k : Int) + 1)))) ∧ W.cell? ⟨ga, 0, none⟩ = some (.int .u64 (fh : Nat)) ∧ W.cell? ⟨ga, 1, none⟩ = some (.int .u64 (pl : Nat))) W) := fun W hW => by
          have h := HY.out.keep hW
          exact ⟨⟨(h.r3 (b := gp) (by repeat first | exact .head _ | apply List.Mem.tail)).2, (h.r3 (b := gq) (by repeat first | exact .head _ | apply List.Mem.tail)).2, (h.r3 (b := gr) (by repeat first | exact .head _ | apply List.Mem.tail)).2⟩, (h.r2 (b := ga) (.head _)).2⟩
        clear s0 s1 hgs
        cases hq with
        | true =>
          obtain rfl : hr = false := by simpa using e2
          obtain rfl : hp = true := by simpa using e1
          clear e1 e2
          refine wp_region_held_drew (S := fun W => ((W.cell? ⟨gp, 0, none⟩ = some (.int .u64 (ph : Nat)) ∧ W.cell? ⟨gp, 1, none⟩ = some (.int .u64 (pl : Nat)) ∧ W.cell? ⟨gp, 2, none⟩ = some (.int .i64 (k : Nat))) ∧ (W.cell? ⟨gq, 0, none⟩ = some (.int .u64 (ph : Nat)) ∧ W.cell? ⟨gq, 1, none⟩ = some (.int .u64 (pl : Nat)) ∧ W.cell? ⟨gq, 2, none⟩ = some (.int .i64 ((k : Int) + 1))) ∧ (W.cell? ⟨gr, 0, none⟩ = some (.int .u64 (fh : Nat)) ∧ W.cell? ⟨gr, 1, none⟩ = some (.int .u64 (pl : Nat)) ∧ W.cell? ⟨gr, 2, none⟩ = some (.int .i64 ((k : Int) + 1)))) ∧ W.cell? ⟨ga, 0, none⟩ = some (.int .u64 (fh : Nat)) ∧ W.cell? ⟨ga, 1, none⟩ = some (.int .u64 (pl : Nat))) (by kernel_rfl) ?_ (fun hHeld => ?_)
          · exact HK.out _ (Below.refl _ _).drew
          refine wpAnyH_take (i := 0) (oi := ⟨some 133, _, _, _, _, _⟩) (v := ?_) rfl (by kernel_rfl) (by kernel_rfl) (by kernel_rfl) (fun _ _ _ h => h) (Or.inl ⟨by rfl, ?_⟩) hHeld ?_
          rotate_left
          · intro w hSw
            (try dsimp only at hSw)
            go_simp
            try with_reducible rfl
          try simp only [Act.put, List.setIfInBounds_toArray, List.set_cons_zero, List.set_cons_succ]
          refine wpAnyH_take (i := 1) (oi := ⟨some 134, _, _, _, _, _⟩) (v := ?_) rfl (by kernel_rfl) (by kernel_rfl) (by kernel_rfl) (fun _ _ _ h => h) (Or.inl ⟨by rfl, ?_⟩) hHeld ?_
          rotate_left
          · intro w hSw
            (try dsimp only at hSw)
            go_simp
            try with_reducible rfl
          try simp only [Act.put, List.setIfInBounds_toArray, List.set_cons_zero, List.set_cons_succ]
          refine wpAnyH_take (i := 2) (oi := ⟨some 135, _, _, _, _, _⟩) (v := ?_) rfl (by kernel_rfl) (by kernel_rfl) (by kernel_rfl) (fun _ _ _ h => h) (Or.inl ⟨by rfl, ?_⟩) hHeld ?_
          rotate_left
          · intro w hSw
            (try dsimp only at hSw)
            go_simp
            try with_reducible rfl
          try simp only [Act.put, List.setIfInBounds_toArray, List.set_cons_zero, List.set_cons_succ]
          refine wpAnyH_take (i := 4) (oi := ⟨some 137, _, _, _, _, _⟩) (v := ?_) rfl (by kernel_rfl) (by kernel_rfl) (by kernel_rfl) (fun _ _ _ h => h) (Or.inl ⟨by rfl, ?_⟩) hHeld ?_
          rotate_left
          · intro w hSw
            (try dsimp only at hSw)
            go_simp
            try with_reducible rfl
          try simp only [Act.put, List.setIfInBounds_toArray, List.set_cons_zero, List.set_cons_succ]
          refine wpAnyH_take (i := 5) (oi := ⟨some 138, _, _, _, _, _⟩) (v := ?_) rfl (by kernel_rfl) (by kernel_rfl) (by kernel_rfl) (fun _ _ _ h => h) (Or.inl ⟨by rfl, ?_⟩) hHeld ?_
          rotate_left
          · intro w hSw
            (try dsimp only at hSw)
            go_simp
            try with_reducible rfl
          try simp only [Act.put, List.setIfInBounds_toArray, List.set_cons_zero, List.set_cons_succ]
          refine wpAnyH_take (i := 6) (oi := ⟨some 139, _, _, _, _, _⟩) (v := ?_) rfl (by kernel_rfl) (by kernel_rfl) (by kernel_rfl) (fun _ _ _ h => h) (Or.inl ⟨by rfl, ?_⟩) hHeld ?_
          rotate_left
          · intro w hSw
            (try dsimp only at hSw)
            go_simp
            try with_reducible rfl
          try simp only [Act.put, List.setIfInBounds_toArray, List.set_cons_zero, List.set_cons_succ]
          refine wpAnyH_ready (rs := [3]) (by kernel_rfl) (by simp) ?_
          refine AllReadyH.cons (o := ⟨some 136, _, _, _, _, _⟩) rfl (fun K hK => ?_) AllReadyH.nil
          go_simp
          go_at_call 8
          refine (HP.out _).mono ?_
          rintro e y1 ⟨rfl, hy1⟩
          (try go_wp2_with fail)
          refine hK.out _ _ ?_ (fun hHeld1 => ?_)
          · exact HK.out _ (drew_c hy1)
          clear hK K
          try simp only [Act.put, List.setIfInBounds_toArray, List.set_cons_zero, List.set_cons_succ]
          refine wpAnyH_ready (rs := [7]) (by kernel_rfl) (by simp) ?_
          refine AllReadyH.cons (o := ⟨some 140, _, _, _, _, _⟩) rfl (fun K hK => ?_) AllReadyH.nil
          go_simp
          go_at_call 8
          refine (HQ.out _).mono ?_
          rintro e y2 ⟨rfl, hy2⟩
          (try go_wp2_with fail)
          refine hK.out _ _ ?_ (fun hHeld2 => ?_)
          · exact HK.out _ (below_chain7 (drew_c hy1) hy2)
          clear hK K
          try simp only [Act.put, List.setIfInBounds_toArray, List.set_cons_zero, List.set_cons_succ]
          refine wpAnyH_take (i := 8) (oi := ⟨some 141, _, _, _, _, _⟩) (v := ?_) rfl (by kernel_rfl) (by kernel_rfl) (by kernel_rfl) (fun _ _ _ h => h) (Or.inl ⟨by rfl, ?_⟩) hHeld2 ?_
          rotate_left
          · intro w hSw
            (try dsimp only at hSw)
            go_simp
            try with_reducible rfl
          try simp only [Act.put, List.setIfInBounds_toArray, List.set_cons_zero, List.set_cons_succ]
          refine wpAnyH_take (i := 9) (oi := ⟨some 142, _, _, _, _, _⟩) (v := undef) rfl (by kernel_rfl) (by kernel_rfl) (by kernel_rfl) (fun _ _ _ h => h) (Or.inr ⟨by rfl, rfl⟩) hHeld2 ?_
          try simp only [Act.put, List.setIfInBounds_toArray, List.set_cons_zero, List.set_cons_succ]
          refine wpAnyH_take (i := 10) (oi := ⟨some 143, _, _, _, _, _⟩) (v := undef) rfl (by kernel_rfl) (by kernel_rfl) (by kernel_rfl) (fun _ _ _ h => h) (Or.inr ⟨by rfl, rfl⟩) hHeld2 ?_
          try simp only [Act.put, List.setIfInBounds_toArray, List.set_cons_zero, List.set_cons_succ]
          refine wpAnyH_take (i := 11) (oi := ⟨some 144, _, _, _, _, _⟩) (v := undef) rfl (by kernel_rfl) (by kernel_rfl) (by kernel_rfl) (fun _ _ _ h => h) (Or.inr ⟨by rfl, rfl⟩) hHeld2 ?_
          try simp only [Act.put, List.setIfInBounds_toArray, List.set_cons_zero, List.set_cons_succ]
          refine wpAnyH_take (i := 12) (oi := ⟨some 145, _, _, _, _, _⟩) (v := undef) rfl (by kernel_rfl) (by kernel_rfl) (by kernel_rfl) (fun _ _ _ h => h) (Or.inr ⟨by rfl, rfl⟩) hHeld2 ?_
          try simp only [Act.put, List.setIfInBounds_toArray, List.set_cons_zero, List.set_cons_succ]
          refine wpAnyH_take (i := 13) (oi := ⟨some 146, _, _, _, _, _⟩) (v := ?_) rfl (by kernel_rfl) (by kernel_rfl) (by kernel_rfl) (fun _ _ _ h => h) (Or.inl ⟨by rfl, ?_⟩) hHeld2 ?_
          rotate_left
          · intro w hSw
            (try dsimp only at hSw)
            go_simp
            try with_reducible rfl
          try simp only [Act.put, List.setIfInBounds_toArray, List.set_cons_zero, List.set_cons_succ]
          refine wpAnyH_take (i := 14) (oi := ⟨some 147, _, _, _, _, _⟩) (v := ?_) rfl (by kernel_rfl) (by kernel_rfl) (by kernel_rfl) (fun _ _ _ h => h) (Or.inl ⟨by rfl, ?_⟩) hHeld2 ?_
          rotate_left
          · intro w hSw
            (try dsimp only at hSw)
            go_simp
            try with_reducible rfl
          try simp only [Act.put, List.setIfInBounds_toArray, List.set_cons_zero, List.set_cons_succ]
          refine wpAnyH_take (i := 15) (oi := ⟨some 148, _, _, _, _, _⟩) (v := ?_) rfl (by kernel_rfl) (by kernel_rfl) (by kernel_rfl) (fun _ _ _ h => h) (Or.inl ⟨by rfl, ?_⟩) hHeld2 ?_
          rotate_left
          · intro w hSw
            (try dsimp only at hSw)
            go_simp
            try with_reducible rfl
          try simp only [Act.put, List.setIfInBounds_toArray, List.set_cons_zero, List.set_cons_succ]
          refine wpAnyH_take (i := 16) (oi := ⟨some 149, _, _, _, _, _⟩) (v := ?_) rfl (by kernel_rfl) (by kernel_rfl) (by kernel_rfl) (fun _ _ _ h => h) (Or.inl ⟨by rfl, ?_⟩) hHeld2 ?_
          rotate_left
          · intro w hSw
            (try dsimp only at hSw)
            go_simp
            try with_reducible rfl
          try simp only [Act.put, List.setIfInBounds_toArray, List.set_cons_zero, List.set_cons_succ]
          refine wpAnyH_take (i := 17) (oi := ⟨some 150, _, _, _, _, _⟩) (v := ?_) rfl (by kernel_rfl) (by kernel_rfl) (by kernel_rfl) (fun _ _ _ h => h) (Or.inl ⟨by rfl, ?_⟩) hHeld2 ?_
          rotate_left
          · intro w hSw
            (try dsimp only at hSw)
            go_simp
            try with_reducible rfl
          try simp only [Act.put, List.setIfInBounds_toArray, List.set_cons_zero, List.set_cons_succ]
          refine wpAnyH_take (i := 18) (oi := ⟨some 151, _, _, _, _, _⟩) (v := ?_) rfl (by kernel_rfl) (by kernel_rfl) (by kernel_rfl) (fun _ _ _ h => h) (Or.inl ⟨by rfl, ?_⟩) hHeld2 ?_
          rotate_left
          · intro w hSw
            (try dsimp only at hSw)
            go_simp
            try with_reducible rfl
          try simp only [Act.put, List.setIfInBounds_toArray, List.set_cons_zero, List.set_cons_succ]
          refine wpAnyH_ready (rs := [19]) (by kernel_rfl) (by simp) ?_
          refine AllReadyH.cons (o := ⟨some 152, _, _, _, _, _⟩) rfl (fun K hK => ?_) AllReadyH.nil
          go_simp
          go_at_call 8
          refine (HQ.out _).mono ?_
          rintro e y3 ⟨rfl, hy3⟩
          (try go_wp2_with fail)
          refine hK.out _ _ ?_ (fun hHeld3 => ?_)
          · exact HK.out _ (below_chain7 (below_chain7 (drew_c hy1) hy2) hy3)
          clear hK K
          try simp only [Act.put, List.setIfInBounds_toArray, List.set_cons_zero, List.set_cons_succ]
          refine wpAnyH_take (i := 20) (oi := ⟨some 153, _, _, _, _, _⟩) (v := ?_) rfl (by kernel_rfl) (by kernel_rfl) (by kernel_rfl) (fun _ _ _ h => h) (Or.inl ⟨by rfl, ?_⟩) hHeld3 ?_
          rotate_left
          · intro w hSw
            (try dsimp only at hSw)
            go_simp
            try with_reducible rfl
          try simp only [Act.put, List.setIfInBounds_toArray, List.set_cons_zero, List.set_cons_succ]
          refine wpAnyH_take (i := 21) (oi := ⟨some 154, _, _, _, _, _⟩) (v := ?_) rfl (by kernel_rfl) (by kernel_rfl) (by kernel_rfl) (fun _ _ _ h => h) (Or.inl ⟨by rfl, ?_⟩) hHeld3 ?_
          rotate_left
          · intro w hSw
            (try dsimp only at hSw)
            go_simp
            try with_reducible rfl
          try simp only [Act.put, List.setIfInBounds_toArray, List.set_cons_zero, List.set_cons_succ]
          refine wpAnyH_take (i := 22) (oi := ⟨some 155, _, _, _, _, _⟩) (v := ?_) rfl (by kernel_rfl) (by kernel_rfl) (by kernel_rfl) (fun _ _ _ h => h) (Or.inl ⟨by rfl, ?_⟩) hHeld3 ?_
          rotate_left
          · intro w hSw
            (try dsimp only at hSw)
            go_simp
            try with_reducible rfl
          try simp only [Act.put, List.setIfInBounds_toArray, List.set_cons_zero, List.set_cons_succ]
          refine wpAnyH_take (i := 23) (oi := ⟨some 156, _, _, _, _, _⟩) (v := ?_) rfl (by kernel_rfl) (by kernel_rfl) (by kernel_rfl) (fun _ _ _ h => h) (Or.inl ⟨by rfl, ?_⟩) hHeld3 ?_
          rotate_left
          · intro w hSw
            (try dsimp only at hSw)
            go_simp
            try with_reducible rfl
          try simp only [Act.put, List.setIfInBounds_toArray, List.set_cons_zero, List.set_cons_succ]
          refine wpAnyH_ready (rs := [24]) (by kernel_rfl) (by simp) ?_
          refine AllReadyH.cons (o := ⟨some 157, _, _, _, _, _⟩) rfl (fun K hK => ?_) AllReadyH.nil
          go_simp
          go_at_call 8
          refine (HR.out _).mono ?_
          rintro e y4 ⟨rfl, hy4⟩
          (try go_wp2_with fail)
          refine hK.out _ _ ?_ (fun hHeld4 => ?_)
          · exact HK.out _ (below_chain7 (below_chain7 (below_chain7 (drew_c hy1) hy2) hy3) hy4)
          clear hK K
          try simp only [Act.put, List.setIfInBounds_toArray, List.set_cons_zero, List.set_cons_succ]
          refine wpAnyH_take (i := 25) (oi := ⟨some 158, _, _, _, _, _⟩) (v := ?_) rfl (by kernel_rfl) (by kernel_rfl) (by kernel_rfl) (fun _ _ _ h => h) (Or.inl ⟨by rfl, ?_⟩) hHeld4 ?_
          rotate_left
          · intro w hSw
            (try dsimp only at hSw)
            go_simp
            try with_reducible rfl
          try simp only [Act.put, List.setIfInBounds_toArray, List.set_cons_zero, List.set_cons_succ]
          refine wpAnyH_take (i := 26) (oi := ⟨some 159, _, _, _, _, _⟩) (v := ?_) rfl (by kernel_rfl) (by kernel_rfl) (by kernel_rfl) (fun _ _ _ h => h) (Or.inl ⟨by rfl, ?_⟩) hHeld4 ?_
          rotate_left
          · intro w hSw
            (try dsimp only at hSw)
            go_simp
            try with_reducible rfl
          try simp only [Act.put, List.setIfInBounds_toArray, List.set_cons_zero, List.set_cons_succ]
          refine wpAnyH_done (by kernel_rfl) ?_ _
          go_wp2
          go_roundw
          case rel => exact ⟨3, by omega, by go_num, fun e he => HY.out.keep (below_chain7 (below_chain7 (below_chain7 (drew_c hy1) hy2) hy3) hy4) e (.tail _ he), below_chain7 hcy (below_chain7 (below_chain7 (below_chain7 (drew_c hy1) hy2) hy3) hy4)⟩
          case measure => simp [intOf]
        | false =>
          obtain rfl : hp = hr := by simpa using e1
          clear e1 e2
          cases hp with
          | true =>
            refine wp_region_held_drew (S := fun W => ((W.cell? ⟨gp, 0, none⟩ = some (.int .u64 (ph : Nat)) ∧ W.cell? ⟨gp, 1, none⟩ = some (.int .u64 (pl : Nat)) ∧ W.cell? ⟨gp, 2, none⟩ = some (.int .i64 (k : Nat))) ∧ (W.cell? ⟨gq, 0, none⟩ = some (.int .u64 (ph : Nat)) ∧ W.cell? ⟨gq, 1, none⟩ = some (.int .u64 (pl : Nat)) ∧ W.cell? ⟨gq, 2, none⟩ = some (.int .i64 ((k : Int) + 1))) ∧ (W.cell? ⟨gr, 0, none⟩ = some (.int .u64 (fh : Nat)) ∧ W.cell? ⟨gr, 1, none⟩ = some (.int .u64 (pl : Nat)) ∧ W.cell? ⟨gr, 2, none⟩ = some (.int .i64 ((k : Int) + 1)))) ∧ W.cell? ⟨ga, 0, none⟩ = some (.int .u64 (fh : Nat)) ∧ W.cell? ⟨ga, 1, none⟩ = some (.int .u64 (pl : Nat))) (by kernel_rfl) ?_ (fun hHeld => ?_)
            · exact HK.out _ (Below.refl _ _).drew
            refine wpAnyH_take (i := 0) (oi := ⟨some 133, _, _, _, _, _⟩) (v := ?_) rfl (by kernel_rfl) (by kernel_rfl) (by kernel_rfl) (fun _ _ _ h => h) (Or.inl ⟨by rfl, ?_⟩) hHeld ?_
            rotate_left
            · intro w hSw
              (try dsimp only at hSw)
              go_simp
              try with_reducible rfl
            try simp only [Act.put, List.setIfInBounds_toArray, List.set_cons_zero, List.set_cons_succ]
            refine wpAnyH_take (i := 1) (oi := ⟨some 134, _, _, _, _, _⟩) (v := ?_) rfl (by kernel_rfl) (by kernel_rfl) (by kernel_rfl) (fun _ _ _ h => h) (Or.inl ⟨by rfl, ?_⟩) hHeld ?_
            rotate_left
            · intro w hSw
              (try dsimp only at hSw)
              go_simp
              try with_reducible rfl
            try simp only [Act.put, List.setIfInBounds_toArray, List.set_cons_zero, List.set_cons_succ]
            refine wpAnyH_take (i := 2) (oi := ⟨some 135, _, _, _, _, _⟩) (v := ?_) rfl (by kernel_rfl) (by kernel_rfl) (by kernel_rfl) (fun _ _ _ h => h) (Or.inl ⟨by rfl, ?_⟩) hHeld ?_
            rotate_left
            · intro w hSw
              (try dsimp only at hSw)
              go_simp
              try with_reducible rfl
            try simp only [Act.put, List.setIfInBounds_toArray, List.set_cons_zero, List.set_cons_succ]
            refine wpAnyH_take (i := 4) (oi := ⟨some 137, _, _, _, _, _⟩) (v := ?_) rfl (by kernel_rfl) (by kernel_rfl) (by kernel_rfl) (fun _ _ _ h => h) (Or.inl ⟨by rfl, ?_⟩) hHeld ?_
            rotate_left
            · intro w hSw
              (try dsimp only at hSw)
              go_simp
              try with_reducible rfl
            try simp only [Act.put, List.setIfInBounds_toArray, List.set_cons_zero, List.set_cons_succ]
            refine wpAnyH_take (i := 5) (oi := ⟨some 138, _, _, _, _, _⟩) (v := ?_) rfl (by kernel_rfl) (by kernel_rfl) (by kernel_rfl) (fun _ _ _ h => h) (Or.inl ⟨by rfl, ?_⟩) hHeld ?_
            rotate_left
            · intro w hSw
              (try dsimp only at hSw)
              go_simp
              try with_reducible rfl
            try simp only [Act.put, List.setIfInBounds_toArray, List.set_cons_zero, List.set_cons_succ]
            refine wpAnyH_take (i := 6) (oi := ⟨some 139, _, _, _, _, _⟩) (v := ?_) rfl (by kernel_rfl) (by kernel_rfl) (by kernel_rfl) (fun _ _ _ h => h) (Or.inl ⟨by rfl, ?_⟩) hHeld ?_
            rotate_left
            · intro w hSw
              (try dsimp only at hSw)
              go_simp
              try with_reducible rfl
            try simp only [Act.put, List.setIfInBounds_toArray, List.set_cons_zero, List.set_cons_succ]
            refine wpAnyH_ready (rs := [3]) (by kernel_rfl) (by simp) ?_
            refine AllReadyH.cons (o := ⟨some 136, _, _, _, _, _⟩) rfl (fun K hK => ?_) AllReadyH.nil
            go_simp
            go_at_call 8
            refine (HP.out _).mono ?_
            rintro e y1 ⟨rfl, hy1⟩
            (try go_wp2_with fail)
            refine hK.out _ _ ?_ (fun hHeld1 => ?_)
            · exact HK.out _ (drew_c hy1)
            clear hK K
            try simp only [Act.put, List.setIfInBounds_toArray, List.set_cons_zero, List.set_cons_succ]
            refine wpAnyH_ready (rs := [7]) (by kernel_rfl) (by simp) ?_
            refine AllReadyH.cons (o := ⟨some 140, _, _, _, _, _⟩) rfl (fun K hK => ?_) AllReadyH.nil
            go_simp
            go_at_call 8
            refine (HQ.out _).mono ?_
            rintro e y2 ⟨rfl, hy2⟩
            (try go_wp2_with fail)
            refine hK.out _ _ ?_ (fun hHeld2 => ?_)
            · exact HK.out _ (below_chain7 (drew_c hy1) hy2)
            clear hK K
            try simp only [Act.put, List.setIfInBounds_toArray, List.set_cons_zero, List.set_cons_succ]
            refine wpAnyH_take (i := 8) (oi := ⟨some 141, _, _, _, _, _⟩) (v := ?_) rfl (by kernel_rfl) (by kernel_rfl) (by kernel_rfl) (fun _ _ _ h => h) (Or.inl ⟨by rfl, ?_⟩) hHeld2 ?_
            rotate_left
            · intro w hSw
              (try dsimp only at hSw)
              go_simp
              try with_reducible rfl
            try simp only [Act.put, List.setIfInBounds_toArray, List.set_cons_zero, List.set_cons_succ]
            refine wpAnyH_take (i := 9) (oi := ⟨some 142, _, _, _, _, _⟩) (v := ?_) rfl (by kernel_rfl) (by kernel_rfl) (by kernel_rfl) (fun _ _ _ h => h) (Or.inl ⟨by rfl, ?_⟩) hHeld2 ?_
            rotate_left
            · intro w hSw
              (try dsimp only at hSw)
              go_simp
              try with_reducible rfl
            try simp only [Act.put, List.setIfInBounds_toArray, List.set_cons_zero, List.set_cons_succ]
            refine wpAnyH_take (i := 10) (oi := ⟨some 143, _, _, _, _, _⟩) (v := ?_) rfl (by kernel_rfl) (by kernel_rfl) (by kernel_rfl) (fun _ _ _ h => h) (Or.inl ⟨by rfl, ?_⟩) hHeld2 ?_
            rotate_left
            · intro w hSw
              (try dsimp only at hSw)
              go_simp
              try with_reducible rfl
            try simp only [Act.put, List.setIfInBounds_toArray, List.set_cons_zero, List.set_cons_succ]
            refine wpAnyH_take (i := 11) (oi := ⟨some 144, _, _, _, _, _⟩) (v := ?_) rfl (by kernel_rfl) (by kernel_rfl) (by kernel_rfl) (fun _ _ _ h => h) (Or.inl ⟨by rfl, ?_⟩) hHeld2 ?_
            rotate_left
            · intro w hSw
              (try dsimp only at hSw)
              go_simp
              try with_reducible rfl
            try simp only [Act.put, List.setIfInBounds_toArray, List.set_cons_zero, List.set_cons_succ]
            refine wpAnyH_ready (rs := [12]) (by kernel_rfl) (by simp) ?_
            refine AllReadyH.cons (o := ⟨some 145, _, _, _, _, _⟩) rfl (fun K hK => ?_) AllReadyH.nil
            go_simp
            go_at_call 8
            refine (HR.out _).mono ?_
            rintro e y3 ⟨rfl, hy3⟩
            (try go_wp2_with fail)
            refine hK.out _ _ ?_ (fun hHeld3 => ?_)
            · exact HK.out _ (below_chain7 (below_chain7 (drew_c hy1) hy2) hy3)
            clear hK K
            try simp only [Act.put, List.setIfInBounds_toArray, List.set_cons_zero, List.set_cons_succ]
            refine wpAnyH_take (i := 13) (oi := ⟨some 146, _, _, _, _, _⟩) (v := ?_) rfl (by kernel_rfl) (by kernel_rfl) (by kernel_rfl) (fun _ _ _ h => h) (Or.inl ⟨by rfl, ?_⟩) hHeld3 ?_
            rotate_left
            · intro w hSw
              (try dsimp only at hSw)
              go_simp
              try with_reducible rfl
            try simp only [Act.put, List.setIfInBounds_toArray, List.set_cons_zero, List.set_cons_succ]
            refine wpAnyH_take (i := 14) (oi := ⟨some 147, _, _, _, _, _⟩) (v := ?_) rfl (by kernel_rfl) (by kernel_rfl) (by kernel_rfl) (fun _ _ _ h => h) (Or.inl ⟨by rfl, ?_⟩) hHeld3 ?_
            rotate_left
            · intro w hSw
              (try dsimp only at hSw)
              go_simp
              try with_reducible rfl
            try simp only [Act.put, List.setIfInBounds_toArray, List.set_cons_zero, List.set_cons_succ]
            refine wpAnyH_take (i := 15) (oi := ⟨some 148, _, _, _, _, _⟩) (v := ?_) rfl (by kernel_rfl) (by kernel_rfl) (by kernel_rfl) (fun _ _ _ h => h) (Or.inl ⟨by rfl, ?_⟩) hHeld3 ?_
            rotate_left
            · intro w hSw
              (try dsimp only at hSw)
              go_simp
              try with_reducible rfl
            try simp only [Act.put, List.setIfInBounds_toArray, List.set_cons_zero, List.set_cons_succ]
            refine wpAnyH_take (i := 16) (oi := ⟨some 149, _, _, _, _, _⟩) (v := ?_) rfl (by kernel_rfl) (by kernel_rfl) (by kernel_rfl) (fun _ _ _ h => h) (Or.inl ⟨by rfl, ?_⟩) hHeld3 ?_
            rotate_left
            · intro w hSw
              (try dsimp only at hSw)
              go_simp
              try with_reducible rfl
            try simp only [Act.put, List.setIfInBounds_toArray, List.set_cons_zero, List.set_cons_succ]
            refine wpAnyH_take (i := 17) (oi := ⟨some 150, _, _, _, _, _⟩) (v := ?_) rfl (by kernel_rfl) (by kernel_rfl) (by kernel_rfl) (fun _ _ _ h => h) (Or.inl ⟨by rfl, ?_⟩) hHeld3 ?_
            rotate_left
            · intro w hSw
              (try dsimp only at hSw)
              go_simp
              try with_reducible rfl
            try simp only [Act.put, List.setIfInBounds_toArray, List.set_cons_zero, List.set_cons_succ]
            refine wpAnyH_take (i := 18) (oi := ⟨some 151, _, _, _, _, _⟩) (v := ?_) rfl (by kernel_rfl) (by kernel_rfl) (by kernel_rfl) (fun _ _ _ h => h) (Or.inl ⟨by rfl, ?_⟩) hHeld3 ?_
            rotate_left
            · intro w hSw
              (try dsimp only at hSw)
              go_simp
              try with_reducible rfl
            try simp only [Act.put, List.setIfInBounds_toArray, List.set_cons_zero, List.set_cons_succ]
            refine wpAnyH_ready (rs := [19]) (by kernel_rfl) (by simp) ?_
            refine AllReadyH.cons (o := ⟨some 152, _, _, _, _, _⟩) rfl (fun K hK => ?_) AllReadyH.nil
            go_simp
            go_at_call 8
            refine (HQ.out _).mono ?_
            rintro e y4 ⟨rfl, hy4⟩
            (try go_wp2_with fail)
            refine hK.out _ _ ?_ (fun hHeld4 => ?_)
            · exact HK.out _ (below_chain7 (below_chain7 (below_chain7 (drew_c hy1) hy2) hy3) hy4)
            clear hK K
            try simp only [Act.put, List.setIfInBounds_toArray, List.set_cons_zero, List.set_cons_succ]
            refine wpAnyH_take (i := 20) (oi := ⟨some 153, _, _, _, _, _⟩) (v := ?_) rfl (by kernel_rfl) (by kernel_rfl) (by kernel_rfl) (fun _ _ _ h => h) (Or.inl ⟨by rfl, ?_⟩) hHeld4 ?_
            rotate_left
            · intro w hSw
              (try dsimp only at hSw)
              go_simp
              try with_reducible rfl
            try simp only [Act.put, List.setIfInBounds_toArray, List.set_cons_zero, List.set_cons_succ]
            refine wpAnyH_take (i := 21) (oi := ⟨some 154, _, _, _, _, _⟩) (v := undef) rfl (by kernel_rfl) (by kernel_rfl) (by kernel_rfl) (fun _ _ _ h => h) (Or.inr ⟨by rfl, rfl⟩) hHeld4 ?_
            try simp only [Act.put, List.setIfInBounds_toArray, List.set_cons_zero, List.set_cons_succ]
            refine wpAnyH_take (i := 22) (oi := ⟨some 155, _, _, _, _, _⟩) (v := undef) rfl (by kernel_rfl) (by kernel_rfl) (by kernel_rfl) (fun _ _ _ h => h) (Or.inr ⟨by rfl, rfl⟩) hHeld4 ?_
            try simp only [Act.put, List.setIfInBounds_toArray, List.set_cons_zero, List.set_cons_succ]
            refine wpAnyH_take (i := 23) (oi := ⟨some 156, _, _, _, _, _⟩) (v := undef) rfl (by kernel_rfl) (by kernel_rfl) (by kernel_rfl) (fun _ _ _ h => h) (Or.inr ⟨by rfl, rfl⟩) hHeld4 ?_
            try simp only [Act.put, List.setIfInBounds_toArray, List.set_cons_zero, List.set_cons_succ]
            refine wpAnyH_take (i := 24) (oi := ⟨some 157, _, _, _, _, _⟩) (v := undef) rfl (by kernel_rfl) (by kernel_rfl) (by kernel_rfl) (fun _ _ _ h => h) (Or.inr ⟨by rfl, rfl⟩) hHeld4 ?_
            try simp only [Act.put, List.setIfInBounds_toArray, List.set_cons_zero, List.set_cons_succ]
            refine wpAnyH_take (i := 25) (oi := ⟨some 158, _, _, _, _, _⟩) (v := ?_) rfl (by kernel_rfl) (by kernel_rfl) (by kernel_rfl) (fun _ _ _ h => h) (Or.inl ⟨by rfl, ?_⟩) hHeld4 ?_
            rotate_left
            · intro w hSw
              (try dsimp only at hSw)
              go_simp
              try with_reducible rfl
            try simp only [Act.put, List.setIfInBounds_toArray, List.set_cons_zero, List.set_cons_succ]
            refine wpAnyH_take (i := 26) (oi := ⟨some 159, _, _, _, _, _⟩) (v := ?_) rfl (by kernel_rfl) (by kernel_rfl) (by kernel_rfl) (fun _ _ _ h => h) (Or.inl ⟨by rfl, ?_⟩) hHeld4 ?_
            rotate_left
            · intro w hSw
              (try dsimp only at hSw)
              go_simp
              try with_reducible rfl
            try simp only [Act.put, List.setIfInBounds_toArray, List.set_cons_zero, List.set_cons_succ]
            refine wpAnyH_done (by kernel_rfl) ?_ _
            go_wp2
            go_roundw
            case rel => exact ⟨3, by omega, by go_num, fun e he => HY.out.keep (below_chain7 (below_chain7 (below_chain7 (drew_c hy1) hy2) hy3) hy4) e (.tail _ he), below_chain7 hcy (below_chain7 (below_chain7 (below_chain7 (drew_c hy1) hy2) hy3) hy4)⟩
            case measure => simp [intOf]
          | false =>
            refine wp_region_held_drew (S := fun W => ((W.cell? ⟨gp, 0, none⟩ = some (.int .u64 (ph : Nat)) ∧ W.cell? ⟨gp, 1, none⟩ = some (.int .u64 (pl : Nat)) ∧ W.cell? ⟨gp, 2, none⟩ = some (.int .i64 (k : Nat))) ∧ (W.cell? ⟨gq, 0, none⟩ = some (.int .u64 (ph : Nat)) ∧ W.cell? ⟨gq, 1, none⟩ = some (.int .u64 (pl : Nat)) ∧ W.cell? ⟨gq, 2, none⟩ = some (.int .i64 ((k : Int) + 1))) ∧ (W.cell? ⟨gr, 0, none⟩ = some (.int .u64 (fh : Nat)) ∧ W.cell? ⟨gr, 1, none⟩ = some (.int .u64 (pl : Nat)) ∧ W.cell? ⟨gr, 2, none⟩ = some (.int .i64 ((k : Int) + 1)))) ∧ W.cell? ⟨ga, 0, none⟩ = some (.int .u64 (fh : Nat)) ∧ W.cell? ⟨ga, 1, none⟩ = some (.int .u64 (pl : Nat))) (by kernel_rfl) ?_ (fun hHeld => ?_)
            · exact HK.out _ (Below.refl _ _).drew
            refine wpAnyH_take (i := 0) (oi := ⟨some 133, _, _, _, _, _⟩) (v := ?_) rfl (by kernel_rfl) (by kernel_rfl) (by kernel_rfl) (fun _ _ _ h => h) (Or.inl ⟨by rfl, ?_⟩) hHeld ?_
            rotate_left
            · intro w hSw
              (try dsimp only at hSw)
              go_simp
              try with_reducible rfl
            try simp only [Act.put, List.setIfInBounds_toArray, List.set_cons_zero, List.set_cons_succ]
            refine wpAnyH_take (i := 1) (oi := ⟨some 134, _, _, _, _, _⟩) (v := ?_) rfl (by kernel_rfl) (by kernel_rfl) (by kernel_rfl) (fun _ _ _ h => h) (Or.inl ⟨by rfl, ?_⟩) hHeld ?_
            rotate_left
            · intro w hSw
              (try dsimp only at hSw)
              go_simp
              try with_reducible rfl
            try simp only [Act.put, List.setIfInBounds_toArray, List.set_cons_zero, List.set_cons_succ]
            refine wpAnyH_take (i := 2) (oi := ⟨some 135, _, _, _, _, _⟩) (v := ?_) rfl (by kernel_rfl) (by kernel_rfl) (by kernel_rfl) (fun _ _ _ h => h) (Or.inl ⟨by rfl, ?_⟩) hHeld ?_
            rotate_left
            · intro w hSw
              (try dsimp only at hSw)
              go_simp
              try with_reducible rfl
            try simp only [Act.put, List.setIfInBounds_toArray, List.set_cons_zero, List.set_cons_succ]
            refine wpAnyH_take (i := 4) (oi := ⟨some 137, _, _, _, _, _⟩) (v := ?_) rfl (by kernel_rfl) (by kernel_rfl) (by kernel_rfl) (fun _ _ _ h => h) (Or.inl ⟨by rfl, ?_⟩) hHeld ?_
            rotate_left
            · intro w hSw
              (try dsimp only at hSw)
              go_simp
              try with_reducible rfl
            try simp only [Act.put, List.setIfInBounds_toArray, List.set_cons_zero, List.set_cons_succ]
            refine wpAnyH_take (i := 5) (oi := ⟨some 138, _, _, _, _, _⟩) (v := ?_) rfl (by kernel_rfl) (by kernel_rfl) (by kernel_rfl) (fun _ _ _ h => h) (Or.inl ⟨by rfl, ?_⟩) hHeld ?_
            rotate_left
            · intro w hSw
              (try dsimp only at hSw)
              go_simp
              try with_reducible rfl
            try simp only [Act.put, List.setIfInBounds_toArray, List.set_cons_zero, List.set_cons_succ]
            refine wpAnyH_take (i := 6) (oi := ⟨some 139, _, _, _, _, _⟩) (v := ?_) rfl (by kernel_rfl) (by kernel_rfl) (by kernel_rfl) (fun _ _ _ h => h) (Or.inl ⟨by rfl, ?_⟩) hHeld ?_
            rotate_left
            · intro w hSw
              (try dsimp only at hSw)
              go_simp
              try with_reducible rfl
            try simp only [Act.put, List.setIfInBounds_toArray, List.set_cons_zero, List.set_cons_succ]
            refine wpAnyH_ready (rs := [3]) (by kernel_rfl) (by simp) ?_
            refine AllReadyH.cons (o := ⟨some 136, _, _, _, _, _⟩) rfl (fun K hK => ?_) AllReadyH.nil
            go_simp
            go_at_call 8
            refine (HP.out _).mono ?_
            rintro e y1 ⟨rfl, hy1⟩
            (try go_wp2_with fail)
            refine hK.out _ _ ?_ (fun hHeld1 => ?_)
            · exact HK.out _ (drew_c hy1)
            clear hK K
            try simp only [Act.put, List.setIfInBounds_toArray, List.set_cons_zero, List.set_cons_succ]
            refine wpAnyH_ready (rs := [7]) (by kernel_rfl) (by simp) ?_
            refine AllReadyH.cons (o := ⟨some 140, _, _, _, _, _⟩) rfl (fun K hK => ?_) AllReadyH.nil
            go_simp
            go_at_call 8
            refine (HQ.out _).mono ?_
            rintro e y2 ⟨rfl, hy2⟩
            (try go_wp2_with fail)
            refine hK.out _ _ ?_ (fun hHeld2 => ?_)
            · exact HK.out _ (below_chain7 (drew_c hy1) hy2)
            clear hK K
            try simp only [Act.put, List.setIfInBounds_toArray, List.set_cons_zero, List.set_cons_succ]
            refine wpAnyH_take (i := 8) (oi := ⟨some 141, _, _, _, _, _⟩) (v := ?_) rfl (by kernel_rfl) (by kernel_rfl) (by kernel_rfl) (fun _ _ _ h => h) (Or.inl ⟨by rfl, ?_⟩) hHeld2 ?_
            rotate_left
            · intro w hSw
              (try dsimp only at hSw)
              go_simp
              try with_reducible rfl
            try simp only [Act.put, List.setIfInBounds_toArray, List.set_cons_zero, List.set_cons_succ]
            refine wpAnyH_take (i := 9) (oi := ⟨some 142, _, _, _, _, _⟩) (v := ?_) rfl (by kernel_rfl) (by kernel_rfl) (by kernel_rfl) (fun _ _ _ h => h) (Or.inl ⟨by rfl, ?_⟩) hHeld2 ?_
            rotate_left
            · intro w hSw
              (try dsimp only at hSw)
              go_simp
              try with_reducible rfl
            try simp only [Act.put, List.setIfInBounds_toArray, List.set_cons_zero, List.set_cons_succ]
            refine wpAnyH_take (i := 10) (oi := ⟨some 143, _, _, _, _, _⟩) (v := ?_) rfl (by kernel_rfl) (by kernel_rfl) (by kernel_rfl) (fun _ _ _ h => h) (Or.inl ⟨by rfl, ?_⟩) hHeld2 ?_
            rotate_left
            · intro w hSw
              (try dsimp only at hSw)
              go_simp
              try with_reducible rfl
            try simp only [Act.put, List.setIfInBounds_toArray, List.set_cons_zero, List.set_cons_succ]
            refine wpAnyH_take (i := 11) (oi := ⟨some 144, _, _, _, _, _⟩) (v := ?_) rfl (by kernel_rfl) (by kernel_rfl) (by kernel_rfl) (fun _ _ _ h => h) (Or.inl ⟨by rfl, ?_⟩) hHeld2 ?_
            rotate_left
            · intro w hSw
              (try dsimp only at hSw)
              go_simp
              try with_reducible rfl
            try simp only [Act.put, List.setIfInBounds_toArray, List.set_cons_zero, List.set_cons_succ]
            refine wpAnyH_ready (rs := [12]) (by kernel_rfl) (by simp) ?_
            refine AllReadyH.cons (o := ⟨some 145, _, _, _, _, _⟩) rfl (fun K hK => ?_) AllReadyH.nil
            go_simp
            go_at_call 8
            refine (HR.out _).mono ?_
            rintro e y3 ⟨rfl, hy3⟩
            (try go_wp2_with fail)
            refine hK.out _ _ ?_ (fun hHeld3 => ?_)
            · exact HK.out _ (below_chain7 (below_chain7 (drew_c hy1) hy2) hy3)
            clear hK K
            try simp only [Act.put, List.setIfInBounds_toArray, List.set_cons_zero, List.set_cons_succ]
            refine wpAnyH_take (i := 13) (oi := ⟨some 146, _, _, _, _, _⟩) (v := ?_) rfl (by kernel_rfl) (by kernel_rfl) (by kernel_rfl) (fun _ _ _ h => h) (Or.inl ⟨by rfl, ?_⟩) hHeld3 ?_
            rotate_left
            · intro w hSw
              (try dsimp only at hSw)
              go_simp
              try with_reducible rfl
            try simp only [Act.put, List.setIfInBounds_toArray, List.set_cons_zero, List.set_cons_succ]
            refine wpAnyH_take (i := 14) (oi := ⟨some 147, _, _, _, _, _⟩) (v := ?_) rfl (by kernel_rfl) (by kernel_rfl) (by kernel_rfl) (fun _ _ _ h => h) (Or.inl ⟨by rfl, ?_⟩) hHeld3 ?_
            rotate_left
            · intro w hSw
              (try dsimp only at hSw)
              go_simp
              try with_reducible rfl
            try simp only [Act.put, List.setIfInBounds_toArray, List.set_cons_zero, List.set_cons_succ]
            refine wpAnyH_take (i := 15) (oi := ⟨some 148, _, _, _, _, _⟩) (v := ?_) rfl (by kernel_rfl) (by kernel_rfl) (by kernel_rfl) (fun _ _ _ h => h) (Or.inl ⟨by rfl, ?_⟩) hHeld3 ?_
            rotate_left
            · intro w hSw
              (try dsimp only at hSw)
              go_simp
              try with_reducible rfl
            try simp only [Act.put, List.setIfInBounds_toArray, List.set_cons_zero, List.set_cons_succ]
            refine wpAnyH_take (i := 16) (oi := ⟨some 149, _, _, _, _, _⟩) (v := ?_) rfl (by kernel_rfl) (by kernel_rfl) (by kernel_rfl) (fun _ _ _ h => h) (Or.inl ⟨by rfl, ?_⟩) hHeld3 ?_
            rotate_left
            · intro w hSw
              (try dsimp only at hSw)
              go_simp
              try with_reducible rfl
            try simp only [Act.put, List.setIfInBounds_toArray, List.set_cons_zero, List.set_cons_succ]
            refine wpAnyH_take (i := 17) (oi := ⟨some 150, _, _, _, _, _⟩) (v := ?_) rfl (by kernel_rfl) (by kernel_rfl) (by kernel_rfl) (fun _ _ _ h => h) (Or.inl ⟨by rfl, ?_⟩) hHeld3 ?_
            rotate_left
            · intro w hSw
              (try dsimp only at hSw)
              go_simp
              try with_reducible rfl
            try simp only [Act.put, List.setIfInBounds_toArray, List.set_cons_zero, List.set_cons_succ]
            refine wpAnyH_take (i := 18) (oi := ⟨some 151, _, _, _, _, _⟩) (v := ?_) rfl (by kernel_rfl) (by kernel_rfl) (by kernel_rfl) (fun _ _ _ h => h) (Or.inl ⟨by rfl, ?_⟩) hHeld3 ?_
            rotate_left
            · intro w hSw
              (try dsimp only at hSw)
              go_simp
              try with_reducible rfl
            try simp only [Act.put, List.setIfInBounds_toArray, List.set_cons_zero, List.set_cons_succ]
            refine wpAnyH_ready (rs := [19]) (by kernel_rfl) (by simp) ?_
            refine AllReadyH.cons (o := ⟨some 152, _, _, _, _, _⟩) rfl (fun K hK => ?_) AllReadyH.nil
            go_simp
            go_at_call 8
            refine (HQ.out _).mono ?_
            rintro e y4 ⟨rfl, hy4⟩
            (try go_wp2_with fail)
            refine hK.out _ _ ?_ (fun hHeld4 => ?_)
            · exact HK.out _ (below_chain7 (below_chain7 (below_chain7 (drew_c hy1) hy2) hy3) hy4)
            clear hK K
            try simp only [Act.put, List.setIfInBounds_toArray, List.set_cons_zero, List.set_cons_succ]
            refine wpAnyH_take (i := 20) (oi := ⟨some 153, _, _, _, _, _⟩) (v := ?_) rfl (by kernel_rfl) (by kernel_rfl) (by kernel_rfl) (fun _ _ _ h => h) (Or.inl ⟨by rfl, ?_⟩) hHeld4 ?_
            rotate_left
            · intro w hSw
              (try dsimp only at hSw)
              go_simp
              try with_reducible rfl
            try simp only [Act.put, List.setIfInBounds_toArray, List.set_cons_zero, List.set_cons_succ]
            refine wpAnyH_take (i := 21) (oi := ⟨some 154, _, _, _, _, _⟩) (v := undef) rfl (by kernel_rfl) (by kernel_rfl) (by kernel_rfl) (fun _ _ _ h => h) (Or.inr ⟨by rfl, rfl⟩) hHeld4 ?_
            try simp only [Act.put, List.setIfInBounds_toArray, List.set_cons_zero, List.set_cons_succ]
            refine wpAnyH_take (i := 22) (oi := ⟨some 155, _, _, _, _, _⟩) (v := undef) rfl (by kernel_rfl) (by kernel_rfl) (by kernel_rfl) (fun _ _ _ h => h) (Or.inr ⟨by rfl, rfl⟩) hHeld4 ?_
            try simp only [Act.put, List.setIfInBounds_toArray, List.set_cons_zero, List.set_cons_succ]
            refine wpAnyH_take (i := 23) (oi := ⟨some 156, _, _, _, _, _⟩) (v := undef) rfl (by kernel_rfl) (by kernel_rfl) (by kernel_rfl) (fun _ _ _ h => h) (Or.inr ⟨by rfl, rfl⟩) hHeld4 ?_
            try simp only [Act.put, List.setIfInBounds_toArray, List.set_cons_zero, List.set_cons_succ]
            refine wpAnyH_take (i := 24) (oi := ⟨some 157, _, _, _, _, _⟩) (v := undef) rfl (by kernel_rfl) (by kernel_rfl) (by kernel_rfl) (fun _ _ _ h => h) (Or.inr ⟨by rfl, rfl⟩) hHeld4 ?_
            try simp only [Act.put, List.setIfInBounds_toArray, List.set_cons_zero, List.set_cons_succ]
            refine wpAnyH_take (i := 25) (oi := ⟨some 158, _, _, _, _, _⟩) (v := ?_) rfl (by kernel_rfl) (by kernel_rfl) (by kernel_rfl) (fun _ _ _ h => h) (Or.inl ⟨by rfl, ?_⟩) hHeld4 ?_
            rotate_left
            · intro w hSw
              (try dsimp only at hSw)
              go_simp
              try with_reducible rfl
            try simp only [Act.put, List.setIfInBounds_toArray, List.set_cons_zero, List.set_cons_succ]
            refine wpAnyH_take (i := 26) (oi := ⟨some 159, _, _, _, _, _⟩) (v := ?_) rfl (by kernel_rfl) (by kernel_rfl) (by kernel_rfl) (fun _ _ _ h => h) (Or.inl ⟨by rfl, ?_⟩) hHeld4 ?_
            rotate_left
            · intro w hSw
              (try dsimp only at hSw)
              go_simp
              try with_reducible rfl
            try simp only [Act.put, List.setIfInBounds_toArray, List.set_cons_zero, List.set_cons_succ]
            refine wpAnyH_done (by kernel_rfl) ?_ _
            go_wp2
            go_roundw
            case rel => exact ⟨3, by omega, by go_num, fun e he => HY.out.keep (below_chain7 (below_chain7 (below_chain7 (drew_c hy1) hy2) hy3) hy4) e (.tail _ he), below_chain7 hcy (below_chain7 (below_chain7 (below_chain7 (drew_c hy1) hy2) hy3) hy4)⟩
            case measure => simp [intOf]
    · have e3 : j = 3 := by omega
      subst e3
      go_wp2
      go_ret
      exact ⟨rfl, hcr⟩

set_option maxRecDepth 100000 in
set_option maxHeartbeats 8000000 in
theorem halves_l (hi lo oh ol n k ph pl fl : Nat) (w : World) (hbru : BruTab w) (hmax : MaxVar w) (hn : n ≤ 255) (hnk : (n : Int) % 128 = (k : Nat)) (hk : 64 ≤ k) (_ : k < 128)
    (b1 : hi < 18446744073709551616) (b2 : lo < 18446744073709551616) (b3 : oh < 18446744073709551616) (b4 : ol < 18446744073709551616) (b5 : ph < 18446744073709551616) (_ : pl < 18446744073709551616) (b7 : fl < 18446744073709551616)
    (hor : bits .or .u64 (pl : Int) ((2 : Int) ^ (127 - k)) = (fl : Nat)) (hwr : IntKind.u64.wrap ((2 : Int) ^ (127 - k)) = (2 : Int) ^ (127 - k))
    (HOp : Hid (∀ W, Calls Tryd.prog 6 #[.iface 25 (.agg #[.int .u64 (hi : Nat), .int .u64 (lo : Nat)]), .int .i64 (k : Nat)] W fun e w' => e = .returned (.tuple #[.agg #[.int .u64 (ph : Nat), .int .u64 (pl : Nat), .int .i64 (k : Nat)], .bool true]) ∧ Below W.heap.size W w'))
    (HOq : Hid (∀ W, Calls Tryd.prog 6 #[.iface 25 (.agg #[.int .u64 (ph : Nat), .int .u64 (pl : Nat)]), .int .i64 ((k : Int) + 1)] W fun e w' => e = .returned (.tuple #[.agg #[.int .u64 (ph : Nat), .int .u64 (pl : Nat), .int .i64 ((k : Int) + 1)], .bool true]) ∧ Below W.heap.size W w'))
    (HOr : Hid (∀ W, Calls Tryd.prog 6 #[.iface 25 (.agg #[.int .u64 (ph : Nat), .int .u64 (fl : Nat)]), .int .i64 ((k : Int) + 1)] W fun e w' => e = .returned (.tuple #[.agg #[.int .u64 (ph : Nat), .int .u64 (fl : Nat), .int .i64 ((k : Int) + 1)], .bool true]) ∧ Below W.heap.size W w'))
    (HCpq : Hid (∀ W, Calls Tryd.prog 9 #[.agg #[.int .u64 (ph : Nat), .int .u64 (pl : Nat), .int .i64 (k : Nat)], .agg #[.int .u64 (ph : Nat), .int .u64 (pl : Nat), .int .i64 ((k : Int) + 1)]] W fun e w' => e = .returned (.bool true) ∧ Below W.heap.size W w'))
    (HCpr : Hid (∀ W, Calls Tryd.prog 9 #[.agg #[.int .u64 (ph : Nat), .int .u64 (pl : Nat), .int .i64 (k : Nat)], .agg #[.int .u64 (ph : Nat), .int .u64 (fl : Nat), .int .i64 ((k : Int) + 1)]] W fun e w' => e = .returned (.bool true) ∧ Below W.heap.size W w'))
    (HCqr : Hid (∀ W, Calls Tryd.prog 9 #[.agg #[.int .u64 (ph : Nat), .int .u64 (pl : Nat), .int .i64 ((k : Int) + 1)], .agg #[.int .u64 (ph : Nat), .int .u64 (fl : Nat), .int .i64 ((k : Int) + 1)]] W fun e w' => e = .returned (.bool false) ∧ Below W.heap.size W w'))
    (HCrq : Hid (∀ W, Calls Tryd.prog 9 #[.agg #[.int .u64 (ph : Nat), .int .u64 (fl : Nat), .int .i64 ((k : Int) + 1)], .agg #[.int .u64 (ph : Nat), .int .u64 (pl : Nat), .int .i64 ((k : Int) + 1)]] W fun e w' => e = .returned (.bool false) ∧ Below W.heap.size W w'))
    (HBq : Hid (∀ W, Calls Tryd.prog 12 #[.agg #[.int .u64 (ph : Nat), .int .u64 (pl : Nat), .int .i64 ((k : Int) + 1)], .int .i64 (k : Nat)] W fun e w' => e = .returned (.int .i64 0) ∧ Below W.heap.size W w'))
    (HBr : Hid (∀ W, Calls Tryd.prog 12 #[.agg #[.int .u64 (ph : Nat), .int .u64 (fl : Nat), .int .i64 ((k : Int) + 1)], .int .i64 (k : Nat)] W fun e w' => e = .returned (.int .i64 1) ∧ Below W.heap.size W w'))
    (HS : Hid (∀ xh xl : Nat, xh < 18446744073709551616 → xl < 18446744073709551616 → ∃ hp hq hr : Bool, (hp = (hq || hr) ∧ (hq && hr) = false) ∧ (∀ W, Calls Tryd.prog 8 #[.agg #[.int .u64 (ph : Nat), .int .u64 (pl : Nat), .int .i64 (k : Nat)], .iface 25 (.agg #[.int .u64 (xh : Nat), .int .u64 (xl : Nat)])] W fun e w' => e = .returned (.bool hp) ∧ Below W.heap.size W w') ∧ (∀ W, Calls Tryd.prog 8 #[.agg #[.int .u64 (ph : Nat), .int .u64 (pl : Nat), .int .i64 ((k : Int) + 1)], .iface 25 (.agg #[.int .u64 (xh : Nat), .int .u64 (xl : Nat)])] W fun e w' => e = .returned (.bool hq) ∧ Below W.heap.size W w') ∧ (∀ W, Calls Tryd.prog 8 #[.agg #[.int .u64 (ph : Nat), .int .u64 (fl : Nat), .int .i64 ((k : Int) + 1)], .iface 25 (.agg #[.int .u64 (xh : Nat), .int .u64 (xl : Nat)])] W fun e w' => e = .returned (.bool hr) ∧ Below W.heap.size W w'))) :
    Calls Tryd.prog 4 #[.int .u64 (hi : Nat), .int .u64 (lo : Nat), .int .u64 (oh : Nat), .int .u64 (ol : Nat), .int .u8 (n : Nat)] w fun e w' => e = .returned (.bool true) ∧ Below w.heap.size w w' := by
  have HT := Lib.hid hbru
  have HX := Lib.hid hmax
  clear hbru hmax
  go_enter Tryd.func4, Tryd.ntmps4
  go_wp2_with fail
  refine (awake07_any _ HT.out HX.out).mono ?_
  rintro e x1 ⟨rfl, hc1⟩
  go_wp2_with fail
  refine (HOp.out _).mono ?_
  rintro e x2 ⟨rfl, hb2⟩
  have hc2 := below_chain7 hc1 hb2
  clear hb2 hc1
  have HB3 := Lib.hid (blks_two (Blks.empty x2) #[.int .u64 (ph : Nat), .int .u64 (pl : Nat), .int .i64 (k : Nat)] #[.int .u64 (ph : Nat), .int .u64 (fl : Nat)] 27 25)
  have hc3 : Below w.heap.size w ((x2.alloc (.cells #[.int .u64 (ph : Nat), .int .u64 (pl : Nat), .int .i64 (k : Nat)] 27)).alloc (.cells #[.int .u64 (ph : Nat), .int .u64 (fl : Nat)] 25)) := (hc2.alloc hc2.size _).alloc (hc2.alloc hc2.size (.cells #[.int .u64 (ph : Nat), .int .u64 (pl : Nat), .int .i64 (k : Nat)] 27)).size _
  go_wp2
  go_region
  go_wp2_with fail
  refine (HOq.out _).mono ?_
  rintro e x4 ⟨rfl, hb4⟩
  have HB4 := Lib.hid (HB3.out.keep (drew_c hb4))
  have hc4 := below_chain7 hc3 (drew_c hb4)
  generalize x2.heap.size + 1 = gf at *
  generalize x2.heap.size = gp at *
  clear HB3 hb4 hc3 hc2
  obtain ⟨lt_gp_4, c0_gp_4, c1_gp_4, c2_gp_4⟩ := HB4.out.r3 (b := gp) (by repeat first | exact .head _ | apply List.Mem.tail)
  obtain ⟨lt_gf_4, c0_gf_4, c1_gf_4⟩ := HB4.out.r2 (b := gf) (by repeat first | exact .head _ | apply List.Mem.tail)
  have HN5 := Lib.hid (HB4.out.new #[.int .u64 (ph : Nat), .int .u64 (pl : Nat), .int .i64 ((k : Int) + 1)] 27)
  have hd5 := hc4.alloc hc4.size (.cells #[.int .u64 (ph : Nat), .int .u64 (pl : Nat), .int .i64 ((k : Int) + 1)] 27)
  go_wp2_with fail
  refine (HOr.out _).mono ?_
  rintro e x5 ⟨rfl, hb5⟩
  have HB5 := Lib.hid (HN5.out.keep hb5)
  have hc5 := below_chain7 hd5 hb5
  generalize x4.heap.size = gq at *
  clear lt_gp_4 c0_gp_4 c1_gp_4 c2_gp_4 lt_gf_4 c0_gf_4 c1_gf_4
  clear HN5 HB4 hb5 hd5 hc4
  obtain ⟨lt_gp_5, c0_gp_5, c1_gp_5, c2_gp_5⟩ := HB5.out.r3 (b := gp) (by repeat first | exact .head _ | apply List.Mem.tail)
  obtain ⟨lt_gf_5, c0_gf_5, c1_gf_5⟩ := HB5.out.r2 (b := gf) (by repeat first | exact .head _ | apply List.Mem.tail)
  obtain ⟨lt_gq_5, c0_gq_5, c1_gq_5, c2_gq_5⟩ := HB5.out.r3 (b := gq) (by repeat first | exact .head _ | apply List.Mem.tail)
  have HN6 := Lib.hid (HB5.out.new #[.int .u64 (ph : Nat), .int .u64 (fl : Nat), .int .i64 ((k : Int) + 1)] 27)
  have hd6 := hc5.alloc hc5.size (.cells #[.int .u64 (ph : Nat), .int .u64 (fl : Nat), .int .i64 ((k : Int) + 1)] 27)
  go_wp2_with fail
  refine (HCpq.out _).mono ?_
  rintro e x6 ⟨rfl, hb6⟩
  have HB6 := Lib.hid (HN6.out.keep hb6)
  have hc6 := below_chain7 hd6 hb6
  generalize x5.heap.size = gr at *
  clear lt_gp_5 c0_gp_5 c1_gp_5 c2_gp_5 lt_gf_5 c0_gf_5 c1_gf_5 lt_gq_5 c0_gq_5 c1_gq_5 c2_gq_5
  clear HN6 HB5 hb6 hd6 hc5
  obtain ⟨lt_gp_6, c0_gp_6, c1_gp_6, c2_gp_6⟩ := HB6.out.r3 (b := gp) (by repeat first | exact .head _ | apply List.Mem.tail)
  obtain ⟨lt_gf_6, c0_gf_6, c1_gf_6⟩ := HB6.out.r2 (b := gf) (by repeat first | exact .head _ | apply List.Mem.tail)
  obtain ⟨lt_gq_6, c0_gq_6, c1_gq_6, c2_gq_6⟩ := HB6.out.r3 (b := gq) (by repeat first | exact .head _ | apply List.Mem.tail)
  obtain ⟨lt_gr_6, c0_gr_6, c1_gr_6, c2_gr_6⟩ := HB6.out.r3 (b := gr) (by repeat first | exact .head _ | apply List.Mem.tail)
  go_wp2_with fail
  refine (HCpr.out _).mono ?_
  rintro e x7 ⟨rfl, hb7⟩
  have HB7 := Lib.hid (HB6.out.keep hb7)
  have hc7 := below_chain7 hc6 hb7
  clear lt_gp_6 c0_gp_6 c1_gp_6 c2_gp_6 lt_gf_6 c0_gf_6 c1_gf_6 lt_gq_6 c0_gq_6 c1_gq_6 c2_gq_6 lt_gr_6 c0_gr_6 c1_gr_6 c2_gr_6
  clear HB6 hb7 hc6
  obtain ⟨lt_gp_7, c0_gp_7, c1_gp_7, c2_gp_7⟩ := HB7.out.r3 (b := gp) (by repeat first | exact .head _ | apply List.Mem.tail)
  obtain ⟨lt_gf_7, c0_gf_7, c1_gf_7⟩ := HB7.out.r2 (b := gf) (by repeat first | exact .head _ | apply List.Mem.tail)
  obtain ⟨lt_gq_7, c0_gq_7, c1_gq_7, c2_gq_7⟩ := HB7.out.r3 (b := gq) (by repeat first | exact .head _ | apply List.Mem.tail)
  obtain ⟨lt_gr_7, c0_gr_7, c1_gr_7, c2_gr_7⟩ := HB7.out.r3 (b := gr) (by repeat first | exact .head _ | apply List.Mem.tail)
  go_wp2_with fail
  refine (HCqr.out _).mono ?_
  rintro e x8 ⟨rfl, hb8⟩
  have HB8 := Lib.hid (HB7.out.keep hb8)
  have hc8 := below_chain7 hc7 hb8
  clear lt_gp_7 c0_gp_7 c1_gp_7 c2_gp_7 lt_gf_7 c0_gf_7 c1_gf_7 lt_gq_7 c0_gq_7 c1_gq_7 c2_gq_7 lt_gr_7 c0_gr_7 c1_gr_7 c2_gr_7
  clear HB7 hb8 hc7
  obtain ⟨lt_gp_8, c0_gp_8, c1_gp_8, c2_gp_8⟩ := HB8.out.r3 (b := gp) (by repeat first | exact .head _ | apply List.Mem.tail)
  obtain ⟨lt_gf_8, c0_gf_8, c1_gf_8⟩ := HB8.out.r2 (b := gf) (by repeat first | exact .head _ | apply List.Mem.tail)
  obtain ⟨lt_gq_8, c0_gq_8, c1_gq_8, c2_gq_8⟩ := HB8.out.r3 (b := gq) (by repeat first | exact .head _ | apply List.Mem.tail)
  obtain ⟨lt_gr_8, c0_gr_8, c1_gr_8, c2_gr_8⟩ := HB8.out.r3 (b := gr) (by repeat first | exact .head _ | apply List.Mem.tail)
  go_wp2_with fail
  refine (HCrq.out _).mono ?_
  rintro e x9 ⟨rfl, hb9⟩
  have HB9 := Lib.hid (HB8.out.keep hb9)
  have hc9 := below_chain7 hc8 hb9
  clear lt_gp_8 c0_gp_8 c1_gp_8 c2_gp_8 lt_gf_8 c0_gf_8 c1_gf_8 lt_gq_8 c0_gq_8 c1_gq_8 c2_gq_8 lt_gr_8 c0_gr_8 c1_gr_8 c2_gr_8
  clear HB8 hb9 hc8
  obtain ⟨lt_gp_9, c0_gp_9, c1_gp_9, c2_gp_9⟩ := HB9.out.r3 (b := gp) (by repeat first | exact .head _ | apply List.Mem.tail)
  obtain ⟨lt_gf_9, c0_gf_9, c1_gf_9⟩ := HB9.out.r2 (b := gf) (by repeat first | exact .head _ | apply List.Mem.tail)
  obtain ⟨lt_gq_9, c0_gq_9, c1_gq_9, c2_gq_9⟩ := HB9.out.r3 (b := gq) (by repeat first | exact .head _ | apply List.Mem.tail)
  obtain ⟨lt_gr_9, c0_gr_9, c1_gr_9, c2_gr_9⟩ := HB9.out.r3 (b := gr) (by repeat first | exact .head _ | apply List.Mem.tail)
  go_wp2_with fail
  refine (HBq.out _).mono ?_
  rintro e x10 ⟨rfl, hb10⟩
  have HB10 := Lib.hid (HB9.out.keep hb10)
  have hc10 := below_chain7 hc9 hb10
  clear lt_gp_9 c0_gp_9 c1_gp_9 c2_gp_9 lt_gf_9 c0_gf_9 c1_gf_9 lt_gq_9 c0_gq_9 c1_gq_9 c2_gq_9 lt_gr_9 c0_gr_9 c1_gr_9 c2_gr_9
  clear HB9 hb10 hc9
  obtain ⟨lt_gp_10, c0_gp_10, c1_gp_10, c2_gp_10⟩ := HB10.out.r3 (b := gp) (by repeat first | exact .head _ | apply List.Mem.tail)
  obtain ⟨lt_gf_10, c0_gf_10, c1_gf_10⟩ := HB10.out.r2 (b := gf) (by repeat first | exact .head _ | apply List.Mem.tail)
  obtain ⟨lt_gq_10, c0_gq_10, c1_gq_10, c2_gq_10⟩ := HB10.out.r3 (b := gq) (by repeat first | exact .head _ | apply List.Mem.tail)
  obtain ⟨lt_gr_10, c0_gr_10, c1_gr_10, c2_gr_10⟩ := HB10.out.r3 (b := gr) (by repeat first | exact .head _ | apply List.Mem.tail)
  go_wp2_with fail
  refine (HBr.out _).mono ?_
  rintro e x11 ⟨rfl, hb11⟩
  have HB11 := Lib.hid (HB10.out.keep hb11)
  have hc11 := below_chain7 hc10 hb11
  clear lt_gp_10 c0_gp_10 c1_gp_10 c2_gp_10 lt_gf_10 c0_gf_10 c1_gf_10 lt_gq_10 c0_gq_10 c1_gq_10 c2_gq_10 lt_gr_10 c0_gr_10 c1_gr_10 c2_gr_10
  clear HB10 hb11 hc10
  obtain ⟨lt_gp_11, c0_gp_11, c1_gp_11, c2_gp_11⟩ := HB11.out.r3 (b := gp) (by repeat first | exact .head _ | apply List.Mem.tail)
  obtain ⟨lt_gf_11, c0_gf_11, c1_gf_11⟩ := HB11.out.r2 (b := gf) (by repeat first | exact .head _ | apply List.Mem.tail)
  obtain ⟨lt_gq_11, c0_gq_11, c1_gq_11, c2_gq_11⟩ := HB11.out.r3 (b := gq) (by repeat first | exact .head _ | apply List.Mem.tail)
  obtain ⟨lt_gr_11, c0_gr_11, c1_gr_11, c2_gr_11⟩ := HB11.out.r3 (b := gr) (by repeat first | exact .head _ | apply List.Mem.tail)
  have HNL := Lib.hid (HB11.out.new #[.int .u64 (hi : Nat), .int .u64 (lo : Nat), .int .u64 (oh : Nat), .int .u64 (ol : Nat), .int .u64 (ph : Nat), .int .u64 (fl : Nat)] 25)
  have hcL := hc11.alloc hc11.size (.cells #[.int .u64 (hi : Nat), .int .u64 (lo : Nat), .int .u64 (oh : Nat), .int .u64 (ol : Nat), .int .u64 (ph : Nat), .int .u64 (fl : Nat)] 25)
  go_wp2
  generalize x11.heap.size = gs at *
  clear lt_gp_11 c0_gp_11 c1_gp_11 c2_gp_11 lt_gf_11 c0_gf_11 c1_gf_11 lt_gq_11 c0_gq_11 c1_gq_11 c2_gq_11 lt_gr_11 c0_gr_11 c1_gr_11 c2_gr_11
  clear HB11 hc11
  go_loopw [129] (fun x wr => ∃ j : Nat, j ≤ 3 ∧ x = .int .i64 j ∧ Hid (Blks [(gs, #[.int .u64 (hi : Nat), .int .u64 (lo : Nat), .int .u64 (oh : Nat), .int .u64 (ol : Nat), .int .u64 (ph : Nat), .int .u64 (fl : Nat)], 25), (gr, #[.int .u64 (ph : Nat), .int .u64 (fl : Nat), .int .i64 ((k : Int) + 1)], 27), (gq, #[.int .u64 (ph : Nat), .int .u64 (pl : Nat), .int .i64 ((k : Int) + 1)], 27), (gf, #[.int .u64 (ph : Nat), .int .u64 (fl : Nat)], 25), (gp, #[.int .u64 (ph : Nat), .int .u64 (pl : Nat), .int .i64 (k : Nat)], 27)] wr) ∧ Below w.heap.size w wr) (fun x _ => 3 - (intOf x).toNat)
  case atStart => exact ⟨0, by omega, rfl, HNL.out, hcL⟩
  case round =>
    clear HNL hcL
    obtain ⟨j, hj, rfl, HB, hcr⟩ := hrel
    by_cases hlt : j < 3
    · rcases (show j = 0 ∨ j = 1 ∨ j = 2 from by omega) with rfl | rfl | rfl
      · have s0 : wr.cell? ⟨gs, 0, none⟩ = some (.int .u64 (hi : Nat)) := cell_row (HB.out _ (.head _)) 0
        have s1 : wr.cell? ⟨gs, 1, none⟩ = some (.int .u64 (lo : Nat)) := cell_row (HB.out _ (.head _)) 1
        have hgs := HB.out.lt (.head _)
        obtain ⟨hp, hq, hr, ⟨e1, e2⟩, HP', HQ', HR'⟩ := HS.out hi lo b1 b2
        have HP := Lib.hid HP'
        have HQ := Lib.hid HQ'
        have HR := Lib.hid HR'
        have HY := Lib.hid (HB.out.new #[.int .u64 (hi : Nat), .int .u64 (lo : Nat)] 25)
        have hcy := hcr.alloc hcr.size (.cells #[.int .u64 (hi : Nat), .int .u64 (lo : Nat)] 25)
        clear HP' HQ' HR'
        rw [show ((0 : Nat) : Int) = 0 from rfl]
        go_wp2
        generalize wr.alloc (.cells #[.int .u64 (hi : Nat), .int .u64 (lo : Nat)] 25) = y at *
        generalize wr.heap.size = ga at *
        have HK : Hid (∀ W, Below y.heap.size y W → (fun W => ((W.cell? ⟨gp, 0, none⟩ = some (.int .u64 (ph : Nat)) ∧ W.cell? ⟨gp, 1, none⟩ = some (.int .u64 (pl : Nat)) ∧ W.cell? ⟨gp, 2, none⟩ = some (.int .i64 (k : Nat))) ∧ (W.cell? ⟨gq, 0, none⟩ = some (.int .u64 (ph : Nat)) ∧ W.cell? ⟨gq, 1, none⟩ = some (.int .u64 (pl : Nat)) ∧ W.cell? ⟨gq, 2, none⟩ = some (.int .i64 ((k : Int) + 1))) ∧ (W.cell? ⟨gr, 0, none⟩ = some (.int .u64 (ph : Nat)) ∧ W.cell? ⟨gr, 1, none⟩ = some (.int .u64 (fl : Nat)) ∧ W.cell? ⟨gr, 2, none⟩ = some (.int .i64 ((k : Int) + 1)))) ∧ W.cell? ⟨ga, 0, none⟩ = some (.int .u64 (hi : Nat)) ∧ W.cell? ⟨ga, 1, none⟩ = some (.int .u64 (lo : Nat))) W) := fun W hW => by
          have h := HY.out.keep hW
          exact ⟨⟨(h.r3 (b := gp) (by repeat first | exact .head _ | apply List.Mem.tail)).2, (h.r3 (b := gq) (by repeat first | exact .head _ | apply List.Mem.tail)).2, (h.r3 (b := gr) (by repeat first | exact .head _ | apply List.Mem.tail)).2⟩, (h.r2 (b := ga) (.head _)).2⟩
        clear s0 s1 hgs
        cases hq with
        | true =>
          obtain rfl : hr = false := by simpa using e2
          obtain rfl : hp = true := by simpa using e1
          clear e1 e2
          refine wp_region_held_drew (S := fun W => ((W.cell? ⟨gp, 0, none⟩ = some (.int .u64 (ph : Nat)) ∧ W.cell? ⟨gp, 1, none⟩ = some (.int .u64 (pl : Nat)) ∧ W.cell? ⟨gp, 2, none⟩ = some (.int .i64 (k : Nat))) ∧ (W.cell? ⟨gq, 0, none⟩ = some (.int .u64 (ph : Nat)) ∧ W.cell? ⟨gq, 1, none⟩ = some (.int .u64 (pl : Nat)) ∧ W.cell? ⟨gq, 2, none⟩ = some (.int .i64 ((k : Int) + 1))) ∧ (W.cell? ⟨gr, 0, none⟩ = some (.int .u64 (ph : Nat)) ∧ W.cell? ⟨gr, 1, none⟩ = some (.int .u64 (fl : Nat)) ∧ W.cell? ⟨gr, 2, none⟩ = some (.int .i64 ((k : Int) + 1)))) ∧ W.cell? ⟨ga, 0, none⟩ = some (.int .u64 (hi : Nat)) ∧ W.cell? ⟨ga, 1, none⟩ = some (.int .u64 (lo : Nat))) (by kernel_rfl) ?_ (fun hHeld => ?_)
          · exact HK.out _ (Below.refl _ _).drew
          refine wpAnyH_take (i := 0) (oi := ⟨some 133, _, _, _, _, _⟩) (v := ?_) rfl (by kernel_rfl) (by kernel_rfl) (by kernel_rfl) (fun _ _ _ h => h) (Or.inl ⟨by rfl, ?_⟩) hHeld ?_
          rotate_left
          · intro w hSw
            (try dsimp only at hSw)
            go_simp
            try with_reducible rfl
          try simp only [Act.put, List.setIfInBounds_toArray, List.set_cons_zero, List.set_cons_succ]
          refine wpAnyH_take (i := 1) (oi := ⟨some 134, _, _, _, _, _⟩) (v := ?_) rfl (by kernel_rfl) (by kernel_rfl) (by kernel_rfl) (fun _ _ _ h => h) (Or.inl ⟨by rfl, ?_⟩) hHeld ?_
          rotate_left
          · intro w hSw
            (try dsimp only at hSw)
            go_simp
            try with_reducible rfl
          try simp only [Act.put, List.setIfInBounds_toArray, List.set_cons_zero, List.set_cons_succ]
          refine wpAnyH_take (i := 2) (oi := ⟨some 135, _, _, _, _, _⟩) (v := ?_) rfl (by kernel_rfl) (by kernel_rfl) (by kernel_rfl) (fun _ _ _ h => h) (Or.inl ⟨by rfl, ?_⟩) hHeld ?_
          rotate_left
          · intro w hSw
            (try dsimp only at hSw)
            go_simp
            try with_reducible rfl
          try simp only [Act.put, List.setIfInBounds_toArray, List.set_cons_zero, List.set_cons_succ]
          refine wpAnyH_take (i := 4) (oi := ⟨some 137, _, _, _, _, _⟩) (v := ?_) rfl (by kernel_rfl) (by kernel_rfl) (by kernel_rfl) (fun _ _ _ h => h) (Or.inl ⟨by rfl, ?_⟩) hHeld ?_
          rotate_left
          · intro w hSw
            (try dsimp only at hSw)
            go_simp
            try with_reducible rfl
          try simp only [Act.put, List.setIfInBounds_toArray, List.set_cons_zero, List.set_cons_succ]
          refine wpAnyH_take (i := 5) (oi := ⟨some 138, _, _, _, _, _⟩) (v := ?_) rfl (by kernel_rfl) (by kernel_rfl) (by kernel_rfl) (fun _ _ _ h => h) (Or.inl ⟨by rfl, ?_⟩) hHeld ?_
          rotate_left
          · intro w hSw
            (try dsimp only at hSw)
            go_simp
            try with_reducible rfl
          try simp only [Act.put, List.setIfInBounds_toArray, List.set_cons_zero, List.set_cons_succ]
          refine wpAnyH_take (i := 6) (oi := ⟨some 139, _, _, _, _, _⟩) (v := ?_) rfl (by kernel_rfl) (by kernel_rfl) (by kernel_rfl) (fun _ _ _ h => h) (Or.inl ⟨by rfl, ?_⟩) hHeld ?_
          rotate_left
          · intro w hSw
            (try dsimp only at hSw)
            go_simp
            try with_reducible rfl
          try simp only [Act.put, List.setIfInBounds_toArray, List.set_cons_zero, List.set_cons_succ]
          refine wpAnyH_ready (rs := [3]) (by kernel_rfl) (by simp) ?_
          refine AllReadyH.cons (o := ⟨some 136, _, _, _, _, _⟩) rfl (fun K hK => ?_) AllReadyH.nil
          go_simp
          go_at_call 8
          refine (HP.out _).mono ?_
          rintro e y1 ⟨rfl, hy1⟩
          (try go_wp2_with fail)
          refine hK.out _ _ ?_ (fun hHeld1 => ?_)
          · exact HK.out _ (drew_c hy1)
          clear hK K
          try simp only [Act.put, List.setIfInBounds_toArray, List.set_cons_zero, List.set_cons_succ]
          refine wpAnyH_ready (rs := [7]) (by kernel_rfl) (by simp) ?_
          refine AllReadyH.cons (o := ⟨some 140, _, _, _, _, _⟩) rfl (fun K hK => ?_) AllReadyH.nil
          go_simp
          go_at_call 8
          refine (HQ.out _).mono ?_
          rintro e y2 ⟨rfl, hy2⟩
          (try go_wp2_with fail)
          refine hK.out _ _ ?_ (fun hHeld2 => ?_)
          · exact HK.out _ (below_chain7 (drew_c hy1) hy2)
          clear hK K
          try simp only [Act.put, List.setIfInBounds_toArray, List.set_cons_zero, List.set_cons_succ]
          refine wpAnyH_take (i := 8) (oi := ⟨some 141, _, _, _, _, _⟩) (v := ?_) rfl (by kernel_rfl) (by kernel_rfl) (by kernel_rfl) (fun _ _ _ h => h) (Or.inl ⟨by rfl, ?_⟩) hHeld2 ?_
          rotate_left
          · intro w hSw
            (try dsimp only at hSw)
            go_simp
            try with_reducible rfl
          try simp only [Act.put, List.setIfInBounds_toArray, List.set_cons_zero, List.set_cons_succ]
          refine wpAnyH_take (i := 9) (oi := ⟨some 142, _, _, _, _, _⟩) (v := undef) rfl (by kernel_rfl) (by kernel_rfl) (by kernel_rfl) (fun _ _ _ h => h) (Or.inr ⟨by rfl, rfl⟩) hHeld2 ?_
          try simp only [Act.put, List.setIfInBounds_toArray, List.set_cons_zero, List.set_cons_succ]
          refine wpAnyH_take (i := 10) (oi := ⟨some 143, _, _, _, _, _⟩) (v := undef) rfl (by kernel_rfl) (by kernel_rfl) (by kernel_rfl) (fun _ _ _ h => h) (Or.inr ⟨by rfl, rfl⟩) hHeld2 ?_
          try simp only [Act.put, List.setIfInBounds_toArray, List.set_cons_zero, List.set_cons_succ]
          refine wpAnyH_take (i := 11) (oi := ⟨some 144, _, _, _, _, _⟩) (v := undef) rfl (by kernel_rfl) (by kernel_rfl) (by kernel_rfl) (fun _ _ _ h => h) (Or.inr ⟨by rfl, rfl⟩) hHeld2 ?_
          try simp only [Act.put, List.setIfInBounds_toArray, List.set_cons_zero, List.set_cons_succ]
          refine wpAnyH_take (i := 12) (oi := ⟨some 145, _, _, _, _, _⟩) (v := undef) rfl (by kernel_rfl) (by kernel_rfl) (by kernel_rfl) (fun _ _ _ h => h) (Or.inr ⟨by rfl, rfl⟩) hHeld2 ?_
          try simp only [Act.put, List.setIfInBounds_toArray, List.set_cons_zero, List.set_cons_succ]
          refine wpAnyH_take (i := 13) (oi := ⟨some 146, _, _, _, _, _⟩) (v := ?_) rfl (by kernel_rfl) (by kernel_rfl) (by kernel_rfl) (fun _ _ _ h => h) (Or.inl ⟨by rfl, ?_⟩) hHeld2 ?_
          rotate_left
          · intro w hSw
            (try dsimp only at hSw)
            go_simp
            try with_reducible rfl
          try simp only [Act.put, List.setIfInBounds_toArray, List.set_cons_zero, List.set_cons_succ]
          refine wpAnyH_take (i := 14) (oi := ⟨some 147, _, _, _, _, _⟩) (v := ?_) rfl (by kernel_rfl) (by kernel_rfl) (by kernel_rfl) (fun _ _ _ h => h) (Or.inl ⟨by rfl, ?_⟩) hHeld2 ?_
          rotate_left
          · intro w hSw
            (try dsimp only at hSw)
            go_simp
            try with_reducible rfl
          try simp only [Act.put, List.setIfInBounds_toArray, List.set_cons_zero, List.set_cons_succ]
          refine wpAnyH_take (i := 15) (oi := ⟨some 148, _, _, _, _, _⟩) (v := ?_) rfl (by kernel_rfl) (by kernel_rfl) (by kernel_rfl) (fun _ _ _ h => h) (Or.inl ⟨by rfl, ?_⟩) hHeld2 ?_
          rotate_left
          · intro w hSw
            (try dsimp only at hSw)
            go_simp
            try with_reducible rfl
          try simp only [Act.put, List.setIfInBounds_toArray, List.set_cons_zero, List.set_cons_succ]
          refine wpAnyH_take (i := 16) (oi := ⟨some 149, _, _, _, _, _⟩) (v := ?_) rfl (by kernel_rfl) (by kernel_rfl) (by kernel_rfl) (fun _ _ _ h => h) (Or.inl ⟨by rfl, ?_⟩) hHeld2 ?_
          rotate_left
          · intro w hSw
            (try dsimp only at hSw)
            go_simp
            try with_reducible rfl
          try simp only [Act.put, List.setIfInBounds_toArray, List.set_cons_zero, List.set_cons_succ]
          refine wpAnyH_take (i := 17) (oi := ⟨some 150, _, _, _, _, _⟩) (v := ?_) rfl (by kernel_rfl) (by kernel_rfl) (by kernel_rfl) (fun _ _ _ h => h) (Or.inl ⟨by rfl, ?_⟩) hHeld2 ?_
          rotate_left
          · intro w hSw
            (try dsimp only at hSw)
            go_simp
            try with_reducible rfl
          try simp only [Act.put, List.setIfInBounds_toArray, List.set_cons_zero, List.set_cons_succ]
          refine wpAnyH_take (i := 18) (oi := ⟨some 151, _, _, _, _, _⟩) (v := ?_) rfl (by kernel_rfl) (by kernel_rfl) (by kernel_rfl) (fun _ _ _ h => h) (Or.inl ⟨by rfl, ?_⟩) hHeld2 ?_
          rotate_left
          · intro w hSw
            (try dsimp only at hSw)
            go_simp
            try with_reducible rfl
          try simp only [Act.put, List.setIfInBounds_toArray, List.set_cons_zero, List.set_cons_succ]
          refine wpAnyH_ready (rs := [19]) (by kernel_rfl) (by simp) ?_
          refine AllReadyH.cons (o := ⟨some 152, _, _, _, _, _⟩) rfl (fun K hK => ?_) AllReadyH.nil
          go_simp
          go_at_call 8
          refine (HQ.out _).mono ?_
          rintro e y3 ⟨rfl, hy3⟩
          (try go_wp2_with fail)
          refine hK.out _ _ ?_ (fun hHeld3 => ?_)
          · exact HK.out _ (below_chain7 (below_chain7 (drew_c hy1) hy2) hy3)
          clear hK K
          try simp only [Act.put, List.setIfInBounds_toArray, List.set_cons_zero, List.set_cons_succ]
          refine wpAnyH_take (i := 20) (oi := ⟨some 153, _, _, _, _, _⟩) (v := ?_) rfl (by kernel_rfl) (by kernel_rfl) (by kernel_rfl) (fun _ _ _ h => h) (Or.inl ⟨by rfl, ?_⟩) hHeld3 ?_
          rotate_left
          · intro w hSw
            (try dsimp only at hSw)
            go_simp
            try with_reducible rfl
          try simp only [Act.put, List.setIfInBounds_toArray, List.set_cons_zero, List.set_cons_succ]
          refine wpAnyH_take (i := 21) (oi := ⟨some 154, _, _, _, _, _⟩) (v := ?_) rfl (by kernel_rfl) (by kernel_rfl) (by kernel_rfl) (fun _ _ _ h => h) (Or.inl ⟨by rfl, ?_⟩) hHeld3 ?_
          rotate_left
          · intro w hSw
            (try dsimp only at hSw)
            go_simp
            try with_reducible rfl
          try simp only [Act.put, List.setIfInBounds_toArray, List.set_cons_zero, List.set_cons_succ]
          refine wpAnyH_take (i := 22) (oi := ⟨some 155, _, _, _, _, _⟩) (v := ?_) rfl (by kernel_rfl) (by kernel_rfl) (by kernel_rfl) (fun _ _ _ h => h) (Or.inl ⟨by rfl, ?_⟩) hHeld3 ?_
          rotate_left
          · intro w hSw
            (try dsimp only at hSw)
            go_simp
            try with_reducible rfl
          try simp only [Act.put, List.setIfInBounds_toArray, List.set_cons_zero, List.set_cons_succ]
          refine wpAnyH_take (i := 23) (oi := ⟨some 156, _, _, _, _, _⟩) (v := ?_) rfl (by kernel_rfl) (by kernel_rfl) (by kernel_rfl) (fun _ _ _ h => h) (Or.inl ⟨by rfl, ?_⟩) hHeld3 ?_
          rotate_left
          · intro w hSw
            (try dsimp only at hSw)
            go_simp
            try with_reducible rfl
          try simp only [Act.put, List.setIfInBounds_toArray, List.set_cons_zero, List.set_cons_succ]
          refine wpAnyH_ready (rs := [24]) (by kernel_rfl) (by simp) ?_
          refine AllReadyH.cons (o := ⟨some 157, _, _, _, _, _⟩) rfl (fun K hK => ?_) AllReadyH.nil
          go_simp
          go_at_call 8
          refine (HR.out _).mono ?_
          rintro e y4 ⟨rfl, hy4⟩
          (try go_wp2_with fail)
          refine hK.out _ _ ?_ (fun hHeld4 => ?_)
          · exact HK.out _ (below_chain7 (below_chain7 (below_chain7 (drew_c hy1) hy2) hy3) hy4)
          clear hK K
          try simp only [Act.put, List.setIfInBounds_toArray, List.set_cons_zero, List.set_cons_succ]
          refine wpAnyH_take (i := 25) (oi := ⟨some 158, _, _, _, _, _⟩) (v := ?_) rfl (by kernel_rfl) (by kernel_rfl) (by kernel_rfl) (fun _ _ _ h => h) (Or.inl ⟨by rfl, ?_⟩) hHeld4 ?_
          rotate_left
          · intro w hSw
            (try dsimp only at hSw)
            go_simp
            try with_reducible rfl
          try simp only [Act.put, List.setIfInBounds_toArray, List.set_cons_zero, List.set_cons_succ]
          refine wpAnyH_take (i := 26) (oi := ⟨some 159, _, _, _, _, _⟩) (v := ?_) rfl (by kernel_rfl) (by kernel_rfl) (by kernel_rfl) (fun _ _ _ h => h) (Or.inl ⟨by rfl, ?_⟩) hHeld4 ?_
          rotate_left
          · intro w hSw
            (try dsimp only at hSw)
            go_simp
            try with_reducible rfl
          try simp only [Act.put, List.setIfInBounds_toArray, List.set_cons_zero, List.set_cons_succ]
          refine wpAnyH_done (by kernel_rfl) ?_ _
          go_wp2
          go_roundw
          case rel => exact ⟨1, by omega, by go_num, fun e he => HY.out.keep (below_chain7 (below_chain7 (below_chain7 (drew_c hy1) hy2) hy3) hy4) e (.tail _ he), below_chain7 hcy (below_chain7 (below_chain7 (below_chain7 (drew_c hy1) hy2) hy3) hy4)⟩
          case measure => simp [intOf]
        | false =>
          obtain rfl : hp = hr := by simpa using e1
          clear e1 e2
          cases hp with
          | true =>
            refine wp_region_held_drew (S := fun W => ((W.cell? ⟨gp, 0, none⟩ = some (.int .u64 (ph : Nat)) ∧ W.cell? ⟨gp, 1, none⟩ = some (.int .u64 (pl : Nat)) ∧ W.cell? ⟨gp, 2, none⟩ = some (.int .i64 (k : Nat))) ∧ (W.cell? ⟨gq, 0, none⟩ = some (.int .u64 (ph : Nat)) ∧ W.cell? ⟨gq, 1, none⟩ = some (.int .u64 (pl : Nat)) ∧ W.cell? ⟨gq, 2, none⟩ = some (.int .i64 ((k : Int) + 1))) ∧ (W.cell? ⟨gr, 0, none⟩ = some (.int .u64 (ph : Nat)) ∧ W.cell? ⟨gr, 1, none⟩ = some (.int .u64 (fl : Nat)) ∧ W.cell? ⟨gr, 2, none⟩ = some (.int .i64 ((k : Int) + 1)))) ∧ W.cell? ⟨ga, 0, none⟩ = some (.int .u64 (hi : Nat)) ∧ W.cell? ⟨ga, 1, none⟩ = some (.int .u64 (lo : Nat))) (by kernel_rfl) ?_ (fun hHeld => ?_)
            · exact HK.out _ (Below.refl _ _).drew
            refine wpAnyH_take (i := 0) (oi := ⟨some 133, _, _, _, _, _⟩) (v := ?_) rfl (by kernel_rfl) (by kernel_rfl) (by kernel_rfl) (fun _ _ _ h => h) (Or.inl ⟨by rfl, ?_⟩) hHeld ?_
            rotate_left
            · intro w hSw
              (try dsimp only at hSw)
              go_simp
              try with_reducible rfl
            try simp only [Act.put, List.setIfInBounds_toArray, List.set_cons_zero, List.set_cons_succ]
            refine wpAnyH_take (i := 1) (oi := ⟨some 134, _, _, _, _, _⟩) (v := ?_) rfl (by kernel_rfl) (by kernel_rfl) (by kernel_rfl) (fun _ _ _ h => h) (Or.inl ⟨by rfl, ?_⟩) hHeld ?_
            rotate_left
            · intro w hSw
              (try dsimp only at hSw)
              go_simp
              try with_reducible rfl
            try simp only [Act.put, List.setIfInBounds_toArray, List.set_cons_zero, List.set_cons_succ]
            refine wpAnyH_take (i := 2) (oi := ⟨some 135, _, _, _, _, _⟩) (v := ?_) rfl (by kernel_rfl) (by kernel_rfl) (by kernel_rfl) (fun _ _ _ h => h) (Or.inl ⟨by rfl, ?_⟩) hHeld ?_
            rotate_left
            · intro w hSw
              (try dsimp only at hSw)
              go_simp
              try with_reducible rfl
            try simp only [Act.put, List.setIfInBounds_toArray, List.set_cons_zero, List.set_cons_succ]
            refine wpAnyH_take (i := 4) (oi := ⟨some 137, _, _, _, _, _⟩) (v := ?_) rfl (by kernel_rfl) (by kernel_rfl) (by kernel_rfl) (fun _ _ _ h => h) (Or.inl ⟨by rfl, ?_⟩) hHeld ?_
            rotate_left
            · intro w hSw
              (try dsimp only at hSw)
              go_simp
              try with_reducible rfl
            try simp only [Act.put, List.setIfInBounds_toArray, List.set_cons_zero, List.set_cons_succ]
            refine wpAnyH_take (i := 5) (oi := ⟨some 138, _, _, _, _, _⟩) (v := ?_) rfl (by kernel_rfl) (by kernel_rfl) (by kernel_rfl) (fun _ _ _ h => h) (Or.inl ⟨by rfl, ?_⟩) hHeld ?_
            rotate_left
            · intro w hSw
              (try dsimp only at hSw)
              go_simp
              try with_reducible rfl
            try simp only [Act.put, List.setIfInBounds_toArray, List.set_cons_zero, List.set_cons_succ]
            refine wpAnyH_take (i := 6) (oi := ⟨some 139, _, _, _, _, _⟩) (v := ?_) rfl (by kernel_rfl) (by kernel_rfl) (by kernel_rfl) (fun _ _ _ h => h) (Or.inl ⟨by rfl, ?_⟩) hHeld ?_
            rotate_left
            · intro w hSw
              (try dsimp only at hSw)
              go_simp
              try with_reducible rfl
            try simp only [Act.put, List.setIfInBounds_toArray, List.set_cons_zero, List.set_cons_succ]
            refine wpAnyH_ready (rs := [3]) (by kernel_rfl) (by simp) ?_
            refine AllReadyH.cons (o := ⟨some 136, _, _, _, _, _⟩) rfl (fun K hK => ?_) AllReadyH.nil
            go_simp
            go_at_call 8
            refine (HP.out _).mono ?_
            rintro e y1 ⟨rfl, hy1⟩
            (try go_wp2_with fail)
            refine hK.out _ _ ?_ (fun hHeld1 => ?_)
            · exact HK.out _ (drew_c hy1)
            clear hK K
            try simp only [Act.put, List.setIfInBounds_toArray, List.set_cons_zero, List.set_cons_succ]
            refine wpAnyH_ready (rs := [7]) (by kernel_rfl) (by simp) ?_
            refine AllReadyH.cons (o := ⟨some 140, _, _, _, _, _⟩) rfl (fun K hK => ?_) AllReadyH.nil
            go_simp
            go_at_call 8
            refine (HQ.out _).mono ?_
            rintro e y2 ⟨rfl, hy2⟩
            (try go_wp2_with fail)
            refine hK.out _ _ ?_ (fun hHeld2 => ?_)
            · exact HK.out _ (below_chain7 (drew_c hy1) hy2)
            clear hK K
            try simp only [Act.put, List.setIfInBounds_toArray, List.set_cons_zero, List.set_cons_succ]
            refine wpAnyH_take (i := 8) (oi := ⟨some 141, _, _, _, _, _⟩) (v := ?_) rfl (by kernel_rfl) (by kernel_rfl) (by kernel_rfl) (fun _ _ _ h => h) (Or.inl ⟨by rfl, ?_⟩) hHeld2 ?_
            rotate_left
            · intro w hSw
              (try dsimp only at hSw)
              go_simp
              try with_reducible rfl
            try simp only [Act.put, List.setIfInBounds_toArray, List.set_cons_zero, List.set_cons_succ]
            refine wpAnyH_take (i := 9) (oi := ⟨some 142, _, _, _, _, _⟩) (v := ?_) rfl (by kernel_rfl) (by kernel_rfl) (by kernel_rfl) (fun _ _ _ h => h) (Or.inl ⟨by rfl, ?_⟩) hHeld2 ?_
            rotate_left
            · intro w hSw
              (try dsimp only at hSw)
              go_simp
              try with_reducible rfl
            try simp only [Act.put, List.setIfInBounds_toArray, List.set_cons_zero, List.set_cons_succ]
            refine wpAnyH_take (i := 10) (oi := ⟨some 143, _, _, _, _, _⟩) (v := ?_) rfl (by kernel_rfl) (by kernel_rfl) (by kernel_rfl) (fun _ _ _ h => h) (Or.inl ⟨by rfl, ?_⟩) hHeld2 ?_
            rotate_left
            · intro w hSw
              (try dsimp only at hSw)
              go_simp
              try with_reducible rfl
            try simp only [Act.put, List.setIfInBounds_toArray, List.set_cons_zero, List.set_cons_succ]
            refine wpAnyH_take (i := 11) (oi := ⟨some 144, _, _, _, _, _⟩) (v := ?_) rfl (by kernel_rfl) (by kernel_rfl) (by kernel_rfl) (fun _ _ _ h => h) (Or.inl ⟨by rfl, ?_⟩) hHeld2 ?_
            rotate_left
            · intro w hSw
              (try dsimp only at hSw)
              go_simp
              try with_reducible rfl
            try simp only [Act.put, List.setIfInBounds_toArray, List.set_cons_zero, List.set_cons_succ]
            refine wpAnyH_ready (rs := [12]) (by kernel_rfl) (by simp) ?_
            refine AllReadyH.cons (o := ⟨some 145, _, _, _, _, _⟩) rfl (fun K hK => ?_) AllReadyH.nil
            go_simp
            go_at_call 8
            refine (HR.out _).mono ?_
            rintro e y3 ⟨rfl, hy3⟩
            (try go_wp2_with fail)
            refine hK.out _ _ ?_ (fun hHeld3 => ?_)
            · exact HK.out _ (below_chain7 (below_chain7 (drew_c hy1) hy2) hy3)
            clear hK K
            try simp only [Act.put, List.setIfInBounds_toArray, List.set_cons_zero, List.set_cons_succ]
            refine wpAnyH_take (i := 13) (oi := ⟨some 146, _, _, _, _, _⟩) (v := ?_) rfl (by kernel_rfl) (by kernel_rfl) (by kernel_rfl) (fun _ _ _ h => h) (Or.inl ⟨by rfl, ?_⟩) hHeld3 ?_
            rotate_left
            · intro w hSw
              (try dsimp only at hSw)
              go_simp
              try with_reducible rfl
            try simp only [Act.put, List.setIfInBounds_toArray, List.set_cons_zero, List.set_cons_succ]
            refine wpAnyH_take (i := 14) (oi := ⟨some 147, _, _, _, _, _⟩) (v := ?_) rfl (by kernel_rfl) (by kernel_rfl) (by kernel_rfl) (fun _ _ _ h => h) (Or.inl ⟨by rfl, ?_⟩) hHeld3 ?_
            rotate_left
            · intro w hSw
              (try dsimp only at hSw)
              go_simp
              try with_reducible rfl
            try simp only [Act.put, List.setIfInBounds_toArray, List.set_cons_zero, List.set_cons_succ]
            refine wpAnyH_take (i := 15) (oi := ⟨some 148, _, _, _, _, _⟩) (v := ?_) rfl (by kernel_rfl) (by kernel_rfl) (by kernel_rfl) (fun _ _ _ h => h) (Or.inl ⟨by rfl, ?_⟩) hHeld3 ?_
            rotate_left
            · intro w hSw
              (try dsimp only at hSw)
              go_simp
              try with_reducible rfl
            try simp only [Act.put, List.setIfInBounds_toArray, List.set_cons_zero, List.set_cons_succ]
            refine wpAnyH_take (i := 16) (oi := ⟨some 149, _, _, _, _, _⟩) (v := ?_) rfl (by kernel_rfl) (by kernel_rfl) (by kernel_rfl) (fun _ _ _ h => h) (Or.inl ⟨by rfl, ?_⟩) hHeld3 ?_
            rotate_left
            · intro w hSw
              (try dsimp only at hSw)
              go_simp
              try with_reducible rfl
            try simp only [Act.put, List.setIfInBounds_toArray, List.set_cons_zero, List.set_cons_succ]
            refine wpAnyH_take (i := 17) (oi := ⟨some 150, _, _, _, _, _⟩) (v := ?_) rfl (by kernel_rfl) (by kernel_rfl) (by kernel_rfl) (fun _ _ _ h => h) (Or.inl ⟨by rfl, ?_⟩) hHeld3 ?_
            rotate_left
            · intro w hSw
              (try dsimp only at hSw)
              go_simp
              try with_reducible rfl
            try simp only [Act.put, List.setIfInBounds_toArray, List.set_cons_zero, List.set_cons_succ]
            refine wpAnyH_take (i := 18) (oi := ⟨some 151, _, _, _, _, _⟩) (v := ?_) rfl (by kernel_rfl) (by kernel_rfl) (by kernel_rfl) (fun _ _ _ h => h) (Or.inl ⟨by rfl, ?_⟩) hHeld3 ?_
            rotate_left
            · intro w hSw
              (try dsimp only at hSw)
              go_simp
              try with_reducible rfl
            try simp only [Act.put, List.setIfInBounds_toArray, List.set_cons_zero, List.set_cons_succ]
            refine wpAnyH_ready (rs := [19]) (by kernel_rfl) (by simp) ?_
            refine AllReadyH.cons (o := ⟨some 152, _, _, _, _, _⟩) rfl (fun K hK => ?_) AllReadyH.nil
            go_simp
            go_at_call 8
            refine (HQ.out _).mono ?_
            rintro e y4 ⟨rfl, hy4⟩
            (try go_wp2_with fail)
            refine hK.out _ _ ?_ (fun hHeld4 => ?_)
            · exact HK.out _ (below_chain7 (below_chain7 (below_chain7 (drew_c hy1) hy2) hy3) hy4)
            clear hK K
            try simp only [Act.put, List.setIfInBounds_toArray, List.set_cons_zero, List.set_cons_succ]
            refine wpAnyH_take (i := 20) (oi := ⟨some 153, _, _, _, _, _⟩) (v := ?_) rfl (by kernel_rfl) (by kernel_rfl) (by kernel_rfl) (fun _ _ _ h => h) (Or.inl ⟨by rfl, ?_⟩) hHeld4 ?_
            rotate_left
            · intro w hSw
              (try dsimp only at hSw)
              go_simp
              try with_reducible rfl
            try simp only [Act.put, List.setIfInBounds_toArray, List.set_cons_zero, List.set_cons_succ]
            refine wpAnyH_take (i := 21) (oi := ⟨some 154, _, _, _, _, _⟩) (v := undef) rfl (by kernel_rfl) (by kernel_rfl) (by kernel_rfl) (fun _ _ _ h => h) (Or.inr ⟨by rfl, rfl⟩) hHeld4 ?_
            try simp only [Act.put, List.setIfInBounds_toArray, List.set_cons_zero, List.set_cons_succ]
            refine wpAnyH_take (i := 22) (oi := ⟨some 155, _, _, _, _, _⟩) (v := undef) rfl (by kernel_rfl) (by kernel_rfl) (by kernel_rfl) (fun _ _ _ h => h) (Or.inr ⟨by rfl, rfl⟩) hHeld4 ?_
            try simp only [Act.put, List.setIfInBounds_toArray, List.set_cons_zero, List.set_cons_succ]
            refine wpAnyH_take (i := 23) (oi := ⟨some 156, _, _, _, _, _⟩) (v := undef) rfl (by kernel_rfl) (by kernel_rfl) (by kernel_rfl) (fun _ _ _ h => h) (Or.inr ⟨by rfl, rfl⟩) hHeld4 ?_
            try simp only [Act.put, List.setIfInBounds_toArray, List.set_cons_zero, List.set_cons_succ]
            refine wpAnyH_take (i := 24) (oi := ⟨some 157, _, _, _, _, _⟩) (v := undef) rfl (by kernel_rfl) (by kernel_rfl) (by kernel_rfl) (fun _ _ _ h => h) (Or.inr ⟨by rfl, rfl⟩) hHeld4 ?_
            try simp only [Act.put, List.setIfInBounds_toArray, List.set_cons_zero, List.set_cons_succ]
            refine wpAnyH_take (i := 25) (oi := ⟨some 158, _, _, _, _, _⟩) (v := ?_) rfl (by kernel_rfl) (by kernel_rfl) (by kernel_rfl) (fun _ _ _ h => h) (Or.inl ⟨by rfl, ?_⟩) hHeld4 ?_
            rotate_left
            · intro w hSw
              (try dsimp only at hSw)
              go_simp
              try with_reducible rfl
            try simp only [Act.put, List.setIfInBounds_toArray, List.set_cons_zero, List.set_cons_succ]
            refine wpAnyH_take (i := 26) (oi := ⟨some 159, _, _, _, _, _⟩) (v := ?_) rfl (by kernel_rfl) (by kernel_rfl) (by kernel_rfl) (fun _ _ _ h => h) (Or.inl ⟨by rfl, ?_⟩) hHeld4 ?_
            rotate_left
            · intro w hSw
              (try dsimp only at hSw)
              go_simp
              try with_reducible rfl
            try simp only [Act.put, List.setIfInBounds_toArray, List.set_cons_zero, List.set_cons_succ]
            refine wpAnyH_done (by kernel_rfl) ?_ _
            go_wp2
            go_roundw
            case rel => exact ⟨1, by omega, by go_num, fun e he => HY.out.keep (below_chain7 (below_chain7 (below_chain7 (drew_c hy1) hy2) hy3) hy4) e (.tail _ he), below_chain7 hcy (below_chain7 (below_chain7 (below_chain7 (drew_c hy1) hy2) hy3) hy4)⟩
            case measure => simp [intOf]
          | false =>
            refine wp_region_held_drew (S := fun W => ((W.cell? ⟨gp, 0, none⟩ = some (.int .u64 (ph : Nat)) ∧ W.cell? ⟨gp, 1, none⟩ = some (.int .u64 (pl : Nat)) ∧ W.cell? ⟨gp, 2, none⟩ = some (.int .i64 (k : Nat))) ∧ (W.cell? ⟨gq, 0, none⟩ = some (.int .u64 (ph : Nat)) ∧ W.cell? ⟨gq, 1, none⟩ = some (.int .u64 (pl : Nat)) ∧ W.cell? ⟨gq, 2, none⟩ = some (.int .i64 ((k : Int) + 1))) ∧ (W.cell? ⟨gr, 0, none⟩ = some (.int .u64 (ph : Nat)) ∧ W.cell? ⟨gr, 1, none⟩ = some (.int .u64 (fl : Nat)) ∧ W.cell? ⟨gr, 2, none⟩ = some (.int .i64 ((k : Int) + 1)))) ∧ W.cell? ⟨ga, 0, none⟩ = some (.int .u64 (hi : Nat)) ∧ W.cell? ⟨ga, 1, none⟩ = some (.int .u64 (lo : Nat))) (by kernel_rfl) ?_ (fun hHeld => ?_)
            · exact HK.out _ (Below.refl _ _).drew
            refine wpAnyH_take (i := 0) (oi := ⟨some 133, _, _, _, _, _⟩) (v := ?_) rfl (by kernel_rfl) (by kernel_rfl) (by kernel_rfl) (fun _ _ _ h => h) (Or.inl ⟨by rfl, ?_⟩) hHeld ?_
            rotate_left
            · intro w hSw
              (try dsimp only at hSw)
              go_simp
              try with_reducible rfl
            try simp only [Act.put, List.setIfInBounds_toArray, List.set_cons_zero, List.set_cons_succ]
            refine wpAnyH_take (i := 1) (oi := ⟨some 134, _, _, _, _, _⟩) (v := ?_) rfl (by kernel_rfl) (by kernel_rfl) (by kernel_rfl) (fun _ _ _ h => h) (Or.inl ⟨by rfl, ?_⟩) hHeld ?_
            rotate_left
            · intro w hSw
              (try dsimp only at hSw)
              go_simp
              try with_reducible rfl
            try simp only [Act.put, List.setIfInBounds_toArray, List.set_cons_zero, List.set_cons_succ]
            refine wpAnyH_take (i := 2) (oi := ⟨some 135, _, _, _, _, _⟩) (v := ?_) rfl (by kernel_rfl) (by kernel_rfl) (by kernel_rfl) (fun _ _ _ h => h) (Or.inl ⟨by rfl, ?_⟩) hHeld ?_
            rotate_left
            · intro w hSw
              (try dsimp only at hSw)
              go_simp
              try with_reducible rfl
            try simp only [Act.put, List.setIfInBounds_toArray, List.set_cons_zero, List.set_cons_succ]
            refine wpAnyH_take (i := 4) (oi := ⟨some 137, _, _, _, _, _⟩) (v := ?_) rfl (by kernel_rfl) (by kernel_rfl) (by kernel_rfl) (fun _ _ _ h => h) (Or.inl ⟨by rfl, ?_⟩) hHeld ?_
            rotate_left
            · intro w hSw
              (try dsimp only at hSw)
              go_simp
              try with_reducible rfl
            try simp only [Act.put, List.setIfInBounds_toArray, List.set_cons_zero, List.set_cons_succ]
            refine wpAnyH_take (i := 5) (oi := ⟨some 138, _, _, _, _, _⟩) (v := ?_) rfl (by kernel_rfl) (by kernel_rfl) (by kernel_rfl) (fun _ _ _ h => h) (Or.inl ⟨by rfl, ?_⟩) hHeld ?_
            rotate_left
            · intro w hSw
              (try dsimp only at hSw)
              go_simp
              try with_reducible rfl
            try simp only [Act.put, List.setIfInBounds_toArray, List.set_cons_zero, List.set_cons_succ]
            refine wpAnyH_take (i := 6) (oi := ⟨some 139, _, _, _, _, _⟩) (v := ?_) rfl (by kernel_rfl) (by kernel_rfl) (by kernel_rfl) (fun _ _ _ h => h) (Or.inl ⟨by rfl, ?_⟩) hHeld ?_
            rotate_left
            · intro w hSw
              (try dsimp only at hSw)
              go_simp
              try with_reducible rfl
            try simp only [Act.put, List.setIfInBounds_toArray, List.set_cons_zero, List.set_cons_succ]
            refine wpAnyH_ready (rs := [3]) (by kernel_rfl) (by simp) ?_
            refine AllReadyH.cons (o := ⟨some 136, _, _, _, _, _⟩) rfl (fun K hK => ?_) AllReadyH.nil
            go_simp
            go_at_call 8
            refine (HP.out _).mono ?_
            rintro e y1 ⟨rfl, hy1⟩
            (try go_wp2_with fail)
            refine hK.out _ _ ?_ (fun hHeld1 => ?_)
            · exact HK.out _ (drew_c hy1)
            clear hK K
            try simp only [Act.put, List.setIfInBounds_toArray, List.set_cons_zero, List.set_cons_succ]
            refine wpAnyH_ready (rs := [7]) (by kernel_rfl) (by simp) ?_
            refine AllReadyH.cons (o := ⟨some 140, _, _, _, _, _⟩) rfl (fun K hK => ?_) AllReadyH.nil
            go_simp
            go_at_call 8
            refine (HQ.out _).mono ?_
            rintro e y2 ⟨rfl, hy2⟩
            (try go_wp2_with fail)
            refine hK.out _ _ ?_ (fun hHeld2 => ?_)
            · exact HK.out _ (below_chain7 (drew_c hy1) hy2)
            clear hK K
            try simp only [Act.put, List.setIfInBounds_toArray, List.set_cons_zero, List.set_cons_succ]
            refine wpAnyH_take (i := 8) (oi := ⟨some 141, _, _, _, _, _⟩) (v := ?_) rfl (by kernel_rfl) (by kernel_rfl) (by kernel_rfl) (fun _ _ _ h => h) (Or.inl ⟨by rfl, ?_⟩) hHeld2 ?_
            rotate_left
            · intro w hSw
              (try dsimp only at hSw)
              go_simp
              try with_reducible rfl
            try simp only [Act.put, List.setIfInBounds_toArray, List.set_cons_zero, List.set_cons_succ]
            refine wpAnyH_take (i := 9) (oi := ⟨some 142, _, _, _, _, _⟩) (v := ?_) rfl (by kernel_rfl) (by kernel_rfl) (by kernel_rfl) (fun _ _ _ h => h) (Or.inl ⟨by rfl, ?_⟩) hHeld2 ?_
            rotate_left
            · intro w hSw
              (try dsimp only at hSw)
              go_simp
              try with_reducible rfl
            try simp only [Act.put, List.setIfInBounds_toArray, List.set_cons_zero, List.set_cons_succ]
            refine wpAnyH_take (i := 10) (oi := ⟨some 143, _, _, _, _, _⟩) (v := ?_) rfl (by kernel_rfl) (by kernel_rfl) (by kernel_rfl) (fun _ _ _ h => h) (Or.inl ⟨by rfl, ?_⟩) hHeld2 ?_
            rotate_left
            · intro w hSw
              (try dsimp only at hSw)
              go_simp
              try with_reducible rfl
            try simp only [Act.put, List.setIfInBounds_toArray, List.set_cons_zero, List.set_cons_succ]
            refine wpAnyH_take (i := 11) (oi := ⟨some 144, _, _, _, _, _⟩) (v := ?_) rfl (by kernel_rfl) (by kernel_rfl) (by kernel_rfl) (fun _ _ _ h => h) (Or.inl ⟨by rfl, ?_⟩) hHeld2 ?_
            rotate_left
            · intro w hSw
              (try dsimp only at hSw)
              go_simp
              try with_reducible rfl
            try simp only [Act.put, List.setIfInBounds_toArray, List.set_cons_zero, List.set_cons_succ]
            refine wpAnyH_ready (rs := [12]) (by kernel_rfl) (by simp) ?_
            refine AllReadyH.cons (o := ⟨some 145, _, _, _, _, _⟩) rfl (fun K hK => ?_) AllReadyH.nil
            go_simp
            go_at_call 8
            refine (HR.out _).mono ?_
            rintro e y3 ⟨rfl, hy3⟩
            (try go_wp2_with fail)
            refine hK.out _ _ ?_ (fun hHeld3 => ?_)
            · exact HK.out _ (below_chain7 (below_chain7 (drew_c hy1) hy2) hy3)
            clear hK K
            try simp only [Act.put, List.setIfInBounds_toArray, List.set_cons_zero, List.set_cons_succ]
            refine wpAnyH_take (i := 13) (oi := ⟨some 146, _, _, _, _, _⟩) (v := ?_) rfl (by kernel_rfl) (by kernel_rfl) (by kernel_rfl) (fun _ _ _ h => h) (Or.inl ⟨by rfl, ?_⟩) hHeld3 ?_
            rotate_left
            · intro w hSw
              (try dsimp only at hSw)
              go_simp
              try with_reducible rfl
            try simp only [Act.put, List.setIfInBounds_toArray, List.set_cons_zero, List.set_cons_succ]
            refine wpAnyH_take (i := 14) (oi := ⟨some 147, _, _, _, _, _⟩) (v := ?_) rfl (by kernel_rfl) (by kernel_rfl) (by kernel_rfl) (fun _ _ _ h => h) (Or.inl ⟨by rfl, ?_⟩) hHeld3 ?_
            rotate_left
            · intro w hSw
              (try dsimp only at hSw)
              go_simp
              try with_reducible rfl
            try simp only [Act.put, List.setIfInBounds_toArray, List.set_cons_zero, List.set_cons_succ]
            refine wpAnyH_take (i := 15) (oi := ⟨some 148, _, _, _, _, _⟩) (v := ?_) rfl (by kernel_rfl) (by kernel_rfl) (by kernel_rfl) (fun _ _ _ h => h) (Or.inl ⟨by rfl, ?_⟩) hHeld3 ?_
            rotate_left
            · intro w hSw
              (try dsimp only at hSw)
              go_simp
              try with_reducible rfl
            try simp only [Act.put, List.setIfInBounds_toArray, List.set_cons_zero, List.set_cons_succ]
            refine wpAnyH_take (i := 16) (oi := ⟨some 149, _, _, _, _, _⟩) (v := ?_) rfl (by kernel_rfl) (by kernel_rfl) (by kernel_rfl) (fun _ _ _ h => h) (Or.inl ⟨by rfl, ?_⟩) hHeld3 ?_
            rotate_left
            · intro w hSw
              (try dsimp only at hSw)
              go_simp
              try with_reducible rfl
            try simp only [Act.put, List.setIfInBounds_toArray, List.set_cons_zero, List.set_cons_succ]
            refine wpAnyH_take (i := 17) (oi := ⟨some 150, _, _, _, _, _⟩) (v := ?_) rfl (by kernel_rfl) (by kernel_rfl) (by kernel_rfl) (fun _ _ _ h => h) (Or.inl ⟨by rfl, ?_⟩) hHeld3 ?_
            rotate_left
            · intro w hSw
              (try dsimp only at hSw)
              go_simp
              try with_reducible rfl
            try simp only [Act.put, List.setIfInBounds_toArray, List.set_cons_zero, List.set_cons_succ]
            refine wpAnyH_take (i := 18) (oi := ⟨some 151, _, _, _, _, _⟩) (v := ?_) rfl (by kernel_rfl) (by kernel_rfl) (by kernel_rfl) (fun _ _ _ h => h) (Or.inl ⟨by rfl, ?_⟩) hHeld3 ?_
            rotate_left
            · intro w hSw
              (try dsimp only at hSw)
              go_simp
              try with_reducible rfl
            try simp only [Act.put, List.setIfInBounds_toArray, List.set_cons_zero, List.set_cons_succ]
            refine wpAnyH_ready (rs := [19]) (by kernel_rfl) (by simp) ?_
            refine AllReadyH.cons (o := ⟨some 152, _, _, _, _, _⟩) rfl (fun K hK => ?_) AllReadyH.nil
            go_simp
            go_at_call 8
            refine (HQ.out _).mono ?_
            rintro e y4 ⟨rfl, hy4⟩
            (try go_wp2_with fail)
            refine hK.out _ _ ?_ (fun hHeld4 => ?_)
            · exact HK.out _ (below_chain7 (below_chain7 (below_chain7 (drew_c hy1) hy2) hy3) hy4)
            clear hK K
            try simp only [Act.put, List.setIfInBounds_toArray, List.set_cons_zero, List.set_cons_succ]
            refine wpAnyH_take (i := 20) (oi := ⟨some 153, _, _, _, _, _⟩) (v := ?_) rfl (by kernel_rfl) (by kernel_rfl) (by kernel_rfl) (fun _ _ _ h => h) (Or.inl ⟨by rfl, ?_⟩) hHeld4 ?_
            rotate_left
            · intro w hSw
              (try dsimp only at hSw)
              go_simp
              try with_reducible rfl
            try simp only [Act.put, List.setIfInBounds_toArray, List.set_cons_zero, List.set_cons_succ]
            refine wpAnyH_take (i := 21) (oi := ⟨some 154, _, _, _, _, _⟩) (v := undef) rfl (by kernel_rfl) (by kernel_rfl) (by kernel_rfl) (fun _ _ _ h => h) (Or.inr ⟨by rfl, rfl⟩) hHeld4 ?_
            try simp only [Act.put, List.setIfInBounds_toArray, List.set_cons_zero, List.set_cons_succ]
            refine wpAnyH_take (i := 22) (oi := ⟨some 155, _, _, _, _, _⟩) (v := undef) rfl (by kernel_rfl) (by kernel_rfl) (by kernel_rfl) (fun _ _ _ h => h) (Or.inr ⟨by rfl, rfl⟩) hHeld4 ?_
            try simp only [Act.put, List.setIfInBounds_toArray, List.set_cons_zero, List.set_cons_succ]
            refine wpAnyH_take (i := 23) (oi := ⟨some 156, _, _, _, _, _⟩) (v := undef) rfl (by kernel_rfl) (by kernel_rfl) (by kernel_rfl) (fun _ _ _ h => h) (Or.inr ⟨by rfl, rfl⟩) hHeld4 ?_
            try simp only [Act.put, List.setIfInBounds_toArray, List.set_cons_zero, List.set_cons_succ]
            refine wpAnyH_take (i := 24) (oi := ⟨some 157, _, _, _, _, _⟩) (v := undef) rfl (by kernel_rfl) (by kernel_rfl) (by kernel_rfl) (fun _ _ _ h => h) (Or.inr ⟨by rfl, rfl⟩) hHeld4 ?_
            try simp only [Act.put, List.setIfInBounds_toArray, List.set_cons_zero, List.set_cons_succ]
            refine wpAnyH_take (i := 25) (oi := ⟨some 158, _, _, _, _, _⟩) (v := ?_) rfl (by kernel_rfl) (by kernel_rfl) (by kernel_rfl) (fun _ _ _ h => h) (Or.inl ⟨by rfl, ?_⟩) hHeld4 ?_
            rotate_left
            · intro w hSw
              (try dsimp only at hSw)
              go_simp
              try with_reducible rfl
            try simp only [Act.put, List.setIfInBounds_toArray, List.set_cons_zero, List.set_cons_succ]
            refine wpAnyH_take (i := 26) (oi := ⟨some 159, _, _, _, _, _⟩) (v := ?_) rfl (by kernel_rfl) (by kernel_rfl) (by kernel_rfl) (fun _ _ _ h => h) (Or.inl ⟨by rfl, ?_⟩) hHeld4 ?_
            rotate_left
            · intro w hSw
              (try dsimp only at hSw)
              go_simp
              try with_reducible rfl
            try simp only [Act.put, List.setIfInBounds_toArray, List.set_cons_zero, List.set_cons_succ]
            refine wpAnyH_done (by kernel_rfl) ?_ _
            go_wp2
            go_roundw
            case rel => exact ⟨1, by omega, by go_num, fun e he => HY.out.keep (below_chain7 (below_chain7 (below_chain7 (drew_c hy1) hy2) hy3) hy4) e (.tail _ he), below_chain7 hcy (below_chain7 (below_chain7 (below_chain7 (drew_c hy1) hy2) hy3) hy4)⟩
            case measure => simp [intOf]
      · have s0 : wr.cell? ⟨gs, 2, none⟩ = some (.int .u64 (oh : Nat)) := cell_row (HB.out _ (.head _)) 2
        have s1 : wr.cell? ⟨gs, 3, none⟩ = some (.int .u64 (ol : Nat)) := cell_row (HB.out _ (.head _)) 3
        have hgs := HB.out.lt (.head _)
        obtain ⟨hp, hq, hr, ⟨e1, e2⟩, HP', HQ', HR'⟩ := HS.out oh ol b3 b4
        have HP := Lib.hid HP'
        have HQ := Lib.hid HQ'
        have HR := Lib.hid HR'
        have HY := Lib.hid (HB.out.new #[.int .u64 (oh : Nat), .int .u64 (ol : Nat)] 25)
        have hcy := hcr.alloc hcr.size (.cells #[.int .u64 (oh : Nat), .int .u64 (ol : Nat)] 25)
        clear HP' HQ' HR'
        rw [show ((1 : Nat) : Int) = 1 from rfl]
        go_wp2
        generalize wr.alloc (.cells #[.int .u64 (oh : Nat), .int .u64 (ol : Nat)] 25) = y at *
        generalize wr.heap.size = ga at *
        have HK : Hid (∀ W, Below y.heap.size y W → (fun W => ((W.cell? ⟨gp, 0, none⟩ = some (.int .u64 (ph : Nat)) ∧ W.cell? ⟨gp, 1, none⟩ = some (.int .u64 (pl : Nat)) ∧ W.cell? ⟨gp, 2, none⟩ = some (.int .i64 (k : Nat))) ∧ (W.cell? ⟨gq, 0, none⟩ = some (.int .u64 (ph : Nat)) ∧ W.cell? ⟨gq, 1, none⟩ = some (.int .u64 (pl : Nat)) ∧ W.cell? ⟨gq, 2, none⟩ = some (.int .i64 ((k : Int) + 1))) ∧ (W.cell? ⟨gr, 0, none⟩ = some (.int .u64 (ph : Nat)) ∧ W.cell? ⟨gr, 1, none⟩ = some (.int .u64 (fl : Nat)) ∧ W.cell? ⟨gr, 2, none⟩ = some (.int .i64 ((k : Int) + 1)))) ∧ W.cell? ⟨ga, 0, none⟩ = some (.int .u64 (oh : Nat)) ∧ W.cell? ⟨ga, 1, none⟩ = some (.int .u64 (ol : Nat))) W) := fun W hW => by
          have h := HY.out.keep hW
          exact ⟨⟨(h.r3 (b := gp) (by repeat first | exact .head _ | apply List.Mem.tail)).2, (h.r3 (b := gq) (by repeat first | exact .head _ | apply List.Mem.tail)).2, (h.r3 (b := gr) (by repeat first | exact .head _ | apply List.Mem.tail)).2⟩, (h.r2 (b := ga) (.head _)).2⟩
        clear s0 s1 hgs
        cases hq with
        | true =>
          obtain rfl : hr = false := by simpa using e2
          obtain rfl : hp = true := by simpa using e1
          clear e1 e2
          refine wp_region_held_drew (S := fun W => ((W.cell? ⟨gp, 0, none⟩ = some (.int .u64 (ph : Nat)) ∧ W.cell? ⟨gp, 1, none⟩ = some (.int .u64 (pl : Nat)) ∧ W.cell? ⟨gp, 2, none⟩ = some (.int .i64 (k : Nat))) ∧ (W.cell? ⟨gq, 0, none⟩ = some (.int .u64 (ph : Nat)) ∧ W.cell? ⟨gq, 1, none⟩ = some (.int .u64 (pl : Nat)) ∧ W.cell? ⟨gq, 2, none⟩ = some (.int .i64 ((k : Int) + 1))) ∧ (W.cell? ⟨gr, 0, none⟩ = some (.int .u64 (ph : Nat)) ∧ W.cell? ⟨gr, 1, none⟩ = some (.int .u64 (fl : Nat)) ∧ W.cell? ⟨gr, 2, none⟩ = some (.int .i64 ((k : Int) + 1)))) ∧ W.cell? ⟨ga, 0, none⟩ = some (.int .u64 (oh : Nat)) ∧ W.cell? ⟨ga, 1, none⟩ = some (.int .u64 (ol : Nat))) (by kernel_rfl) ?_ (fun hHeld => ?_)
          · exact HK.out _ (Below.refl _ _).drew
          refine wpAnyH_take (i := 0) (oi := ⟨some 133, _, _, _, _, _⟩) (v := ?_) rfl (by kernel_rfl) (by kernel_rfl) (by kernel_rfl) (fun _ _ _ h => h) (Or.inl ⟨by rfl, ?_⟩) hHeld ?_
          rotate_left
          · intro w hSw
            (try dsimp only at hSw)
            go_simp
            try with_reducible rfl
          try simp only [Act.put, List.setIfInBounds_toArray, List.set_cons_zero, List.set_cons_succ]
          refine wpAnyH_take (i := 1) (oi := ⟨some 134, _, _, _, _, _⟩) (v := ?_) rfl (by kernel_rfl) (by kernel_rfl) (by kernel_rfl) (fun _ _ _ h => h) (Or.inl ⟨by rfl, ?_⟩) hHeld ?_
          rotate_left
          · intro w hSw
            (try dsimp only at hSw)
            go_simp
            try with_reducible rfl
          try simp only [Act.put, List.setIfInBounds_toArray, List.set_cons_zero, List.set_cons_succ]
          refine wpAnyH_take (i := 2) (oi := ⟨some 135, _, _, _, _, _⟩) (v := ?_) rfl (by kernel_rfl) (by kernel_rfl) (by kernel_rfl) (fun _ _ _ h => h) (Or.inl ⟨by rfl, ?_⟩) hHeld ?_
          rotate_left
          · intro w hSw
            (try dsimp only at hSw)
            go_simp
            try with_reducible rfl
          try simp only [Act.put, List.setIfInBounds_toArray, List.set_cons_zero, List.set_cons_succ]
          refine wpAnyH_take (i := 4) (oi := ⟨some 137, _, _, _, _, _⟩) (v := ?_) rfl (by kernel_rfl) (by kernel_rfl) (by kernel_rfl) (fun _ _ _ h => h) (Or.inl ⟨by rfl, ?_⟩) hHeld ?_
          rotate_left
          · intro w hSw
            (try dsimp only at hSw)
            go_simp
            try with_reducible rfl
          try simp only [Act.put, List.setIfInBounds_toArray, List.set_cons_zero, List.set_cons_succ]
          refine wpAnyH_take (i := 5) (oi := ⟨some 138, _, _, _, _, _⟩) (v := ?_) rfl (by kernel_rfl) (by kernel_rfl) (by kernel_rfl) (fun _ _ _ h => h) (Or.inl ⟨by rfl, ?_⟩) hHeld ?_
          rotate_left
          · intro w hSw
            (try dsimp only at hSw)
            go_simp
            try with_reducible rfl
          try simp only [Act.put, List.setIfInBounds_toArray, List.set_cons_zero, List.set_cons_succ]
          refine wpAnyH_take (i := 6) (oi := ⟨some 139, _, _, _, _, _⟩) (v := ?_) rfl (by kernel_rfl) (by kernel_rfl) (by kernel_rfl) (fun _ _ _ h => h) (Or.inl ⟨by rfl, ?_⟩) hHeld ?_
          rotate_left
          · intro w hSw
            (try dsimp only at hSw)
            go_simp
            try with_reducible rfl
          try simp only [Act.put, List.setIfInBounds_toArray, List.set_cons_zero, List.set_cons_succ]
          refine wpAnyH_ready (rs := [3]) (by kernel_rfl) (by simp) ?_
          refine AllReadyH.cons (o := ⟨some 136, _, _, _, _, _⟩) rfl (fun K hK => ?_) AllReadyH.nil
          go_simp
          go_at_call 8
          refine (HP.out _).mono ?_
          rintro e y1 ⟨rfl, hy1⟩
          (try go_wp2_with fail)
          refine hK.out _ _ ?_ (fun hHeld1 => ?_)
          · exact HK.out _ (drew_c hy1)
          clear hK K
          try simp only [Act.put, List.setIfInBounds_toArray, List.set_cons_zero, List.set_cons_succ]
          refine wpAnyH_ready (rs := [7]) (by kernel_rfl) (by simp) ?_
          refine AllReadyH.cons (o := ⟨some 140, _, _, _, _, _⟩) rfl (fun K hK => ?_) AllReadyH.nil
          go_simp
          go_at_call 8
          refine (HQ.out _).mono ?_
          rintro e y2 ⟨rfl, hy2⟩
          (try go_wp2_with fail)
          refine hK.out _ _ ?_ (fun hHeld2 => ?_)
          · exact HK.out _ (below_chain7 (drew_c hy1) hy2)
          clear hK K
          try simp only [Act.put, List.setIfInBounds_toArray, List.set_cons_zero, List.set_cons_succ]
          refine wpAnyH_take (i := 8) (oi := ⟨some 141, _, _, _, _, _⟩) (v := ?_) rfl (by kernel_rfl) (by kernel_rfl) (by kernel_rfl) (fun _ _ _ h => h) (Or.inl ⟨by rfl, ?_⟩) hHeld2 ?_
          rotate_left
          · intro w hSw
            (try dsimp only at hSw)
            go_simp
            try with_reducible rfl
          try simp only [Act.put, List.setIfInBounds_toArray, List.set_cons_zero, List.set_cons_succ]
          refine wpAnyH_take (i := 9) (oi := ⟨some 142, _, _, _, _, _⟩) (v := undef) rfl (by kernel_rfl) (by kernel_rfl) (by kernel_rfl) (fun _ _ _ h => h) (Or.inr ⟨by rfl, rfl⟩) hHeld2 ?_
          try simp only [Act.put, List.setIfInBounds_toArray, List.set_cons_zero, List.set_cons_succ]
          refine wpAnyH_take (i := 10) (oi := ⟨some 143, _, _, _, _, _⟩) (v := undef) rfl (by kernel_rfl) (by kernel_rfl) (by kernel_rfl) (fun _ _ _ h => h) (Or.inr ⟨by rfl, rfl⟩) hHeld2 ?_
          try simp only [Act.put, List.setIfInBounds_toArray, List.set_cons_zero, List.set_cons_succ]
          refine wpAnyH_take (i := 11) (oi := ⟨some 144, _, _, _, _, _⟩) (v := undef) rfl (by kernel_rfl) (by kernel_rfl) (by kernel_rfl) (fun _ _ _ h => h) (Or.inr ⟨by rfl, rfl⟩) hHeld2 ?_
          try simp only [Act.put, List.setIfInBounds_toArray, List.set_cons_zero, List.set_cons_succ]
          refine wpAnyH_take (i := 12) (oi := ⟨some 145, _, _, _, _, _⟩) (v := undef) rfl (by kernel_rfl) (by kernel_rfl) (by kernel_rfl) (fun _ _ _ h => h) (Or.inr ⟨by rfl, rfl⟩) hHeld2 ?_
          try simp only [Act.put, List.setIfInBounds_toArray, List.set_cons_zero, List.set_cons_succ]
          refine wpAnyH_take (i := 13) (oi := ⟨some 146, _, _, _, _, _⟩) (v := ?_) rfl (by kernel_rfl) (by kernel_rfl) (by kernel_rfl) (fun _ _ _ h => h) (Or.inl ⟨by rfl, ?_⟩) hHeld2 ?_
          rotate_left
          · intro w hSw
            (try dsimp only at hSw)
            go_simp
            try with_reducible rfl
          try simp only [Act.put, List.setIfInBounds_toArray, List.set_cons_zero, List.set_cons_succ]
          refine wpAnyH_take (i := 14) (oi := ⟨some 147, _, _, _, _, _⟩) (v := ?_) rfl (by kernel_rfl) (by kernel_rfl) (by kernel_rfl) (fun _ _ _ h => h) (Or.inl ⟨by rfl, ?_⟩) hHeld2 ?_
          rotate_left
          · intro w hSw
            (try dsimp only at hSw)
            go_simp
            try with_reducible rfl
          try simp only [Act.put, List.setIfInBounds_toArray, List.set_cons_zero, List.set_cons_succ]
          refine wpAnyH_take (i := 15) (oi := ⟨some 148, _, _, _, _, _⟩) (v := ?_) rfl (by kernel_rfl) (by kernel_rfl) (by kernel_rfl) (fun _ _ _ h => h) (Or.inl ⟨by rfl, ?_⟩) hHeld2 ?_
          rotate_left
          · intro w hSw
            (try dsimp only at hSw)
            go_simp
            try with_reducible rfl
          try simp only [Act.put, List.setIfInBounds_toArray, List.set_cons_zero, List.set_cons_succ]
          refine wpAnyH_take (i := 16) (oi := ⟨some 149, _, _, _, _, _⟩) (v := ?_) rfl (by kernel_rfl) (by kernel_rfl) (by kernel_rfl) (fun _ _ _ h => h) (Or.inl ⟨by rfl, ?_⟩) hHeld2 ?_
          rotate_left
          · intro w hSw
            (try dsimp only at hSw)
            go_simp
            try with_reducible rfl
          try simp only [Act.put, List.setIfInBounds_toArray, List.set_cons_zero, List.set_cons_succ]
          refine wpAnyH_take (i := 17) (oi := ⟨some 150, _, _, _, _, _⟩) (v := ?_) rfl (by kernel_rfl) (by kernel_rfl) (by kernel_rfl) (fun _ _ _ h => h) (Or.inl ⟨by rfl, ?_⟩) hHeld2 ?_
          rotate_left
          · intro w hSw
            (try dsimp only at hSw)
            go_simp
            try with_reducible rfl
          try simp only [Act.put, List.setIfInBounds_toArray, List.set_cons_zero, List.set_cons_succ]
          refine wpAnyH_take (i := 18) (oi := ⟨some 151, _, _, _, _, _⟩) (v := ?_) rfl (by kernel_rfl) (by kernel_rfl) (by kernel_rfl) (fun _ _ _ h => h) (Or.inl ⟨by rfl, ?_⟩) hHeld2 ?_
          rotate_left
          · intro w hSw
            (try dsimp only at hSw)
            go_simp
            try with_reducible rfl
          try simp only [Act.put, List.setIfInBounds_toArray, List.set_cons_zero, List.set_cons_succ]
          refine wpAnyH_ready (rs := [19]) (by kernel_rfl) (by simp) ?_
          refine AllReadyH.cons (o := ⟨some 152, _, _, _, _, _⟩) rfl (fun K hK => ?_) AllReadyH.nil
          go_simp
          go_at_call 8
          refine (HQ.out _).mono ?_
          rintro e y3 ⟨rfl, hy3⟩
          (try go_wp2_with fail)
          refine hK.out _ _ ?_ (fun hHeld3 => ?_)
          · exact HK.out _ (below_chain7 (below_chain7 (drew_c hy1) hy2) hy3)
          clear hK K
          try simp only [Act.put, List.setIfInBounds_toArray, List.set_cons_zero, List.set_cons_succ]
          refine wpAnyH_take (i := 20) (oi := ⟨some 153, _, _, _, _, _⟩) (v := ?_) rfl (by kernel_rfl) (by kernel_rfl) (by kernel_rfl) (fun _ _ _ h => h) (Or.inl ⟨by rfl, ?_⟩) hHeld3 ?_
          rotate_left
          · intro w hSw
            (try dsimp only at hSw)
            go_simp
            try with_reducible rfl
          try simp only [Act.put, List.setIfInBounds_toArray, List.set_cons_zero, List.set_cons_succ]
          refine wpAnyH_take (i := 21) (oi := ⟨some 154, _, _, _, _, _⟩) (v := ?_) rfl (by kernel_rfl) (by kernel_rfl) (by kernel_rfl) (fun _ _ _ h => h) (Or.inl ⟨by rfl, ?_⟩) hHeld3 ?_
          rotate_left
          · intro w hSw
            (try dsimp only at hSw)
            go_simp
            try with_reducible rfl
          try simp only [Act.put, List.setIfInBounds_toArray, List.set_cons_zero, List.set_cons_succ]
          refine wpAnyH_take (i := 22) (oi := ⟨some 155, _, _, _, _, _⟩) (v := ?_) rfl (by kernel_rfl) (by kernel_rfl) (by kernel_rfl) (fun _ _ _ h => h) (Or.inl ⟨by rfl, ?_⟩) hHeld3 ?_
          rotate_left
          · intro w hSw
            (try dsimp only at hSw)
            go_simp
            try with_reducible rfl
          try simp only [Act.put, List.setIfInBounds_toArray, List.set_cons_zero, List.set_cons_succ]
          refine wpAnyH_take (i := 23) (oi := ⟨some 156, _, _, _, _, _⟩) (v := ?_) rfl (by kernel_rfl) (by kernel_rfl) (by kernel_rfl) (fun _ _ _ h => h) (Or.inl ⟨by rfl, ?_⟩) hHeld3 ?_
          rotate_left
          · intro w hSw
            (try dsimp only at hSw)
            go_simp
            try with_reducible rfl
          try simp only [Act.put, List.setIfInBounds_toArray, List.set_cons_zero, List.set_cons_succ]
          refine wpAnyH_ready (rs := [24]) (by kernel_rfl) (by simp) ?_
          refine AllReadyH.cons (o := ⟨some 157, _, _, _, _, _⟩) rfl (fun K hK => ?_) AllReadyH.nil
          go_simp
          go_at_call 8
          refine (HR.out _).mono ?_
          rintro e y4 ⟨rfl, hy4⟩
          (try go_wp2_with fail)
          refine hK.out _ _ ?_ (fun hHeld4 => ?_)
          · exact HK.out _ (below_chain7 (below_chain7 (below_chain7 (drew_c hy1) hy2) hy3) hy4)
          clear hK K
          try simp only [Act.put, List.setIfInBounds_toArray, List.set_cons_zero, List.set_cons_succ]
          refine wpAnyH_take (i := 25) (oi := ⟨some 158, _, _, _, _, _⟩) (v := ?_) rfl (by kernel_rfl) (by kernel_rfl) (by kernel_rfl) (fun _ _ _ h => h) (Or.inl ⟨by rfl, ?_⟩) hHeld4 ?_
          rotate_left
          · intro w hSw
            (try dsimp only at hSw)
            go_simp
            try with_reducible rfl
          try simp only [Act.put, List.setIfInBounds_toArray, List.set_cons_zero, List.set_cons_succ]
          refine wpAnyH_take (i := 26) (oi := ⟨some 159, _, _, _, _, _⟩) (v := ?_) rfl (by kernel_rfl) (by kernel_rfl) (by kernel_rfl) (fun _ _ _ h => h) (Or.inl ⟨by rfl, ?_⟩) hHeld4 ?_
          rotate_left
          · intro w hSw
            (try dsimp only at hSw)
            go_simp
            try with_reducible rfl
          try simp only [Act.put, List.setIfInBounds_toArray, List.set_cons_zero, List.set_cons_succ]
          refine wpAnyH_done (by kernel_rfl) ?_ _
          go_wp2
          go_roundw
          case rel => exact ⟨2, by omega, by go_num, fun e he => HY.out.keep (below_chain7 (below_chain7 (below_chain7 (drew_c hy1) hy2) hy3) hy4) e (.tail _ he), below_chain7 hcy (below_chain7 (below_chain7 (below_chain7 (drew_c hy1) hy2) hy3) hy4)⟩
          case measure => simp [intOf]
        | false =>
          obtain rfl : hp = hr := by simpa using e1
          clear e1 e2
          cases hp with
          | true =>
            refine wp_region_held_drew (S := fun W => ((W.cell? ⟨gp, 0, none⟩ = some (.int .u64 (ph : Nat)) ∧ W.cell? ⟨gp, 1, none⟩ = some (.int .u64 (pl : Nat)) ∧ W.cell? ⟨gp, 2, none⟩ = some (.int .i64 (k : Nat))) ∧ (W.cell? ⟨gq, 0, none⟩ = some (.int .u64 (ph : Nat)) ∧ W.cell? ⟨gq, 1, none⟩ = some (.int .u64 (pl : Nat)) ∧ W.cell? ⟨gq, 2, none⟩ = some (.int .i64 ((k : Int) + 1))) ∧ (W.cell? ⟨gr, 0, none⟩ = some (.int .u64 (ph : Nat)) ∧ W.cell? ⟨gr, 1, none⟩ = some (.int .u64 (fl : Nat)) ∧ W.cell? ⟨gr, 2, none⟩ = some (.int .i64 ((k : Int) + 1)))) ∧ W.cell? ⟨ga, 0, none⟩ = some (.int .u64 (oh : Nat)) ∧ W.cell? ⟨ga, 1, none⟩ = some (.int .u64 (ol : Nat))) (by kernel_rfl) ?_ (fun hHeld => ?_)
            · exact HK.out _ (Below.refl _ _).drew
            refine wpAnyH_take (i := 0) (oi := ⟨some 133, _, _, _, _, _⟩) (v := ?_) rfl (by kernel_rfl) (by kernel_rfl) (by kernel_rfl) (fun _ _ _ h => h) (Or.inl ⟨by rfl, ?_⟩) hHeld ?_
            rotate_left
            · intro w hSw
              (try dsimp only at hSw)
              go_simp
              try with_reducible rfl
            try simp only [Act.put, List.setIfInBounds_toArray, List.set_cons_zero, List.set_cons_succ]
            refine wpAnyH_take (i := 1) (oi := ⟨some 134, _, _, _, _, _⟩) (v := ?_) rfl (by kernel_rfl) (by kernel_rfl) (by kernel_rfl) (fun _ _ _ h => h) (Or.inl ⟨by rfl, ?_⟩) hHeld ?_
            rotate_left
            · intro w hSw
              (try dsimp only at hSw)
              go_simp
              try with_reducible rfl
            try simp only [Act.put, List.setIfInBounds_toArray, List.set_cons_zero, List.set_cons_succ]
            refine wpAnyH_take (i := 2) (oi := ⟨some 135, _, _, _, _, _⟩) (v := ?_) rfl (by kernel_rfl) (by kernel_rfl) (by kernel_rfl) (fun _ _ _ h => h) (Or.inl ⟨by rfl, ?_⟩) hHeld ?_
            rotate_left
            · intro w hSw
              (try dsimp only at hSw)
              go_simp
              try with_reducible rfl
            try simp only [Act.put, List.setIfInBounds_toArray, List.set_cons_zero, List.set_cons_succ]
            refine wpAnyH_take (i := 4) (oi := ⟨some 137, _, _, _, _, _⟩) (v := ?_) rfl (by kernel_rfl) (by kernel_rfl) (by kernel_rfl) (fun _ _ _ h => h) (Or.inl ⟨by rfl, ?_⟩) hHeld ?_
            rotate_left
            · intro w hSw
              (try dsimp only at hSw)
              go_simp
              try with_reducible rfl
            try simp only [Act.put, List.setIfInBounds_toArray, List.set_cons_zero, List.set_cons_succ]
            refine wpAnyH_take (i := 5) (oi := ⟨some 138, _, _, _, _, _⟩) (v := ?_) rfl (by kernel_rfl) (by kernel_rfl) (by kernel_rfl) (fun _ _ _ h => h) (Or.inl ⟨by rfl, ?_⟩) hHeld ?_
            rotate_left
            · intro w hSw
              (try dsimp only at hSw)
              go_simp
              try with_reducible rfl
            try simp only [Act.put, List.setIfInBounds_toArray, List.set_cons_zero, List.set_cons_succ]
            refine wpAnyH_take (i := 6) (oi := ⟨some 139, _, _, _, _, _⟩) (v := ?_) rfl (by kernel_rfl) (by kernel_rfl) (by kernel_rfl) (fun _ _ _ h => h) (Or.inl ⟨by rfl, ?_⟩) hHeld ?_
            rotate_left
            · intro w hSw
              (try dsimp only at hSw)
              go_simp
              try with_reducible rfl
            try simp only [Act.put, List.setIfInBounds_toArray, List.set_cons_zero, List.set_cons_succ]
            refine wpAnyH_ready (rs := [3]) (by kernel_rfl) (by simp) ?_
            refine AllReadyH.cons (o := ⟨some 136, _, _, _, _, _⟩) rfl (fun K hK => ?_) AllReadyH.nil
            go_simp
            go_at_call 8
            refine (HP.out _).mono ?_
            rintro e y1 ⟨rfl, hy1⟩
            (try go_wp2_with fail)
            refine hK.out _ _ ?_ (fun hHeld1 => ?_)
            · exact HK.out _ (drew_c hy1)
            clear hK K
            try simp only [Act.put, List.setIfInBounds_toArray, List.set_cons_zero, List.set_cons_succ]
            refine wpAnyH_ready (rs := [7]) (by kernel_rfl) (by simp) ?_
            refine AllReadyH.cons (o := ⟨some 140, _, _, _, _, _⟩) rfl (fun K hK => ?_) AllReadyH.nil
            go_simp
            go_at_call 8
            refine (HQ.out _).mono ?_
            rintro e y2 ⟨rfl, hy2⟩
            (try go_wp2_with fail)
            refine hK.out _ _ ?_ (fun hHeld2 => ?_)
            · exact HK.out _ (below_chain7 (drew_c hy1) hy2)
            clear hK K
            try simp only [Act.put, List.setIfInBounds_toArray, List.set_cons_zero, List.set_cons_succ]
            refine wpAnyH_take (i := 8) (oi := ⟨some 141, _, _, _, _, _⟩) (v := ?_) rfl (by kernel_rfl) (by kernel_rfl) (by kernel_rfl) (fun _ _ _ h => h) (Or.inl ⟨by rfl, ?_⟩) hHeld2 ?_
            rotate_left
            · intro w hSw
              (try dsimp only at hSw)
              go_simp
              try with_reducible rfl
            try simp only [Act.put, List.setIfInBounds_toArray, List.set_cons_zero, List.set_cons_succ]
            refine wpAnyH_take (i := 9) (oi := ⟨some 142, _, _, _, _, _⟩) (v := ?_) rfl (by kernel_rfl) (by kernel_rfl) (by kernel_rfl) (fun _ _ _ h => h) (Or.inl ⟨by rfl, ?_⟩) hHeld2 ?_
            rotate_left
            · intro w hSw
              (try dsimp only at hSw)
              go_simp
              try with_reducible rfl
            try simp only [Act.put, List.setIfInBounds_toArray, List.set_cons_zero, List.set_cons_succ]
            refine wpAnyH_take (i := 10) (oi := ⟨some 143, _, _, _, _, _⟩) (v := ?_) rfl (by kernel_rfl) (by kernel_rfl) (by kernel_rfl) (fun _ _ _ h => h) (Or.inl ⟨by rfl, ?_⟩) hHeld2 ?_
            rotate_left
            · intro w hSw
              (try dsimp only at hSw)
              go_simp
              try with_reducible rfl
            try simp only [Act.put, List.setIfInBounds_toArray, List.set_cons_zero, List.set_cons_succ]
            refine wpAnyH_take (i := 11) (oi := ⟨some 144, _, _, _, _, _⟩) (v := ?_) rfl (by kernel_rfl) (by kernel_rfl) (by kernel_rfl) (fun _ _ _ h => h) (Or.inl ⟨by rfl, ?_⟩) hHeld2 ?_
            rotate_left
            · intro w hSw
              (try dsimp only at hSw)
              go_simp
              try with_reducible rfl
            try simp only [Act.put, List.setIfInBounds_toArray, List.set_cons_zero, List.set_cons_succ]
            refine wpAnyH_ready (rs := [12]) (by kernel_rfl) (by simp) ?_
            refine AllReadyH.cons (o := ⟨some 145, _, _, _, _, _⟩) rfl (fun K hK => ?_) AllReadyH.nil
            go_simp
            go_at_call 8
            refine (HR.out _).mono ?_
            rintro e y3 ⟨rfl, hy3⟩
            (try go_wp2_with fail)
            refine hK.out _ _ ?_ (fun hHeld3 => ?_)
            · exact HK.out _ (below_chain7 (below_chain7 (drew_c hy1) hy2) hy3)
            clear hK K
            try simp only [Act.put, List.setIfInBounds_toArray, List.set_cons_zero, List.set_cons_succ]
            refine wpAnyH_take (i := 13) (oi := ⟨some 146, _, _, _, _, _⟩) (v := ?_) rfl (by kernel_rfl) (by kernel_rfl) (by kernel_rfl) (fun _ _ _ h => h) (Or.inl ⟨by rfl, ?_⟩) hHeld3 ?_
            rotate_left
            · intro w hSw
              (try dsimp only at hSw)
              go_simp
              try with_reducible rfl
            try simp only [Act.put, List.setIfInBounds_toArray, List.set_cons_zero, List.set_cons_succ]
            refine wpAnyH_take (i := 14) (oi := ⟨some 147, _, _, _, _, _⟩) (v := ?_) rfl (by kernel_rfl) (by kernel_rfl) (by kernel_rfl) (fun _ _ _ h => h) (Or.inl ⟨by rfl, ?_⟩) hHeld3 ?_
            rotate_left
            · intro w hSw
              (try dsimp only at hSw)
              go_simp
              try with_reducible rfl
            try simp only [Act.put, List.setIfInBounds_toArray, List.set_cons_zero, List.set_cons_succ]
            refine wpAnyH_take (i := 15) (oi := ⟨some 148, _, _, _, _, _⟩) (v := ?_) rfl (by kernel_rfl) (by kernel_rfl) (by kernel_rfl) (fun _ _ _ h => h) (Or.inl ⟨by rfl, ?_⟩) hHeld3 ?_
            rotate_left
            · intro w hSw
              (try dsimp only at hSw)
              go_simp
              try with_reducible rfl
            try simp only [Act.put, List.setIfInBounds_toArray, List.set_cons_zero, List.set_cons_succ]
            refine wpAnyH_take (i := 16) (oi := ⟨some 149, _, _, _, _, _⟩) (v := ?_) rfl (by kernel_rfl) (by kernel_rfl) (by kernel_rfl) (fun _ _ _ h => h) (Or.inl ⟨by rfl, ?_⟩) hHeld3 ?_
            rotate_left
            · intro w hSw
              (try dsimp only at hSw)
              go_simp
              try with_reducible rfl
            try simp only [Act.put, List.setIfInBounds_toArray, List.set_cons_zero, List.set_cons_succ]
            refine wpAnyH_take (i := 17) (oi := ⟨some 150, _, _, _, _, _⟩) (v := ?_) rfl (by kernel_rfl) (by kernel_rfl) (by kernel_rfl) (fun _ _ _ h => h) (Or.inl ⟨by rfl, ?_⟩) hHeld3 ?_
            rotate_left
            · intro w hSw
              (try dsimp only at hSw)
              go_simp
              try with_reducible rfl
            try simp only [Act.put, List.setIfInBounds_toArray, List.set_cons_zero, List.set_cons_succ]
            refine wpAnyH_take (i := 18) (oi := ⟨some 151, _, _, _, _, _⟩) (v := ?_) rfl (by kernel_rfl) (by kernel_rfl) (by kernel_rfl) (fun _ _ _ h => h) (Or.inl ⟨by rfl, ?_⟩) hHeld3 ?_
            rotate_left
            · intro w hSw
              (try dsimp only at hSw)
              go_simp
              try with_reducible rfl
            try simp only [Act.put, List.setIfInBounds_toArray, List.set_cons_zero, List.set_cons_succ]
            refine wpAnyH_ready (rs := [19]) (by kernel_rfl) (by simp) ?_
            refine AllReadyH.cons (o := ⟨some 152, _, _, _, _, _⟩) rfl (fun K hK => ?_) AllReadyH.nil
            go_simp
            go_at_call 8
            refine (HQ.out _).mono ?_
            rintro e y4 ⟨rfl, hy4⟩
            (try go_wp2_with fail)
            refine hK.out _ _ ?_ (fun hHeld4 => ?_)
            · exact HK.out _ (below_chain7 (below_chain7 (below_chain7 (drew_c hy1) hy2) hy3) hy4)
            clear hK K
            try simp only [Act.put, List.setIfInBounds_toArray, List.set_cons_zero, List.set_cons_succ]
            refine wpAnyH_take (i := 20) (oi := ⟨some 153, _, _, _, _, _⟩) (v := ?_) rfl (by kernel_rfl) (by kernel_rfl) (by kernel_rfl) (fun _ _ _ h => h) (Or.inl ⟨by rfl, ?_⟩) hHeld4 ?_
            rotate_left
            · intro w hSw
              (try dsimp only at hSw)
              go_simp
              try with_reducible rfl
            try simp only [Act.put, List.setIfInBounds_toArray, List.set_cons_zero, List.set_cons_succ]
            refine wpAnyH_take (i := 21) (oi := ⟨some 154, _, _, _, _, _⟩) (v := undef) rfl (by kernel_rfl) (by kernel_rfl) (by kernel_rfl) (fun _ _ _ h => h) (Or.inr ⟨by rfl, rfl⟩) hHeld4 ?_
            try simp only [Act.put, List.setIfInBounds_toArray, List.set_cons_zero, List.set_cons_succ]
            refine wpAnyH_take (i := 22) (oi := ⟨some 155, _, _, _, _, _⟩) (v := undef) rfl (by kernel_rfl) (by kernel_rfl) (by kernel_rfl) (fun _ _ _ h => h) (Or.inr ⟨by rfl, rfl⟩) hHeld4 ?_
            try simp only [Act.put, List.setIfInBounds_toArray, List.set_cons_zero, List.set_cons_succ]
            refine wpAnyH_take (i := 23) (oi := ⟨some 156, _, _, _, _, _⟩) (v := undef) rfl (by kernel_rfl) (by kernel_rfl) (by kernel_rfl) (fun _ _ _ h => h) (Or.inr ⟨by rfl, rfl⟩) hHeld4 ?_
            try simp only [Act.put, List.setIfInBounds_toArray, List.set_cons_zero, List.set_cons_succ]
            refine wpAnyH_take (i := 24) (oi := ⟨some 157, _, _, _, _, _⟩) (v := undef) rfl (by kernel_rfl) (by kernel_rfl) (by kernel_rfl) (fun _ _ _ h => h) (Or.inr ⟨by rfl, rfl⟩) hHeld4 ?_
            try simp only [Act.put, List.setIfInBounds_toArray, List.set_cons_zero, List.set_cons_succ]
            refine wpAnyH_take (i := 25) (oi := ⟨some 158, _, _, _, _, _⟩) (v := ?_) rfl (by kernel_rfl) (by kernel_rfl) (by kernel_rfl) (fun _ _ _ h => h) (Or.inl ⟨by rfl, ?_⟩) hHeld4 ?_
            rotate_left
            · intro w hSw
              (try dsimp only at hSw)
              go_simp
              try with_reducible rfl
            try simp only [Act.put, List.setIfInBounds_toArray, List.set_cons_zero, List.set_cons_succ]
            refine wpAnyH_take (i := 26) (oi := ⟨some 159, _, _, _, _, _⟩) (v := ?_) rfl (by kernel_rfl) (by kernel_rfl) (by kernel_rfl) (fun _ _ _ h => h) (Or.inl ⟨by rfl, ?_⟩) hHeld4 ?_
            rotate_left
            · intro w hSw
              (try dsimp only at hSw)
              go_simp
              try with_reducible rfl
            try simp only [Act.put, List.setIfInBounds_toArray, List.set_cons_zero, List.set_cons_succ]
            refine wpAnyH_done (by kernel_rfl) ?_ _
            go_wp2
            go_roundw
            case rel => exact ⟨2, by omega, by go_num, fun e he => HY.out.keep (below_chain7 (below_chain7 (below_chain7 (drew_c hy1) hy2) hy3) hy4) e (.tail _ he), below_chain7 hcy (below_chain7 (below_chain7 (below_chain7 (drew_c hy1) hy2) hy3) hy4)⟩
            case measure => simp [intOf]
          | false =>
            refine wp_region_held_drew (S := fun W => ((W.cell? ⟨gp, 0, none⟩ = some (.int .u64 (ph : Nat)) ∧ W.cell? ⟨gp, 1, none⟩ = some (.int .u64 (pl : Nat)) ∧ W.cell? ⟨gp, 2, none⟩ = some (.int .i64 (k : Nat))) ∧ (W.cell? ⟨gq, 0, none⟩ = some (.int .u64 (ph : Nat)) ∧ W.cell? ⟨gq, 1, none⟩ = some (.int .u64 (pl : Nat)) ∧ W.cell? ⟨gq, 2, none⟩ = some (.int .i64 ((k : Int) + 1))) ∧ (W.cell? ⟨gr, 0, none⟩ = some (.int .u64 (ph : Nat)) ∧ W.cell? ⟨gr, 1, none⟩ = some (.int .u64 (fl : Nat)) ∧ W.cell? ⟨gr, 2, none⟩ = some (.int .i64 ((k : Int) + 1)))) ∧ W.cell? ⟨ga, 0, none⟩ = some (.int .u64 (oh : Nat)) ∧ W.cell? ⟨ga, 1, none⟩ = some (.int .u64 (ol : Nat))) (by kernel_rfl) ?_ (fun hHeld => ?_)
            · exact HK.out _ (Below.refl _ _).drew
            refine wpAnyH_take (i := 0) (oi := ⟨some 133, _, _, _, _, _⟩) (v := ?_) rfl (by kernel_rfl) (by kernel_rfl) (by kernel_rfl) (fun _ _ _ h => h) (Or.inl ⟨by rfl, ?_⟩) hHeld ?_
            rotate_left
            · intro w hSw
              (try dsimp only at hSw)
              go_simp
              try with_reducible rfl
            try simp only [Act.put, List.setIfInBounds_toArray, List.set_cons_zero, List.set_cons_succ]
            refine wpAnyH_take (i := 1) (oi := ⟨some 134, _, _, _, _, _⟩) (v := ?_) rfl (by kernel_rfl) (by kernel_rfl) (by kernel_rfl) (fun _ _ _ h => h) (Or.inl ⟨by rfl, ?_⟩) hHeld ?_
            rotate_left
            · intro w hSw
              (try dsimp only at hSw)
              go_simp
              try with_reducible rfl
            try simp only [Act.put, List.setIfInBounds_toArray, List.set_cons_zero, List.set_cons_succ]
            refine wpAnyH_take (i := 2) (oi := ⟨some 135, _, _, _, _, _⟩) (v := ?_) rfl (by kernel_rfl) (by kernel_rfl) (by kernel_rfl) (fun _ _ _ h => h) (Or.inl ⟨by rfl, ?_⟩) hHeld ?_
            rotate_left
            · intro w hSw
              (try dsimp only at hSw)
              go_simp
              try with_reducible rfl
            try simp only [Act.put, List.setIfInBounds_toArray, List.set_cons_zero, List.set_cons_succ]
            refine wpAnyH_take (i := 4) (oi := ⟨some 137, _, _, _, _, _⟩) (v := ?_) rfl (by kernel_rfl) (by kernel_rfl) (by kernel_rfl) (fun _ _ _ h => h) (Or.inl ⟨by rfl, ?_⟩) hHeld ?_
            rotate_left
            · intro w hSw
              (try dsimp only at hSw)
              go_simp
              try with_reducible rfl
            try simp only [Act.put, List.setIfInBounds_toArray, List.set_cons_zero, List.set_cons_succ]
            refine wpAnyH_take (i := 5) (oi := ⟨some 138, _, _, _, _, _⟩) (v := ?_) rfl (by kernel_rfl) (by kernel_rfl) (by kernel_rfl) (fun _ _ _ h => h) (Or.inl ⟨by rfl, ?_⟩) hHeld ?_
            rotate_left
            · intro w hSw
              (try dsimp only at hSw)
              go_simp
              try with_reducible rfl
            try simp only [Act.put, List.setIfInBounds_toArray, List.set_cons_zero, List.set_cons_succ]
            refine wpAnyH_take (i := 6) (oi := ⟨some 139, _, _, _, _, _⟩) (v := ?_) rfl (by kernel_rfl) (by kernel_rfl) (by kernel_rfl) (fun _ _ _ h => h) (Or.inl ⟨by rfl, ?_⟩) hHeld ?_
            rotate_left
            · intro w hSw
              (try dsimp only at hSw)
              go_simp
              try with_reducible rfl
            try simp only [Act.put, List.setIfInBounds_toArray, List.set_cons_zero, List.set_cons_succ]
            refine wpAnyH_ready (rs := [3]) (by kernel_rfl) (by simp) ?_
            refine AllReadyH.cons (o := ⟨some 136, _, _, _, _, _⟩) rfl (fun K hK => ?_) AllReadyH.nil
            go_simp
            go_at_call 8
            refine (HP.out _).mono ?_
            rintro e y1 ⟨rfl, hy1⟩
            (try go_wp2_with fail)
            refine hK.out _ _ ?_ (fun hHeld1 => ?_)
            · exact HK.out _ (drew_c hy1)
            clear hK K
            try simp only [Act.put, List.setIfInBounds_toArray, List.set_cons_zero, List.set_cons_succ]
            refine wpAnyH_ready (rs := [7]) (by kernel_rfl) (by simp) ?_
            refine AllReadyH.cons (o := ⟨some 140, _, _, _, _, _⟩) rfl (fun K hK => ?_) AllReadyH.nil
            go_simp
            go_at_call 8
            refine (HQ.out _).mono ?_
            rintro e y2 ⟨rfl, hy2⟩
            (try go_wp2_with fail)
            refine hK.out _ _ ?_ (fun hHeld2 => ?_)
            · exact HK.out _ (below_chain7 (drew_c hy1) hy2)
            clear hK K
            try simp only [Act.put, List.setIfInBounds_toArray, List.set_cons_zero, List.set_cons_succ]
            refine wpAnyH_take (i := 8) (oi := ⟨some 141, _, _, _, _, _⟩) (v := ?_) rfl (by kernel_rfl) (by kernel_rfl) (by kernel_rfl) (fun _ _ _ h => h) (Or.inl ⟨by rfl, ?_⟩) hHeld2 ?_
            rotate_left
            · intro w hSw
              (try dsimp only at hSw)
              go_simp
              try with_reducible rfl
            try simp only [Act.put, List.setIfInBounds_toArray, List.set_cons_zero, List.set_cons_succ]
            refine wpAnyH_take (i := 9) (oi := ⟨some 142, _, _, _, _, _⟩) (v := ?_) rfl (by kernel_rfl) (by kernel_rfl) (by kernel_rfl) (fun _ _ _ h => h) (Or.inl ⟨by rfl, ?_⟩) hHeld2 ?_
            rotate_left
            · intro w hSw
              (try dsimp only at hSw)
              go_simp
              try with_reducible rfl
            try simp only [Act.put, List.setIfInBounds_toArray, List.set_cons_zero, List.set_cons_succ]
            refine wpAnyH_take (i := 10) (oi := ⟨some 143, _, _, _, _, _⟩) (v := ?_) rfl (by kernel_rfl) (by kernel_rfl) (by kernel_rfl) (fun _ _ _ h => h) (Or.inl ⟨by rfl, ?_⟩) hHeld2 ?_
            rotate_left
            · intro w hSw
              (try dsimp only at hSw)
              go_simp
              try with_reducible rfl
            try simp only [Act.put, List.setIfInBounds_toArray, List.set_cons_zero, List.set_cons_succ]
            refine wpAnyH_take (i := 11) (oi := ⟨some 144, _, _, _, _, _⟩) (v := ?_) rfl (by kernel_rfl) (by kernel_rfl) (by kernel_rfl) (fun _ _ _ h => h) (Or.inl ⟨by rfl, ?_⟩) hHeld2 ?_
            rotate_left
            · intro w hSw
              (try dsimp only at hSw)
              go_simp
              try with_reducible rfl
            try simp only [Act.put, List.setIfInBounds_toArray, List.set_cons_zero, List.set_cons_succ]
            refine wpAnyH_ready (rs := [12]) (by kernel_rfl) (by simp) ?_
            refine AllReadyH.cons (o := ⟨some 145, _, _, _, _, _⟩) rfl (fun K hK => ?_) AllReadyH.nil
            go_simp
            go_at_call 8
            refine (HR.out _).mono ?_
            rintro e y3 ⟨rfl, hy3⟩
            (try go_wp2_with fail)
            refine hK.out _ _ ?_ (fun hHeld3 => ?_)
            · exact HK.out _ (below_chain7 (below_chain7 (drew_c hy1) hy2) hy3)
            clear hK K
            try simp only [Act.put, List.setIfInBounds_toArray, List.set_cons_zero, List.set_cons_succ]
            refine wpAnyH_take (i := 13) (oi := ⟨some 146, _, _, _, _, _⟩) (v := ?_) rfl (by kernel_rfl) (by kernel_rfl) (by kernel_rfl) (fun _ _ _ h => h) (Or.inl ⟨by rfl, ?_⟩) hHeld3 ?_
            rotate_left
            · intro w hSw
              (try dsimp only at hSw)
              go_simp
              try with_reducible rfl
            try simp only [Act.put, List.setIfInBounds_toArray, List.set_cons_zero, List.set_cons_succ]
            refine wpAnyH_take (i := 14) (oi := ⟨some 147, _, _, _, _, _⟩) (v := ?_) rfl (by kernel_rfl) (by kernel_rfl) (by kernel_rfl) (fun _ _ _ h => h) (Or.inl ⟨by rfl, ?_⟩) hHeld3 ?_
            rotate_left
            · intro w hSw
              (try dsimp only at hSw)
              go_simp
              try with_reducible rfl
            try simp only [Act.put, List.setIfInBounds_toArray, List.set_cons_zero, List.set_cons_succ]
            refine wpAnyH_take (i := 15) (oi := ⟨some 148, _, _, _, _, _⟩) (v := ?_) rfl (by kernel_rfl) (by kernel_rfl) (by kernel_rfl) (fun _ _ _ h => h) (Or.inl ⟨by rfl, ?_⟩) hHeld3 ?_
            rotate_left
            · intro w hSw
              (try dsimp only at hSw)
              go_simp
              try with_reducible rfl
            try simp only [Act.put, List.setIfInBounds_toArray, List.set_cons_zero, List.set_cons_succ]
            refine wpAnyH_take (i := 16) (oi := ⟨some 149, _, _, _, _, _⟩) (v := ?_) rfl (by kernel_rfl) (by kernel_rfl) (by kernel_rfl) (fun _ _ _ h => h) (Or.inl ⟨by rfl, ?_⟩) hHeld3 ?_
            rotate_left
            · intro w hSw
              (try dsimp only at hSw)
              go_simp
              try with_reducible rfl
            try simp only [Act.put, List.setIfInBounds_toArray, List.set_cons_zero, List.set_cons_succ]
            refine wpAnyH_take (i := 17) (oi := ⟨some 150, _, _, _, _, _⟩) (v := ?_) rfl (by kernel_rfl) (by kernel_rfl) (by kernel_rfl) (fun _ _ _ h => h) (Or.inl ⟨by rfl, ?_⟩) hHeld3 ?_
            rotate_left
            · intro w hSw
              (try dsimp only at hSw)
              go_simp
              try with_reducible rfl
            try simp only [Act.put, List.setIfInBounds_toArray, List.set_cons_zero, List.set_cons_succ]
            refine wpAnyH_take (i := 18) (oi := ⟨some 151, _, _, _, _, _⟩) (v := ?_) rfl (by kernel_rfl) (by kernel_rfl) (by kernel_rfl) (fun _ _ _ h => h) (Or.inl ⟨by rfl, ?_⟩) hHeld3 ?_
            rotate_left
            · intro w hSw
              (try dsimp only at hSw)
              go_simp
              try with_reducible rfl
            try simp only [Act.put, List.setIfInBounds_toArray, List.set_cons_zero, List.set_cons_succ]
            refine wpAnyH_ready (rs := [19]) (by kernel_rfl) (by simp) ?_
            refine AllReadyH.cons (o := ⟨some 152, _, _, _, _, _⟩) rfl (fun K hK => ?_) AllReadyH.nil
            go_simp
            go_at_call 8
            refine (HQ.out _).mono ?_
            rintro e y4 ⟨rfl, hy4⟩
            (try go_wp2_with fail)
            refine hK.out _ _ ?_ (fun hHeld4 => ?_)
            · exact HK.out _ (below_chain7 (below_chain7 (below_chain7 (drew_c hy1) hy2) hy3) hy4)
            clear hK K
            try simp only [Act.put, List.setIfInBounds_toArray, List.set_cons_zero, List.set_cons_succ]
            refine wpAnyH_take (i := 20) (oi := ⟨some 153, _, _, _, _, _⟩) (v := ?_) rfl (by kernel_rfl) (by kernel_rfl) (by kernel_rfl) (fun _ _ _ h => h) (Or.inl ⟨by rfl, ?_⟩) hHeld4 ?_
            rotate_left
            · intro w hSw
              (try dsimp only at hSw)
              go_simp
              try with_reducible rfl
            try simp only [Act.put, List.setIfInBounds_toArray, List.set_cons_zero, List.set_cons_succ]
            refine wpAnyH_take (i := 21) (oi := ⟨some 154, _, _, _, _, _⟩) (v := undef) rfl (by kernel_rfl) (by kernel_rfl) (by kernel_rfl) (fun _ _ _ h => h) (Or.inr ⟨by rfl, rfl⟩) hHeld4 ?_
            try simp only [Act.put, List.setIfInBounds_toArray, List.set_cons_zero, List.set_cons_succ]
            refine wpAnyH_take (i := 22) (oi := ⟨some 155, _, _, _, _, _⟩) (v := undef) rfl (by kernel_rfl) (by kernel_rfl) (by kernel_rfl) (fun _ _ _ h => h) (Or.inr ⟨by rfl, rfl⟩) hHeld4 ?_
            try simp only [Act.put, List.setIfInBounds_toArray, List.set_cons_zero, List.set_cons_succ]
            refine wpAnyH_take (i := 23) (oi := ⟨some 156, _, _, _, _, _⟩) (v := undef) rfl (by kernel_rfl) (by kernel_rfl) (by kernel_rfl) (fun _ _ _ h => h) (Or.inr ⟨by rfl, rfl⟩) hHeld4 ?_
            try simp only [Act.put, List.setIfInBounds_toArray, List.set_cons_zero, List.set_cons_succ]
            refine wpAnyH_take (i := 24) (oi := ⟨some 157, _, _, _, _, _⟩) (v := undef) rfl (by kernel_rfl) (by kernel_rfl) (by kernel_rfl) (fun _ _ _ h => h) (Or.inr ⟨by rfl, rfl⟩) hHeld4 ?_
            try simp only [Act.put, List.setIfInBounds_toArray, List.set_cons_zero, List.set_cons_succ]
            refine wpAnyH_take (i := 25) (oi := ⟨some 158, _, _, _, _, _⟩) (v := ?_) rfl (by kernel_rfl) (by kernel_rfl) (by kernel_rfl) (fun _ _ _ h => h) (Or.inl ⟨by rfl, ?_⟩) hHeld4 ?_
            rotate_left
            · intro w hSw
              (try dsimp only at hSw)
              go_simp
              try with_reducible rfl
            try simp only [Act.put, List.setIfInBounds_toArray, List.set_cons_zero, List.set_cons_succ]
            refine wpAnyH_take (i := 26) (oi := ⟨some 159, _, _, _, _, _⟩) (v := ?_) rfl (by kernel_rfl) (by kernel_rfl) (by kernel_rfl) (fun _ _ _ h => h) (Or.inl ⟨by rfl, ?_⟩) hHeld4 ?_
            rotate_left
            · intro w hSw
              (try dsimp only at hSw)
              go_simp
              try with_reducible rfl
            try simp only [Act.put, List.setIfInBounds_toArray, List.set_cons_zero, List.set_cons_succ]
            refine wpAnyH_done (by kernel_rfl) ?_ _
            go_wp2
            go_roundw
            case rel => exact ⟨2, by omega, by go_num, fun e he => HY.out.keep (below_chain7 (below_chain7 (below_chain7 (drew_c hy1) hy2) hy3) hy4) e (.tail _ he), below_chain7 hcy (below_chain7 (below_chain7 (below_chain7 (drew_c hy1) hy2) hy3) hy4)⟩
            case measure => simp [intOf]
      · have s0 : wr.cell? ⟨gs, 4, none⟩ = some (.int .u64 (ph : Nat)) := cell_row (HB.out _ (.head _)) 4
        have s1 : wr.cell? ⟨gs, 5, none⟩ = some (.int .u64 (fl : Nat)) := cell_row (HB.out _ (.head _)) 5
        have hgs := HB.out.lt (.head _)
        obtain ⟨hp, hq, hr, ⟨e1, e2⟩, HP', HQ', HR'⟩ := HS.out ph fl b5 b7
        have HP := Lib.hid HP'
        have HQ := Lib.hid HQ'
        have HR := Lib.hid HR'
        have HY := Lib.hid (HB.out.new #[.int .u64 (ph : Nat), .int .u64 (fl : Nat)] 25)
        have hcy := hcr.alloc hcr.size (.cells #[.int .u64 (ph : Nat), .int .u64 (fl : Nat)] 25)
        clear HP' HQ' HR'
        rw [show ((2 : Nat) : Int) = 2 from rfl]
        go_wp2
        generalize wr.alloc (.cells #[.int .u64 (ph : Nat), .int .u64 (fl : Nat)] 25) = y at *
        generalize wr.heap.size = ga at *
        have HK : Hid (∀ W, Below y.heap.size y W → (fun W => ((W.cell? ⟨gp, 0, none⟩ = some (.int .u64 (ph : Nat)) ∧ W.cell? ⟨gp, 1, none⟩ = some (.int .u64 (pl : Nat)) ∧ W.cell? ⟨gp, 2, none⟩ = some (.int .i64 (k : Nat))) ∧ (W.cell? ⟨gq, 0, none⟩ = some (.int .u64 (ph : Nat)) ∧ W.cell? ⟨gq, 1, none⟩ = some (.int .u64 (pl : Nat)) ∧ W.cell? ⟨gq, 2, none⟩ = some (.int .i64 ((k : Int) + 1))) ∧ (W.cell? ⟨gr, 0, none⟩ = some (.int .u64 (ph : Nat)) ∧ W.cell? ⟨gr, 1, none⟩ = some (.int .u64 (fl : Nat)) ∧ W.cell? ⟨gr, 2, none⟩ = some (.int .i64 ((k : Int) + 1)))) ∧ W.cell? ⟨ga, 0, none⟩ = some (.int .u64 (ph : Nat)) ∧ W.cell? ⟨ga, 1, none⟩ = some (.int .u64 (fl : Nat))) W) := fun W hW => by
          have h := HY.out.keep hW
          exact ⟨⟨(h.r3 (b := gp) (by repeat first | exact .head _ | apply List.Mem.tail)).2, (h.r3 (b := gq) (by repeat first | exact .head _ | apply List.Mem.tail)).2, (h.r3 (b := gr) (by repeat first | exact .head _ | apply List.Mem.tail)).2⟩, (h.r2 (b := ga) (.head _)).2⟩
        clear s0 s1 hgs
        cases hq with
        | true =>
          obtain rfl : hr = false := by simpa using e2
          obtain rfl : hp = true := by simpa using e1
          clear e1 e2
          refine wp_region_held_drew (S := fun W => ((W.cell? ⟨gp, 0, none⟩ = some (.int .u64 (ph : Nat)) ∧ W.cell? ⟨gp, 1, none⟩ = some (.int .u64 (pl : Nat)) ∧ W.cell? ⟨gp, 2, none⟩ = some (.int .i64 (k : Nat))) ∧ (W.cell? ⟨gq, 0, none⟩ = some (.int .u64 (ph : Nat)) ∧ W.cell? ⟨gq, 1, none⟩ = some (.int .u64 (pl : Nat)) ∧ W.cell? ⟨gq, 2, none⟩ = some (.int .i64 ((k : Int) + 1))) ∧ (W.cell? ⟨gr, 0, none⟩ = some (.int .u64 (ph : Nat)) ∧ W.cell? ⟨gr, 1, none⟩ = some (.int .u64 (fl : Nat)) ∧ W.cell? ⟨gr, 2, none⟩ = some (.int .i64 ((k : Int) + 1)))) ∧ W.cell? ⟨ga, 0, none⟩ = some (.int .u64 (ph : Nat)) ∧ W.cell? ⟨ga, 1, none⟩ = some (.int .u64 (fl : Nat))) (by kernel_rfl) ?_ (fun hHeld => ?_)
          · exact HK.out _ (Below.refl _ _).drew
          refine wpAnyH_take (i := 0) (oi := ⟨some 133, _, _, _, _, _⟩) (v := ?_) rfl (by kernel_rfl) (by kernel_rfl) (by kernel_rfl) (fun _ _ _ h => h) (Or.inl ⟨by rfl, ?_⟩) hHeld ?_
          rotate_left
          · intro w hSw
            (try dsimp only at hSw)
            go_simp
            try with_reducible rfl
          try simp only [Act.put, List.setIfInBounds_toArray, List.set_cons_zero, List.set_cons_succ]
          refine wpAnyH_take (i := 1) (oi := ⟨some 134, _, _, _, _, _⟩) (v := ?_) rfl (by kernel_rfl) (by kernel_rfl) (by kernel_rfl) (fun _ _ _ h => h) (Or.inl ⟨by rfl, ?_⟩) hHeld ?_
          rotate_left
          · intro w hSw
            (try dsimp only at hSw)
            go_simp
            try with_reducible rfl
          try simp only [Act.put, List.setIfInBounds_toArray, List.set_cons_zero, List.set_cons_succ]
          refine wpAnyH_take (i := 2) (oi := ⟨some 135, _, _, _, _, _⟩) (v := ?_) rfl (by kernel_rfl) (by kernel_rfl) (by kernel_rfl) (fun _ _ _ h => h) (Or.inl ⟨by rfl, ?_⟩) hHeld ?_
          rotate_left
          · intro w hSw
            (try dsimp only at hSw)
            go_simp
            try with_reducible rfl
          try simp only [Act.put, List.setIfInBounds_toArray, List.set_cons_zero, List.set_cons_succ]
          refine wpAnyH_take (i := 4) (oi := ⟨some 137, _, _, _, _, _⟩) (v := ?_) rfl (by kernel_rfl) (by kernel_rfl) (by kernel_rfl) (fun _ _ _ h => h) (Or.inl ⟨by rfl, ?_⟩) hHeld ?_
          rotate_left
          · intro w hSw
            (try dsimp only at hSw)
            go_simp
            try with_reducible rfl
          try simp only [Act.put, List.setIfInBounds_toArray, List.set_cons_zero, List.set_cons_succ]
          refine wpAnyH_take (i := 5) (oi := ⟨some 138, _, _, _, _, _⟩) (v := ?_) rfl (by kernel_rfl) (by kernel_rfl) (by kernel_rfl) (fun _ _ _ h => h) (Or.inl ⟨by rfl, ?_⟩) hHeld ?_
          rotate_left
          · intro w hSw
            (try dsimp only at hSw)
            go_simp
            try with_reducible rfl
          try simp only [Act.put, List.setIfInBounds_toArray, List.set_cons_zero, List.set_cons_succ]
          refine wpAnyH_take (i := 6) (oi := ⟨some 139, _, _, _, _, _⟩) (v := ?_) rfl (by kernel_rfl) (by kernel_rfl) (by kernel_rfl) (fun _ _ _ h => h) (Or.inl ⟨by rfl, ?_⟩) hHeld ?_
          rotate_left
          · intro w hSw
            (try dsimp only at hSw)
            go_simp
            try with_reducible rfl
          try simp only [Act.put, List.setIfInBounds_toArray, List.set_cons_zero, List.set_cons_succ]
          refine wpAnyH_ready (rs := [3]) (by kernel_rfl) (by simp) ?_
          refine AllReadyH.cons (o := ⟨some 136, _, _, _, _, _⟩) rfl (fun K hK => ?_) AllReadyH.nil
          go_simp
          go_at_call 8
          refine (HP.out _).mono ?_
          rintro e y1 ⟨rfl, hy1⟩
          (try go_wp2_with fail)
          refine hK.out _ _ ?_ (fun hHeld1 => ?_)
          · exact HK.out _ (drew_c hy1)
          clear hK K
          try simp only [Act.put, List.setIfInBounds_toArray, List.set_cons_zero, List.set_cons_succ]
          refine wpAnyH_ready (rs := [7]) (by kernel_rfl) (by simp) ?_
          refine AllReadyH.cons (o := ⟨some 140, _, _, _, _, _⟩) rfl (fun K hK => ?_) AllReadyH.nil
          go_simp
          go_at_call 8
          refine (HQ.out _).mono ?_
          rintro e y2 ⟨rfl, hy2⟩
          (try go_wp2_with fail)
          refine hK.out _ _ ?_ (fun hHeld2 => ?_)
          · exact HK.out _ (below_chain7 (drew_c hy1) hy2)
          clear hK K
          try simp only [Act.put, List.setIfInBounds_toArray, List.set_cons_zero, List.set_cons_succ]
          refine wpAnyH_take (i := 8) (oi := ⟨some 141, _, _, _, _, _⟩) (v := ?_) rfl (by kernel_rfl) (by kernel_rfl) (by kernel_rfl) (fun _ _ _ h => h) (Or.inl ⟨by rfl, ?_⟩) hHeld2 ?_
          rotate_left
          · intro w hSw
            (try dsimp only at hSw)
            go_simp
            try with_reducible rfl
          try simp only [Act.put, List.setIfInBounds_toArray, List.set_cons_zero, List.set_cons_succ]
          refine wpAnyH_take (i := 9) (oi := ⟨some 142, _, _, _, _, _⟩) (v := undef) rfl (by kernel_rfl) (by kernel_rfl) (by kernel_rfl) (fun _ _ _ h => h) (Or.inr ⟨by rfl, rfl⟩) hHeld2 ?_
          try simp only [Act.put, List.setIfInBounds_toArray, List.set_cons_zero, List.set_cons_succ]
          refine wpAnyH_take (i := 10) (oi := ⟨some 143, _, _, _, _, _⟩) (v := undef) rfl (by kernel_rfl) (by kernel_rfl) (by kernel_rfl) (fun _ _ _ h => h) (Or.inr ⟨by rfl, rfl⟩) hHeld2 ?_
          try simp only [Act.put, List.setIfInBounds_toArray, List.set_cons_zero, List.set_cons_succ]
          refine wpAnyH_take (i := 11) (oi := ⟨some 144, _, _, _, _, _⟩) (v := undef) rfl (by kernel_rfl) (by kernel_rfl) (by kernel_rfl) (fun _ _ _ h => h) (Or.inr ⟨by rfl, rfl⟩) hHeld2 ?_
          try simp only [Act.put, List.setIfInBounds_toArray, List.set_cons_zero, List.set_cons_succ]
          refine wpAnyH_take (i := 12) (oi := ⟨some 145, _, _, _, _, _⟩) (v := undef) rfl (by kernel_rfl) (by kernel_rfl) (by kernel_rfl) (fun _ _ _ h => h) (Or.inr ⟨by rfl, rfl⟩) hHeld2 ?_
          try simp only [Act.put, List.setIfInBounds_toArray, List.set_cons_zero, List.set_cons_succ]
          refine wpAnyH_take (i := 13) (oi := ⟨some 146, _, _, _, _, _⟩) (v := ?_) rfl (by kernel_rfl) (by kernel_rfl) (by kernel_rfl) (fun _ _ _ h => h) (Or.inl ⟨by rfl, ?_⟩) hHeld2 ?_
          rotate_left
          · intro w hSw
            (try dsimp only at hSw)
            go_simp
            try with_reducible rfl
          try simp only [Act.put, List.setIfInBounds_toArray, List.set_cons_zero, List.set_cons_succ]
          refine wpAnyH_take (i := 14) (oi := ⟨some 147, _, _, _, _, _⟩) (v := ?_) rfl (by kernel_rfl) (by kernel_rfl) (by kernel_rfl) (fun _ _ _ h => h) (Or.inl ⟨by rfl, ?_⟩) hHeld2 ?_
          rotate_left
          · intro w hSw
            (try dsimp only at hSw)
            go_simp
            try with_reducible rfl
          try simp only [Act.put, List.setIfInBounds_toArray, List.set_cons_zero, List.set_cons_succ]
          refine wpAnyH_take (i := 15) (oi := ⟨some 148, _, _, _, _, _⟩) (v := ?_) rfl (by kernel_rfl) (by kernel_rfl) (by kernel_rfl) (fun _ _ _ h => h) (Or.inl ⟨by rfl, ?_⟩) hHeld2 ?_
          rotate_left
          · intro w hSw
            (try dsimp only at hSw)
            go_simp
            try with_reducible rfl
          try simp only [Act.put, List.setIfInBounds_toArray, List.set_cons_zero, List.set_cons_succ]
          refine wpAnyH_take (i := 16) (oi := ⟨some 149, _, _, _, _, _⟩) (v := ?_) rfl (by kernel_rfl) (by kernel_rfl) (by kernel_rfl) (fun _ _ _ h => h) (Or.inl ⟨by rfl, ?_⟩) hHeld2 ?_
          rotate_left
          · intro w hSw
            (try dsimp only at hSw)
            go_simp
            try with_reducible rfl
          try simp only [Act.put, List.setIfInBounds_toArray, List.set_cons_zero, List.set_cons_succ]
          refine wpAnyH_take (i := 17) (oi := ⟨some 150, _, _, _, _, _⟩) (v := ?_) rfl (by kernel_rfl) (by kernel_rfl) (by kernel_rfl) (fun _ _ _ h => h) (Or.inl ⟨by rfl, ?_⟩) hHeld2 ?_
          rotate_left
          · intro w hSw
            (try dsimp only at hSw)
            go_simp
            try with_reducible rfl
          try simp only [Act.put, List.setIfInBounds_toArray, List.set_cons_zero, List.set_cons_succ]
          refine wpAnyH_take (i := 18) (oi := ⟨some 151, _, _, _, _, _⟩) (v := ?_) rfl (by kernel_rfl) (by kernel_rfl) (by kernel_rfl) (fun _ _ _ h => h) (Or.inl ⟨by rfl, ?_⟩) hHeld2 ?_
          rotate_left
          · intro w hSw
            (try dsimp only at hSw)
            go_simp
            try with_reducible rfl
          try simp only [Act.put, List.setIfInBounds_toArray, List.set_cons_zero, List.set_cons_succ]
          refine wpAnyH_ready (rs := [19]) (by kernel_rfl) (by simp) ?_
          refine AllReadyH.cons (o := ⟨some 152, _, _, _, _, _⟩) rfl (fun K hK => ?_) AllReadyH.nil
          go_simp
          go_at_call 8
          refine (HQ.out _).mono ?_
          rintro e y3 ⟨rfl, hy3⟩
          (try go_wp2_with fail)
          refine hK.out _ _ ?_ (fun hHeld3 => ?_)
          · exact HK.out _ (below_chain7 (below_chain7 (drew_c hy1) hy2) hy3)
          clear hK K
          try simp only [Act.put, List.setIfInBounds_toArray, List.set_cons_zero, List.set_cons_succ]
          refine wpAnyH_take (i := 20) (oi := ⟨some 153, _, _, _, _, _⟩) (v := ?_) rfl (by kernel_rfl) (by kernel_rfl) (by kernel_rfl) (fun _ _ _ h => h) (Or.inl ⟨by rfl, ?_⟩) hHeld3 ?_
          rotate_left
          · intro w hSw
            (try dsimp only at hSw)
            go_simp
            try with_reducible rfl
          try simp only [Act.put, List.setIfInBounds_toArray, List.set_cons_zero, List.set_cons_succ]
          refine wpAnyH_take (i := 21) (oi := ⟨some 154, _, _, _, _, _⟩) (v := ?_) rfl (by kernel_rfl) (by kernel_rfl) (by kernel_rfl) (fun _ _ _ h => h) (Or.inl ⟨by rfl, ?_⟩) hHeld3 ?_
          rotate_left
          · intro w hSw
            (try dsimp only at hSw)
            go_simp
            try with_reducible rfl
          try simp only [Act.put, List.setIfInBounds_toArray, List.set_cons_zero, List.set_cons_succ]
          refine wpAnyH_take (i := 22) (oi := ⟨some 155, _, _, _, _, _⟩) (v := ?_) rfl (by kernel_rfl) (by kernel_rfl) (by kernel_rfl) (fun _ _ _ h => h) (Or.inl ⟨by rfl, ?_⟩) hHeld3 ?_
          rotate_left
          · intro w hSw
            (try dsimp only at hSw)
            go_simp
            try with_reducible rfl
          try simp only [Act.put, List.setIfInBounds_toArray, List.set_cons_zero, List.set_cons_succ]
          refine wpAnyH_take (i := 23) (oi := ⟨some 156, _, _, _, _, _⟩) (v := ?_) rfl (by kernel_rfl) (by kernel_rfl) (by kernel_rfl) (fun _ _ _ h => h) (Or.inl ⟨by rfl, ?_⟩) hHeld3 ?_
          rotate_left
          · intro w hSw
            (try dsimp only at hSw)
            go_simp
            try with_reducible rfl
          try simp only [Act.put, List.setIfInBounds_toArray, List.set_cons_zero, List.set_cons_succ]
          refine wpAnyH_ready (rs := [24]) (by kernel_rfl) (by simp) ?_
          refine AllReadyH.cons (o := ⟨some 157, _, _, _, _, _⟩) rfl (fun K hK => ?_) AllReadyH.nil
          go_simp
          go_at_call 8
          refine (HR.out _).mono ?_
          rintro e y4 ⟨rfl, hy4⟩
          (try go_wp2_with fail)
          refine hK.out _ _ ?_ (fun hHeld4 => ?_)
          · exact HK.out _ (below_chain7 (below_chain7 (below_chain7 (drew_c hy1) hy2) hy3) hy4)
          clear hK K
          try simp only [Act.put, List.setIfInBounds_toArray, List.set_cons_zero, List.set_cons_succ]
          refine wpAnyH_take (i := 25) (oi := ⟨some 158, _, _, _, _, _⟩) (v := ?_) rfl (by kernel_rfl) (by kernel_rfl) (by kernel_rfl) (fun _ _ _ h => h) (Or.inl ⟨by rfl, ?_⟩) hHeld4 ?_
          rotate_left
          · intro w hSw
            (try dsimp only at hSw)
            go_simp
            try with_reducible rfl
          try simp only [Act.put, List.setIfInBounds_toArray, List.set_cons_zero, List.set_cons_succ]
          refine wpAnyH_take (i := 26) (oi := ⟨some 159, _, _, _, _, _⟩) (v := ?_) rfl (by kernel_rfl) (by kernel_rfl) (by kernel_rfl) (fun _ _ _ h => h) (Or.inl ⟨by rfl, ?_⟩) hHeld4 ?_
          rotate_left
          · intro w hSw
            (try dsimp only at hSw)
            go_simp
            try with_reducible rfl
          try simp only [Act.put, List.setIfInBounds_toArray, List.set_cons_zero, List.set_cons_succ]
          refine wpAnyH_done (by kernel_rfl) ?_ _
          go_wp2
          go_roundw
          case rel => exact ⟨3, by omega, by go_num, fun e he => HY.out.keep (below_chain7 (below_chain7 (below_chain7 (drew_c hy1) hy2) hy3) hy4) e (.tail _ he), below_chain7 hcy (below_chain7 (below_chain7 (below_chain7 (drew_c hy1) hy2) hy3) hy4)⟩
          case measure => simp [intOf]
        | false =>
          obtain rfl : hp = hr := by simpa using e1
          clear e1 e2
          cases hp with
          | true =>
            refine wp_region_held_drew (S := fun W => ((W.cell? ⟨gp, 0, none⟩ = some (.int .u64 (ph : Nat)) ∧ W.cell? ⟨gp, 1, none⟩ = some (.int .u64 (pl : Nat)) ∧ W.cell? ⟨gp, 2, none⟩ = some (.int .i64 (k : Nat))) ∧ (W.cell? ⟨gq, 0, none⟩ = some (.int .u64 (ph : Nat)) ∧ W.cell? ⟨gq, 1, none⟩ = some (.int .u64 (pl : Nat)) ∧ W.cell? ⟨gq, 2, none⟩ = some (.int .i64 ((k : Int) + 1))) ∧ (W.cell? ⟨gr, 0, none⟩ = some (.int .u64 (ph : Nat)) ∧ W.cell? ⟨gr, 1, none⟩ = some (.int .u64 (fl : Nat)) ∧ W.cell? ⟨gr, 2, none⟩ = some (.int .i64 ((k : Int) + 1)))) ∧ W.cell? ⟨ga, 0, none⟩ = some (.int .u64 (ph : Nat)) ∧ W.cell? ⟨ga, 1, none⟩ = some (.int .u64 (fl : Nat))) (by kernel_rfl) ?_ (fun hHeld => ?_)
            · exact HK.out _ (Below.refl _ _).drew
            refine wpAnyH_take (i := 0) (oi := ⟨some 133, _, _, _, _, _⟩) (v := ?_) rfl (by kernel_rfl) (by kernel_rfl) (by kernel_rfl) (fun _ _ _ h => h) (Or.inl ⟨by rfl, ?_⟩) hHeld ?_
            rotate_left
            · intro w hSw
              (try dsimp only at hSw)
              go_simp
              try with_reducible rfl
            try simp only [Act.put, List.setIfInBounds_toArray, List.set_cons_zero, List.set_cons_succ]
            refine wpAnyH_take (i := 1) (oi := ⟨some 134, _, _, _, _, _⟩) (v := ?_) rfl (by kernel_rfl) (by kernel_rfl) (by kernel_rfl) (fun _ _ _ h => h) (Or.inl ⟨by rfl, ?_⟩) hHeld ?_
            rotate_left
            · intro w hSw
              (try dsimp only at hSw)
              go_simp
              try with_reducible rfl
            try simp only [Act.put, List.setIfInBounds_toArray, List.set_cons_zero, List.set_cons_succ]
            refine wpAnyH_take (i := 2) (oi := ⟨some 135, _, _, _, _, _⟩) (v := ?_) rfl (by kernel_rfl) (by kernel_rfl) (by kernel_rfl) (fun _ _ _ h => h) (Or.inl ⟨by rfl, ?_⟩) hHeld ?_
            rotate_left
            · intro w hSw
              (try dsimp only at hSw)
              go_simp
              try with_reducible rfl
            try simp only [Act.put, List.setIfInBounds_toArray, List.set_cons_zero, List.set_cons_succ]
            refine wpAnyH_take (i := 4) (oi := ⟨some 137, _, _, _, _, _⟩) (v := ?_) rfl (by kernel_rfl) (by kernel_rfl) (by kernel_rfl) (fun _ _ _ h => h) (Or.inl ⟨by rfl, ?_⟩) hHeld ?_
            rotate_left
            · intro w hSw
              (try dsimp only at hSw)
              go_simp
              try with_reducible rfl
            try simp only [Act.put, List.setIfInBounds_toArray, List.set_cons_zero, List.set_cons_succ]
            refine wpAnyH_take (i := 5) (oi := ⟨some 138, _, _, _, _, _⟩) (v := ?_) rfl (by kernel_rfl) (by kernel_rfl) (by kernel_rfl) (fun _ _ _ h => h) (Or.inl ⟨by rfl, ?_⟩) hHeld ?_
            rotate_left
            · intro w hSw
              (try dsimp only at hSw)
              go_simp
              try with_reducible rfl
            try simp only [Act.put, List.setIfInBounds_toArray, List.set_cons_zero, List.set_cons_succ]
            refine wpAnyH_take (i := 6) (oi := ⟨some 139, _, _, _, _, _⟩) (v := ?_) rfl (by kernel_rfl) (by kernel_rfl) (by kernel_rfl) (fun _ _ _ h => h) (Or.inl ⟨by rfl, ?_⟩) hHeld ?_
            rotate_left
            · intro w hSw
              (try dsimp only at hSw)
              go_simp
              try with_reducible rfl
            try simp only [Act.put, List.setIfInBounds_toArray, List.set_cons_zero, List.set_cons_succ]
            refine wpAnyH_ready (rs := [3]) (by kernel_rfl) (by simp) ?_
            refine AllReadyH.cons (o := ⟨some 136, _, _, _, _, _⟩) rfl (fun K hK => ?_) AllReadyH.nil
            go_simp
            go_at_call 8
            refine (HP.out _).mono ?_
            rintro e y1 ⟨rfl, hy1⟩
            (try go_wp2_with fail)
            refine hK.out _ _ ?_ (fun hHeld1 => ?_)
            · exact HK.out _ (drew_c hy1)
            clear hK K
            try simp only [Act.put, List.setIfInBounds_toArray, List.set_cons_zero, List.set_cons_succ]
            refine wpAnyH_ready (rs := [7]) (by kernel_rfl) (by simp) ?_
            refine AllReadyH.cons (o := ⟨some 140, _, _, _, _, _⟩) rfl (fun K hK => ?_) AllReadyH.nil
            go_simp
            go_at_call 8
            refine (HQ.out _).mono ?_
            rintro e y2 ⟨rfl, hy2⟩
            (try go_wp2_with fail)
            refine hK.out _ _ ?_ (fun hHeld2 => ?_)
            · exact HK.out _ (below_chain7 (drew_c hy1) hy2)
            clear hK K
            try simp only [Act.put, List.setIfInBounds_toArray, List.set_cons_zero, List.set_cons_succ]
            refine wpAnyH_take (i := 8) (oi := ⟨some 141, _, _, _, _, _⟩) (v := ?_) rfl (by kernel_rfl) (by kernel_rfl) (by kernel_rfl) (fun _ _ _ h => h) (Or.inl ⟨by rfl, ?_⟩) hHeld2 ?_
            rotate_left
            · intro w hSw
              (try dsimp only at hSw)
              go_simp
              try with_reducible rfl
            try simp only [Act.put, List.setIfInBounds_toArray, List.set_cons_zero, List.set_cons_succ]
            refine wpAnyH_take (i := 9) (oi := ⟨some 142, _, _, _, _, _⟩) (v := ?_) rfl (by kernel_rfl) (by kernel_rfl) (by kernel_rfl) (fun _ _ _ h => h) (Or.inl ⟨by rfl, ?_⟩) hHeld2 ?_
            rotate_left
            · intro w hSw
              (try dsimp only at hSw)
              go_simp
              try with_reducible rfl
            try simp only [Act.put, List.setIfInBounds_toArray, List.set_cons_zero, List.set_cons_succ]
            refine wpAnyH_take (i := 10) (oi := ⟨some 143, _, _, _, _, _⟩) (v := ?_) rfl (by kernel_rfl) (by kernel_rfl) (by kernel_rfl) (fun _ _ _ h => h) (Or.inl ⟨by rfl, ?_⟩) hHeld2 ?_
            rotate_left
            · intro w hSw
              (try dsimp only at hSw)
              go_simp
              try with_reducible rfl
            try simp only [Act.put, List.setIfInBounds_toArray, List.set_cons_zero, List.set_cons_succ]
            refine wpAnyH_take (i := 11) (oi := ⟨some 144, _, _, _, _, _⟩) (v := ?_) rfl (by kernel_rfl) (by kernel_rfl) (by kernel_rfl) (fun _ _ _ h => h) (Or.inl ⟨by rfl, ?_⟩) hHeld2 ?_
            rotate_left
            · intro w hSw
              (try dsimp only at hSw)
              go_simp
              try with_reducible rfl
            try simp only [Act.put, List.setIfInBounds_toArray, List.set_cons_zero, List.set_cons_succ]
            refine wpAnyH_ready (rs := [12]) (by kernel_rfl) (by simp) ?_
            refine AllReadyH.cons (o := ⟨some 145, _, _, _, _, _⟩) rfl (fun K hK => ?_) AllReadyH.nil
            go_simp
            go_at_call 8
            refine (HR.out _).mono ?_
            rintro e y3 ⟨rfl, hy3⟩
            (try go_wp2_with fail)
            refine hK.out _ _ ?_ (fun hHeld3 => ?_)
            · exact HK.out _ (below_chain7 (below_chain7 (drew_c hy1) hy2) hy3)
            clear hK K
            try simp only [Act.put, List.setIfInBounds_toArray, List.set_cons_zero, List.set_cons_succ]
            refine wpAnyH_take (i := 13) (oi := ⟨some 146, _, _, _, _, _⟩) (v := ?_) rfl (by kernel_rfl) (by kernel_rfl) (by kernel_rfl) (fun _ _ _ h => h) (Or.inl ⟨by rfl, ?_⟩) hHeld3 ?_
            rotate_left
            · intro w hSw
              (try dsimp only at hSw)
              go_simp
              try with_reducible rfl
            try simp only [Act.put, List.setIfInBounds_toArray, List.set_cons_zero, List.set_cons_succ]
            refine wpAnyH_take (i := 14) (oi := ⟨some 147, _, _, _, _, _⟩) (v := ?_) rfl (by kernel_rfl) (by kernel_rfl) (by kernel_rfl) (fun _ _ _ h => h) (Or.inl ⟨by rfl, ?_⟩) hHeld3 ?_
            rotate_left
            · intro w hSw
              (try dsimp only at hSw)
              go_simp
              try with_reducible rfl
            try simp only [Act.put, List.setIfInBounds_toArray, List.set_cons_zero, List.set_cons_succ]
            refine wpAnyH_take (i := 15) (oi := ⟨some 148, _, _, _, _, _⟩) (v := ?_) rfl (by kernel_rfl) (by kernel_rfl) (by kernel_rfl) (fun _ _ _ h => h) (Or.inl ⟨by rfl, ?_⟩) hHeld3 ?_
            rotate_left
            · intro w hSw
              (try dsimp only at hSw)
              go_simp
              try with_reducible rfl
            try simp only [Act.put, List.setIfInBounds_toArray, List.set_cons_zero, List.set_cons_succ]
            refine wpAnyH_take (i := 16) (oi := ⟨some 149, _, _, _, _, _⟩) (v := ?_) rfl (by kernel_rfl) (by kernel_rfl) (by kernel_rfl) (fun _ _ _ h => h) (Or.inl ⟨by rfl, ?_⟩) hHeld3 ?_
            rotate_left
            · intro w hSw
              (try dsimp only at hSw)
              go_simp
              try with_reducible rfl
            try simp only [Act.put, List.setIfInBounds_toArray, List.set_cons_zero, List.set_cons_succ]
            refine wpAnyH_take (i := 17) (oi := ⟨some 150, _, _, _, _, _⟩) (v := ?_) rfl (by kernel_rfl) (by kernel_rfl) (by kernel_rfl) (fun _ _ _ h => h) (Or.inl ⟨by rfl, ?_⟩) hHeld3 ?_
            rotate_left
            · intro w hSw
              (try dsimp only at hSw)
              go_simp
              try with_reducible rfl
            try simp only [Act.put, List.setIfInBounds_toArray, List.set_cons_zero, List.set_cons_succ]
            refine wpAnyH_take (i := 18) (oi := ⟨some 151, _, _, _, _, _⟩) (v := ?_) rfl (by kernel_rfl) (by kernel_rfl) (by kernel_rfl) (fun _ _ _ h => h) (Or.inl ⟨by rfl, ?_⟩) hHeld3 ?_
            rotate_left
            · intro w hSw
              (try dsimp only at hSw)
              go_simp
              try with_reducible rfl
            try simp only [Act.put, List.setIfInBounds_toArray, List.set_cons_zero, List.set_cons_succ]
            refine wpAnyH_ready (rs := [19]) (by kernel_rfl) (by simp) ?_
            refine AllReadyH.cons (o := ⟨some 152, _, _, _, _, _⟩) rfl (fun K hK => ?_) AllReadyH.nil
            go_simp
            go_at_call 8
            refine (HQ.out _).mono ?_
            rintro e y4 ⟨rfl, hy4⟩
            (try go_wp2_with fail)
            refine hK.out _ _ ?_ (fun hHeld4 => ?_)
            · exact HK.out _ (below_chain7 (below_chain7 (below_chain7 (drew_c hy1) hy2) hy3) hy4)
            clear hK K
            try simp only [Act.put, List.setIfInBounds_toArray, List.set_cons_zero, List.set_cons_succ]
            refine wpAnyH_take (i := 20) (oi := ⟨some 153, _, _, _, _, _⟩) (v := ?_) rfl (by kernel_rfl) (by kernel_rfl) (by kernel_rfl) (fun _ _ _ h => h) (Or.inl ⟨by rfl, ?_⟩) hHeld4 ?_
            rotate_left
            · intro w hSw
              (try dsimp only at hSw)
              go_simp
              try with_reducible rfl
            try simp only [Act.put, List.setIfInBounds_toArray, List.set_cons_zero, List.set_cons_succ]
            refine wpAnyH_take (i := 21) (oi := ⟨some 154, _, _, _, _, _⟩) (v := undef) rfl (by kernel_rfl) (by kernel_rfl) (by kernel_rfl) (fun _ _ _ h => h) (Or.inr ⟨by rfl, rfl⟩) hHeld4 ?_
            try simp only [Act.put, List.setIfInBounds_toArray, List.set_cons_zero, List.set_cons_succ]
            refine wpAnyH_take (i := 22) (oi := ⟨some 155, _, _, _, _, _⟩) (v := undef) rfl (by kernel_rfl) (by kernel_rfl) (by kernel_rfl) (fun _ _ _ h => h) (Or.inr ⟨by rfl, rfl⟩) hHeld4 ?_
            try simp only [Act.put, List.setIfInBounds_toArray, List.set_cons_zero, List.set_cons_succ]
            refine wpAnyH_take (i := 23) (oi := ⟨some 156, _, _, _, _, _⟩) (v := undef) rfl (by kernel_rfl) (by kernel_rfl) (by kernel_rfl) (fun _ _ _ h => h) (Or.inr ⟨by rfl, rfl⟩) hHeld4 ?_
            try simp only [Act.put, List.setIfInBounds_toArray, List.set_cons_zero, List.set_cons_succ]
            refine wpAnyH_take (i := 24) (oi := ⟨some 157, _, _, _, _, _⟩) (v := undef) rfl (by kernel_rfl) (by kernel_rfl) (by kernel_rfl) (fun _ _ _ h => h) (Or.inr ⟨by rfl, rfl⟩) hHeld4 ?_
            try simp only [Act.put, List.setIfInBounds_toArray, List.set_cons_zero, List.set_cons_succ]
            refine wpAnyH_take (i := 25) (oi := ⟨some 158, _, _, _, _, _⟩) (v := ?_) rfl (by kernel_rfl) (by kernel_rfl) (by kernel_rfl) (fun _ _ _ h => h) (Or.inl ⟨by rfl, ?_⟩) hHeld4 ?_
            rotate_left
            · intro w hSw
              (try dsimp only at hSw)
              go_simp
              try with_reducible rfl
            try simp only [Act.put, List.setIfInBounds_toArray, List.set_cons_zero, List.set_cons_succ]
            refine wpAnyH_take (i := 26) (oi := ⟨some 159, _, _, _, _, _⟩) (v := ?_) rfl (by kernel_rfl) (by kernel_rfl) (by kernel_rfl) (fun _ _ _ h => h) (Or.inl ⟨by rfl, ?_⟩) hHeld4 ?_
            rotate_left
            · intro w hSw
              (try dsimp only at hSw)
              go_simp
              try with_reducible rfl
            try simp only [Act.put, List.setIfInBounds_toArray, List.set_cons_zero, List.set_cons_succ]
            refine wpAnyH_done (by kernel_rfl) ?_ _
            go_wp2
            go_roundw
            case rel => exact ⟨3, by omega, by go_num, fun e he => HY.out.keep (below_chain7 (below_chain7 (below_chain7 (drew_c hy1) hy2) hy3) hy4) e (.tail _ he), below_chain7 hcy (below_chain7 (below_chain7 (below_chain7 (drew_c hy1) hy2) hy3) hy4)⟩
            case measure => simp [intOf]
          | false =>
            refine wp_region_held_drew (S := fun W => ((W.cell? ⟨gp, 0, none⟩ = some (.int .u64 (ph : Nat)) ∧ W.cell? ⟨gp, 1, none⟩ = some (.int .u64 (pl : Nat)) ∧ W.cell? ⟨gp, 2, none⟩ = some (.int .i64 (k : Nat))) ∧ (W.cell? ⟨gq, 0, none⟩ = some (.int .u64 (ph : Nat)) ∧ W.cell? ⟨gq, 1, none⟩ = some (.int .u64 (pl : Nat)) ∧ W.cell? ⟨gq, 2, none⟩ = some (.int .i64 ((k : Int) + 1))) ∧ (W.cell? ⟨gr, 0, none⟩ = some (.int .u64 (ph : Nat)) ∧ W.cell? ⟨gr, 1, none⟩ = some (.int .u64 (fl : Nat)) ∧ W.cell? ⟨gr, 2, none⟩ = some (.int .i64 ((k : Int) + 1)))) ∧ W.cell? ⟨ga, 0, none⟩ = some (.int .u64 (ph : Nat)) ∧ W.cell? ⟨ga, 1, none⟩ = some (.int .u64 (fl : Nat))) (by kernel_rfl) ?_ (fun hHeld => ?_)
            · exact HK.out _ (Below.refl _ _).drew
            refine wpAnyH_take (i := 0) (oi := ⟨some 133, _, _, _, _, _⟩) (v := ?_) rfl (by kernel_rfl) (by kernel_rfl) (by kernel_rfl) (fun _ _ _ h => h) (Or.inl ⟨by rfl, ?_⟩) hHeld ?_
            rotate_left
            · intro w hSw
              (try dsimp only at hSw)
              go_simp
              try with_reducible rfl
            try simp only [Act.put, List.setIfInBounds_toArray, List.set_cons_zero, List.set_cons_succ]
            refine wpAnyH_take (i := 1) (oi := ⟨some 134, _, _, _, _, _⟩) (v := ?_) rfl (by kernel_rfl) (by kernel_rfl) (by kernel_rfl) (fun _ _ _ h => h) (Or.inl ⟨by rfl, ?_⟩) hHeld ?_
            rotate_left
            · intro w hSw
              (try dsimp only at hSw)
              go_simp
              try with_reducible rfl
            try simp only [Act.put, List.setIfInBounds_toArray, List.set_cons_zero, List.set_cons_succ]
            refine wpAnyH_take (i := 2) (oi := ⟨some 135, _, _, _, _, _⟩) (v := ?_) rfl (by kernel_rfl) (by kernel_rfl) (by kernel_rfl) (fun _ _ _ h => h) (Or.inl ⟨by rfl, ?_⟩) hHeld ?_
            rotate_left
            · intro w hSw
              (try dsimp only at hSw)
              go_simp
              try with_reducible rfl
            try simp only [Act.put, List.setIfInBounds_toArray, List.set_cons_zero, List.set_cons_succ]
            refine wpAnyH_take (i := 4) (oi := ⟨some 137, _, _, _, _, _⟩) (v := ?_) rfl (by kernel_rfl) (by kernel_rfl) (by kernel_rfl) (fun _ _ _ h => h) (Or.inl ⟨by rfl, ?_⟩) hHeld ?_
            rotate_left
            · intro w hSw
              (try dsimp only at hSw)
              go_simp
              try with_reducible rfl
            try simp only [Act.put, List.setIfInBounds_toArray, List.set_cons_zero, List.set_cons_succ]
            refine wpAnyH_take (i := 5) (oi := ⟨some 138, _, _, _, _, _⟩) (v := ?_) rfl (by kernel_rfl) (by kernel_rfl) (by kernel_rfl) (fun _ _ _ h => h) (Or.inl ⟨by rfl, ?_⟩) hHeld ?_
            rotate_left
            · intro w hSw
              (try dsimp only at hSw)
              go_simp
              try with_reducible rfl
            try simp only [Act.put, List.setIfInBounds_toArray, List.set_cons_zero, List.set_cons_succ]
            refine wpAnyH_take (i := 6) (oi := ⟨some 139, _, _, _, _, _⟩) (v := ?_) rfl (by kernel_rfl) (by kernel_rfl) (by kernel_rfl) (fun _ _ _ h => h) (Or.inl ⟨by rfl, ?_⟩) hHeld ?_
            rotate_left
            · intro w hSw
              (try dsimp only at hSw)
              go_simp
              try with_reducible rfl
            try simp only [Act.put, List.setIfInBounds_toArray, List.set_cons_zero, List.set_cons_succ]
            refine wpAnyH_ready (rs := [3]) (by kernel_rfl) (by simp) ?_
            refine AllReadyH.cons (o := ⟨some 136, _, _, _, _, _⟩) rfl (fun K hK => ?_) AllReadyH.nil
            go_simp
            go_at_call 8
            refine (HP.out _).mono ?_
            rintro e y1 ⟨rfl, hy1⟩
            (try go_wp2_with fail)
            refine hK.out _ _ ?_ (fun hHeld1 => ?_)
            · exact HK.out _ (drew_c hy1)
            clear hK K
            try simp only [Act.put, List.setIfInBounds_toArray, List.set_cons_zero, List.set_cons_succ]
            refine wpAnyH_ready (rs := [7]) (by kernel_rfl) (by simp) ?_
            refine AllReadyH.cons (o := ⟨some 140, _, _, _, _, _⟩) rfl (fun K hK => ?_) AllReadyH.nil
            go_simp
            go_at_call 8
            refine (HQ.out _).mono ?_
            rintro e y2 ⟨rfl, hy2⟩
            (try go_wp2_with fail)
            refine hK.out _ _ ?_ (fun hHeld2 => ?_)
            · exact HK.out _ (below_chain7 (drew_c hy1) hy2)
            clear hK K
            try simp only [Act.put, List.setIfInBounds_toArray, List.set_cons_zero, List.set_cons_succ]
            refine wpAnyH_take (i := 8) (oi := ⟨some 141, _, _, _, _, _⟩) (v := ?_) rfl (by kernel_rfl) (by kernel_rfl) (by kernel_rfl) (fun _ _ _ h => h) (Or.inl ⟨by rfl, ?_⟩) hHeld2 ?_
            rotate_left
            · intro w hSw
              (try dsimp only at hSw)
              go_simp
              try with_reducible rfl
            try simp only [Act.put, List.setIfInBounds_toArray, List.set_cons_zero, List.set_cons_succ]
            refine wpAnyH_take (i := 9) (oi := ⟨some 142, _, _, _, _, _⟩) (v := ?_) rfl (by kernel_rfl) (by kernel_rfl) (by kernel_rfl) (fun _ _ _ h => h) (Or.inl ⟨by rfl, ?_⟩) hHeld2 ?_
            rotate_left
            · intro w hSw
              (try dsimp only at hSw)
              go_simp
              try with_reducible rfl
            try simp only [Act.put, List.setIfInBounds_toArray, List.set_cons_zero, List.set_cons_succ]
            refine wpAnyH_take (i := 10) (oi := ⟨some 143, _, _, _, _, _⟩) (v := ?_) rfl (by kernel_rfl) (by kernel_rfl) (by kernel_rfl) (fun _ _ _ h => h) (Or.inl ⟨by rfl, ?_⟩) hHeld2 ?_
            rotate_left
            · intro w hSw
              (try dsimp only at hSw)
              go_simp
              try with_reducible rfl
            try simp only [Act.put, List.setIfInBounds_toArray, List.set_cons_zero, List.set_cons_succ]
            refine wpAnyH_take (i := 11) (oi := ⟨some 144, _, _, _, _, _⟩) (v := ?_) rfl (by kernel_rfl) (by kernel_rfl) (by kernel_rfl) (fun _ _ _ h => h) (Or.inl ⟨by rfl, ?_⟩) hHeld2 ?_
            rotate_left
            · intro w hSw
              (try dsimp only at hSw)
              go_simp
              try with_reducible rfl
            try simp only [Act.put, List.setIfInBounds_toArray, List.set_cons_zero, List.set_cons_succ]
            refine wpAnyH_ready (rs := [12]) (by kernel_rfl) (by simp) ?_
            refine AllReadyH.cons (o := ⟨some 145, _, _, _, _, _⟩) rfl (fun K hK => ?_) AllReadyH.nil
            go_simp
            go_at_call 8
            refine (HR.out _).mono ?_
            rintro e y3 ⟨rfl, hy3⟩
            (try go_wp2_with fail)
            refine hK.out _ _ ?_ (fun hHeld3 => ?_)
            · exact HK.out _ (below_chain7 (below_chain7 (drew_c hy1) hy2) hy3)
            clear hK K
            try simp only [Act.put, List.setIfInBounds_toArray, List.set_cons_zero, List.set_cons_succ]
            refine wpAnyH_take (i := 13) (oi := ⟨some 146, _, _, _, _, _⟩) (v := ?_) rfl (by kernel_rfl) (by kernel_rfl) (by kernel_rfl) (fun _ _ _ h => h) (Or.inl ⟨by rfl, ?_⟩) hHeld3 ?_
            rotate_left
            · intro w hSw
              (try dsimp only at hSw)
              go_simp
              try with_reducible rfl
            try simp only [Act.put, List.setIfInBounds_toArray, List.set_cons_zero, List.set_cons_succ]
            refine wpAnyH_take (i := 14) (oi := ⟨some 147, _, _, _, _, _⟩) (v := ?_) rfl (by kernel_rfl) (by kernel_rfl) (by kernel_rfl) (fun _ _ _ h => h) (Or.inl ⟨by rfl, ?_⟩) hHeld3 ?_
            rotate_left
            · intro w hSw
              (try dsimp only at hSw)
              go_simp
              try with_reducible rfl
            try simp only [Act.put, List.setIfInBounds_toArray, List.set_cons_zero, List.set_cons_succ]
            refine wpAnyH_take (i := 15) (oi := ⟨some 148, _, _, _, _, _⟩) (v := ?_) rfl (by kernel_rfl) (by kernel_rfl) (by kernel_rfl) (fun _ _ _ h => h) (Or.inl ⟨by rfl, ?_⟩) hHeld3 ?_
            rotate_left
            · intro w hSw
              (try dsimp only at hSw)
              go_simp
              try with_reducible rfl
            try simp only [Act.put, List.setIfInBounds_toArray, List.set_cons_zero, List.set_cons_succ]
            refine wpAnyH_take (i := 16) (oi := ⟨some 149, _, _, _, _, _⟩) (v := ?_) rfl (by kernel_rfl) (by kernel_rfl) (by kernel_rfl) (fun _ _ _ h => h) (Or.inl ⟨by rfl, ?_⟩) hHeld3 ?_
            rotate_left
            · intro w hSw
              (try dsimp only at hSw)
              go_simp
              try with_reducible rfl
            try simp only [Act.put, List.setIfInBounds_toArray, List.set_cons_zero, List.set_cons_succ]
            refine wpAnyH_take (i := 17) (oi := ⟨some 150, _, _, _, _, _⟩) (v := ?_) rfl (by kernel_rfl) (by kernel_rfl) (by kernel_rfl) (fun _ _ _ h => h) (Or.inl ⟨by rfl, ?_⟩) hHeld3 ?_
            rotate_left
            · intro w hSw
              (try dsimp only at hSw)
              go_simp
              try with_reducible rfl
            try simp only [Act.put, List.setIfInBounds_toArray, List.set_cons_zero, List.set_cons_succ]
            refine wpAnyH_take (i := 18) (oi := ⟨some 151, _, _, _, _, _⟩) (v := ?_) rfl (by kernel_rfl) (by kernel_rfl) (by kernel_rfl) (fun _ _ _ h => h) (Or.inl ⟨by rfl, ?_⟩) hHeld3 ?_
            rotate_left
            · intro w hSw
              (try dsimp only at hSw)
              go_simp
              try with_reducible rfl
            try simp only [Act.put, List.setIfInBounds_toArray, List.set_cons_zero, List.set_cons_succ]
            refine wpAnyH_ready (rs := [19]) (by kernel_rfl) (by simp) ?_
            refine AllReadyH.cons (o := ⟨some 152, _, _, _, _, _⟩) rfl (fun K hK => ?_) AllReadyH.nil
            go_simp
            go_at_call 8
            refine (HQ.out _).mono ?_
            rintro e y4 ⟨rfl, hy4⟩
            (try go_wp2_with fail)
            refine hK.out _ _ ?_ (fun hHeld4 => ?_)
            · exact HK.out _ (below_chain7 (below_chain7 (below_chain7 (drew_c hy1) hy2) hy3) hy4)
            clear hK K
            try simp only [Act.put, List.setIfInBounds_toArray, List.set_cons_zero, List.set_cons_succ]
            refine wpAnyH_take (i := 20) (oi := ⟨some 153, _, _, _, _, _⟩) (v := ?_) rfl (by kernel_rfl) (by kernel_rfl) (by kernel_rfl) (fun _ _ _ h => h) (Or.inl ⟨by rfl, ?_⟩) hHeld4 ?_
            rotate_left
            · intro w hSw
              (try dsimp only at hSw)
              go_simp
              try with_reducible rfl
            try simp only [Act.put, List.setIfInBounds_toArray, List.set_cons_zero, List.set_cons_succ]
            refine wpAnyH_take (i := 21) (oi := ⟨some 154, _, _, _, _, _⟩) (v := undef) rfl (by kernel_rfl) (by kernel_rfl) (by kernel_rfl) (fun _ _ _ h => h) (Or.inr ⟨by rfl, rfl⟩) hHeld4 ?_
            try simp only [Act.put, List.setIfInBounds_toArray, List.set_cons_zero, List.set_cons_succ]
            refine wpAnyH_take (i := 22) (oi := ⟨some 155, _, _, _, _, _⟩) (v := undef) rfl (by kernel_rfl) (by kernel_rfl) (by kernel_rfl) (fun _ _ _ h => h) (Or.inr ⟨by rfl, rfl⟩) hHeld4 ?_
            try simp only [Act.put, List.setIfInBounds_toArray, List.set_cons_zero, List.set_cons_succ]
            refine wpAnyH_take (i := 23) (oi := ⟨some 156, _, _, _, _, _⟩) (v := undef) rfl (by kernel_rfl) (by kernel_rfl) (by kernel_rfl) (fun _ _ _ h => h) (Or.inr ⟨by rfl, rfl⟩) hHeld4 ?_
            try simp only [Act.put, List.setIfInBounds_toArray, List.set_cons_zero, List.set_cons_succ]
            refine wpAnyH_take (i := 24) (oi := ⟨some 157, _, _, _, _, _⟩) (v := undef) rfl (by kernel_rfl) (by kernel_rfl) (by kernel_rfl) (fun _ _ _ h => h) (Or.inr ⟨by rfl, rfl⟩) hHeld4 ?_
            try simp only [Act.put, List.setIfInBounds_toArray, List.set_cons_zero, List.set_cons_succ]
            refine wpAnyH_take (i := 25) (oi := ⟨some 158, _, _, _, _, _⟩) (v := ?_) rfl (by kernel_rfl) (by kernel_rfl) (by kernel_rfl) (fun _ _ _ h => h) (Or.inl ⟨by rfl, ?_⟩) hHeld4 ?_
            rotate_left
            · intro w hSw
              (try dsimp only at hSw)
              go_simp
              try with_reducible rfl
            try simp only [Act.put, List.setIfInBounds_toArray, List.set_cons_zero, List.set_cons_succ]
            refine wpAnyH_take (i := 26) (oi := ⟨some 159, _, _, _, _, _⟩) (v := ?_) rfl (by kernel_rfl) (by kernel_rfl) (by kernel_rfl) (fun _ _ _ h => h) (Or.inl ⟨by rfl, ?_⟩) hHeld4 ?_
            rotate_left
            · intro w hSw
              (try dsimp only at hSw)
              go_simp
              try with_reducible rfl
            try simp only [Act.put, List.setIfInBounds_toArray, List.set_cons_zero, List.set_cons_succ]
            refine wpAnyH_done (by kernel_rfl) ?_ _
            go_wp2
            go_roundw
            case rel => exact ⟨3, by omega, by go_num, fun e he => HY.out.keep (below_chain7 (below_chain7 (below_chain7 (drew_c hy1) hy2) hy3) hy4) e (.tail _ he), below_chain7 hcy (below_chain7 (below_chain7 (below_chain7 (drew_c hy1) hy2) hy3) hy4)⟩
            case measure => simp [intOf]
    · have e3 : j = 3 := by omega
      subst e3
      go_wp2
      go_ret
      exact ⟨rfl, hcr⟩

theorem bounds_u8h {n : Int} (h : (Lit.int .u8 n).wf = true) : 0 ≤ n ∧ n ≤ 255 := by
  simp [Lit.wf, IntKind.min, IntKind.max, IntKind.bits, IntKind.signed] at h
  omega
theorem bounds_u64h {n : Int} (h : (Lit.int .u64 n).wf = true) : ∃ x : Nat, n = x ∧ x < 18446744073709551616 := by
  simp [Lit.wf, IntKind.min, IntKind.max, IntKind.bits, IntKind.signed] at h
  exact ⟨n.toNat, by omega, by omega⟩
theorem cast_succ (k : Nat) : ((k + 1 : Nat) : Int) = (k : Int) + 1 := by omega
/-- what the walk asks, of a prefix and its two halves -/
theorem halves_facts {P k ph pl fh fl : Nat} (hk : k < 128) (hr : rightW P k) (b5 : ph < 18446744073709551616) (b6 : pl < 18446744073709551616) (b7 : fh < 18446744073709551616) (b8 : fl < 18446744073709551616) (eP : wideN ph pl = P) (eF : wideN fh fl = P + 2 ^ (127 - k)) :
    (∀ W, Calls Tryd.prog 6 #[.iface 25 (.agg #[.int .u64 (ph : Nat), .int .u64 (pl : Nat)]), .int .i64 ((k : Int) + 1)] W fun e w' => e = .returned (.tuple #[.agg #[.int .u64 (ph : Nat), .int .u64 (pl : Nat), .int .i64 ((k : Int) + 1)], .bool true]) ∧ Below W.heap.size W w') ∧
    (∀ W, Calls Tryd.prog 6 #[.iface 25 (.agg #[.int .u64 (fh : Nat), .int .u64 (fl : Nat)]), .int .i64 ((k : Int) + 1)] W fun e w' => e = .returned (.tuple #[.agg #[.int .u64 (fh : Nat), .int .u64 (fl : Nat), .int .i64 ((k : Int) + 1)], .bool true]) ∧ Below W.heap.size W w') ∧
    (∀ W, Calls Tryd.prog 9 #[.agg #[.int .u64 (ph : Nat), .int .u64 (pl : Nat), .int .i64 (k : Nat)], .agg #[.int .u64 (ph : Nat), .int .u64 (pl : Nat), .int .i64 ((k : Int) + 1)]] W fun e w' => e = .returned (.bool true) ∧ Below W.heap.size W w') ∧
    (∀ W, Calls Tryd.prog 9 #[.agg #[.int .u64 (ph : Nat), .int .u64 (pl : Nat), .int .i64 (k : Nat)], .agg #[.int .u64 (fh : Nat), .int .u64 (fl : Nat), .int .i64 ((k : Int) + 1)]] W fun e w' => e = .returned (.bool true) ∧ Below W.heap.size W w') ∧
    (∀ W, Calls Tryd.prog 9 #[.agg #[.int .u64 (ph : Nat), .int .u64 (pl : Nat), .int .i64 ((k : Int) + 1)], .agg #[.int .u64 (fh : Nat), .int .u64 (fl : Nat), .int .i64 ((k : Int) + 1)]] W fun e w' => e = .returned (.bool false) ∧ Below W.heap.size W w') ∧
    (∀ W, Calls Tryd.prog 9 #[.agg #[.int .u64 (fh : Nat), .int .u64 (fl : Nat), .int .i64 ((k : Int) + 1)], .agg #[.int .u64 (ph : Nat), .int .u64 (pl : Nat), .int .i64 ((k : Int) + 1)]] W fun e w' => e = .returned (.bool false) ∧ Below W.heap.size W w') ∧
    (∀ W, Calls Tryd.prog 12 #[.agg #[.int .u64 (ph : Nat), .int .u64 (pl : Nat), .int .i64 ((k : Int) + 1)], .int .i64 (k : Nat)] W fun e w' => e = .returned (.int .i64 0) ∧ Below W.heap.size W w') ∧
    (∀ W, Calls Tryd.prog 12 #[.agg #[.int .u64 (fh : Nat), .int .u64 (fl : Nat), .int .i64 ((k : Int) + 1)], .int .i64 (k : Nat)] W fun e w' => e = .returned (.int .i64 1) ∧ Below W.heap.size W w') ∧
    (∀ xh xl : Nat, xh < 18446744073709551616 → xl < 18446744073709551616 → ∃ hp hq hr : Bool, (hp = (hq || hr) ∧ (hq && hr) = false) ∧ (∀ W, Calls Tryd.prog 8 #[.agg #[.int .u64 (ph : Nat), .int .u64 (pl : Nat), .int .i64 (k : Nat)], .iface 25 (.agg #[.int .u64 (xh : Nat), .int .u64 (xl : Nat)])] W fun e w' => e = .returned (.bool hp) ∧ Below W.heap.size W w') ∧ (∀ W, Calls Tryd.prog 8 #[.agg #[.int .u64 (ph : Nat), .int .u64 (pl : Nat), .int .i64 ((k : Int) + 1)], .iface 25 (.agg #[.int .u64 (xh : Nat), .int .u64 (xl : Nat)])] W fun e w' => e = .returned (.bool hq) ∧ Below W.heap.size W w') ∧ (∀ W, Calls Tryd.prog 8 #[.agg #[.int .u64 (fh : Nat), .int .u64 (fl : Nat), .int .i64 ((k : Int) + 1)], .iface 25 (.agg #[.int .u64 (xh : Nat), .int .u64 (xl : Nat)])] W fun e w' => e = .returned (.bool hr) ∧ Below W.heap.size W w')) := by
  obtain ⟨r1, r2⟩ := half_right hk hr
  obtain ⟨c1, c2, c3, c4⟩ := half_covers hk hr
  obtain ⟨t1, t2⟩ := half_bits hk hr
  have no : ∀ {X n Y m : Nat}, ¬ coversW X n Y m → coversB X n Y m = false := fun h => by
    rw [Bool.eq_false_iff]; exact fun g => h (coversB_nat.1 g)
  refine ⟨fun W => ?_, fun W => ?_, fun W => ?_, fun W => ?_, fun W => ?_, fun W => ?_, fun W => ?_, fun W => ?_, fun xh xl bx by' => ?_⟩
  · have := pOf_six ph pl (k + 1) W b5 b6 (by omega)
    rw [eP, right_of r1, ← eP, pfW_wide b6, cast_succ] at this
    exact this
  · have := pOf_six fh fl (k + 1) W b7 b8 (by omega)
    rw [eF, right_of r2, ← eF, pfW_wide b8, cast_succ] at this
    exact this
  · have := covers_any ph pl ph pl k (k + 1 : Nat) W b5 b6 b5 b6
    rw [eP, coversB_nat.2 c1, cast_succ] at this
    exact this
  · have := covers_any ph pl fh fl k (k + 1 : Nat) W b5 b6 b7 b8
    rw [eP, eF, coversB_nat.2 c2, cast_succ] at this
    exact this
  · have := covers_any ph pl fh fl (k + 1 : Nat) (k + 1 : Nat) W b5 b6 b7 b8
    rw [eP, eF, no c3, cast_succ] at this
    exact this
  · have := covers_any fh fl ph pl (k + 1 : Nat) (k + 1 : Nat) W b7 b8 b5 b6
    rw [eP, eF, no c4, cast_succ] at this
    exact this
  · have := bit_any ph pl ((k : Int) + 1) k W b5 b6
    rw [eP, bitZ_nat _ _ hk, t1] at this
    exact this
  · have := bit_any fh fl ((k : Int) + 1) k W b7 b8
    rw [eF, bitZ_nat _ _ hk, t2] at this
    exact this
  · obtain ⟨g1, g2⟩ := half_has (A := wideN xh xl) hk hr
    have ok : (AZ.six xh xl).Ok := ⟨⟨by omega, by omega⟩, by omega, by omega⟩
    have wX : (AZ.six xh xl).wd = wideN xh xl := rfl
    refine ⟨pHasB P k (wideN xh xl), pHasB P (k + 1 : Nat) (wideN xh xl), pHasB (P + 2 ^ (127 - k)) (k + 1 : Nat) (wideN xh xl), ⟨?_, ?_⟩, fun W => ?_, fun W => ?_, fun W => ?_⟩
    · rw [Bool.eq_iff_iff, Bool.or_eq_true, pHasB_nat, pHasB_nat, pHasB_nat]; exact g1
    · rw [Bool.eq_false_iff, ne_eq, Bool.and_eq_true, pHasB_nat, pHasB_nat]; exact g2
    · have := pHas_any ph pl k (.six xh xl) W b5 b6 ok
      rw [eP, wX] at this
      exact this
    · have := pHas_any ph pl (k + 1 : Nat) (.six xh xl) W b5 b6 ok
      rw [eP, wX, cast_succ] at this
      rw [cast_succ]
      exact this
    · have := pHas_any fh fl (k + 1 : Nat) (.six xh xl) W b7 b8 ok
      rw [eF, wX, cast_succ] at this
      rw [cast_succ]
      exact this
set_option maxRecDepth 100000 in
theorem prefixHalves_walk (a0 : Int) (a1 : Int) (a2 : Int) (a3 : Int) (a4 : Int) (w0 : (Lit.int .u64 a0).wf = true) (w1 : (Lit.int .u64 a1).wf = true) (w2 : (Lit.int .u64 a2).wf = true) (w3 : (Lit.int .u64 a3).wf = true) (w4 : (Lit.int .u8 a4).wf = true) (w : World) (hbru : BruTab w) (hmax : MaxVar w) :
    Calls Tryd.prog 4 #[.int .u64 a0, .int .u64 a1, .int .u64 a2, .int .u64 a3, .int .u8 a4] w fun e w' => e = .returned (.bool true) ∧ Below w.heap.size w w' := by
  obtain ⟨hi, rfl, b0⟩ := bounds_u64h w0
  obtain ⟨lo, rfl, b1⟩ := bounds_u64h w1
  obtain ⟨oh, rfl, b2⟩ := bounds_u64h w2
  obtain ⟨ol, rfl, b3⟩ := bounds_u64h w3
  obtain ⟨n, rfl⟩ := Int.eq_ofNat_of_zero_le (bounds_u8h w4).1
  have hn : n ≤ 255 := by have := (bounds_u8h w4).2; omega
  clear w0 w1 w2 w3 w4
  obtain ⟨k, hk'⟩ : ∃ k, n % 128 = k := ⟨_, rfl⟩
  have hk : k < 128 := by omega
  have hnk : (n : Int) % 128 = (k : Nat) := by omega
  have hAl := wide_lt b0 b1
  have pb := hiN_lt (ofW_lt (n := k) hAl)
  have pc := loN_lt (ofW (wideN hi lo) k)
  have ps := wide_split (ofW (wideN hi lo) k)
  have hr := ofW_right (wideN hi lo) k (by omega)
  have HOp : ∀ W, Calls Tryd.prog 6 #[.iface 25 (.agg #[.int .u64 (hi : Nat), .int .u64 (lo : Nat)]), .int .i64 (k : Nat)] W fun e w' => e = .returned (.tuple #[.agg #[.int .u64 (hiN (ofW (wideN hi lo) k) : Nat), .int .u64 (loN (ofW (wideN hi lo) k) : Nat), .int .i64 (k : Nat)], .bool true]) ∧ Below W.heap.size W w' := fun W => pOf_six hi lo k W b0 b1 (by omega)
  have hrt : rt (wideN (hiN (ofW (wideN hi lo) k)) (loN (ofW (wideN hi lo) k))) k := by rw [ps]; exact rt_of _ _
  by_cases h : k < 64
  · have hm := rt_hi pc h hrt
    have hbd := room_hi pb h hm
    have e1 : (2 : Nat) ^ (127 - k) = 2 ^ (63 - k) * 2 ^ 64 := by rw [← Nat.pow_add]; congr 1; omega
    obtain ⟨f1, f2, f3, f4, f5, f6, f7, f8, f9⟩ := halves_facts (fh := hiN (ofW (wideN hi lo) k) + 2 ^ (63 - k)) (fl := loN (ofW (wideN hi lo) k)) hk hr pb pc hbd pc ps (by rw [wide_add, ps, e1])
    refine halves_h hi lo oh ol n k (hiN (ofW (wideN hi lo) k)) (loN (ofW (wideN hi lo) k)) (hiN (ofW (wideN hi lo) k) + 2 ^ (63 - k)) w hbru hmax hn hnk h b0 b1 b2 b3 pb pc hbd ?_ ?_ HOp f1 f2 f3 f4 f5 f6 f7 f8 f9
    · rw [or_join (63 - k) hbd (by rw [show 63 - k + 1 = 64 - k from by omega]; exact hm)]; simp
    · rw [show ((2 : Int) ^ (63 - k)) = ((2 ^ (63 - k) : Nat) : Int) from by simp]
      exact wrap_nat _ (Nat.lt_of_le_of_lt (Nat.le_add_left _ _) hbd)
  · have hm := rt_lo (n := k) (by omega) (by omega) hrt
    have hbd := room_lo pc (by omega) hk hm
    obtain ⟨f1, f2, f3, f4, f5, f6, f7, f8, f9⟩ := halves_facts (fh := hiN (ofW (wideN hi lo) k)) (fl := loN (ofW (wideN hi lo) k) + 2 ^ (127 - k)) hk hr pb pc pb hbd ps (by rw [wide_low, ps])
    refine halves_l hi lo oh ol n k (hiN (ofW (wideN hi lo) k)) (loN (ofW (wideN hi lo) k)) (loN (ofW (wideN hi lo) k) + 2 ^ (127 - k)) w hbru hmax hn hnk (by omega) hk b0 b1 b2 b3 pb pc hbd ?_ ?_ HOp f1 f2 f3 f4 f5 f6 f7 f8 f9
    · rw [or_join (127 - k) hbd (by rw [show 127 - k + 1 = 128 - k from by omega]; exact hm)]; simp
    · rw [show ((2 : Int) ^ (127 - k)) = ((2 ^ (127 - k) : Nat) : Int) from by simp]
      exact wrap_nat _ (Nat.lt_of_le_of_lt (Nat.le_add_left _ _) hbd)
end Go.Proofs.YthdcldkcmnpkiaaDoor
