/-
  The law PrefixTells: its Go text returns true at any prefixes, address and length, where the library's tables read as they are laid; nothing that lay in memory before is changed.
-/
import Derived.Test.YthdcldkcmnpkiaaGreatDoorPreO
namespace Go.Proofs.YthdcldkcmnpkiaaGreatDoor
open Go.RowKit


theorem blks_twoT {L : List (Nat × Array Value × TypeId)} {x : World} (h : Blks L x) (c c' : Array Value) (t t' : TypeId) : Blks ((x.heap.size + 1, c', t') :: (x.heap.size, c, t) :: L) ((x.alloc (.cells c t)).alloc (.cells c' t')) := by
  have := (h.new c t).new c' t'
  rw [show (x.alloc (.cells c t)).heap.size = x.heap.size + 1 by simp] at this
  exact this

set_option maxRecDepth 100000 in
set_option maxHeartbeats 16000000 in
theorem tells_in (hi lo hi2 lo2 ah al : Nat) (pn m n xa xb xc bv a3 a4 : Int) (is s okv b1 b2 b3 : Bool) (va : Value) (X : List UInt8) (w : World) (hbru : BruTab w) (hmax : MaxVar w) (hn : 0 ≤ n ∧ n < 128)
    (HM : Hid (∀ W, Calls Tryz.prog 10 #[.bool is, .int .u64 a3, .int .u64 a4] W fun e w' => e = .returned va ∧ W = w'))
    (HOf : Hid (∀ W, Calls Tryz.prog 11 #[va, .int .i64 n] W fun e w' => e = .returned (.tuple #[.agg #[.int .u64 xa, .int .u64 xb, .int .i64 xc], .bool okv]) ∧ Below W.heap.size W w'))
    (HLo : Hid (∀ W, Calls Tryz.prog 13 #[va] W fun e w' => e = .returned (.agg #[.bool s, .int .u64 (ah : Nat), .int .u64 (al : Nat)]) ∧ Below W.heap.size W w'))
    (HRo : Hid (∀ W, Calls Tryz.prog 12 #[.agg #[.bool s, .int .u64 (ah : Nat), .int .u64 (al : Nat)], .int .i64 n] W fun e w' => e = .returned (.tuple #[.agg #[.int .u64 xa, .int .u64 xb, .int .i64 xc], .bool okv]) ∧ Below W.heap.size W w'))
    (HNo : Hid (∀ W, Calls Tryz.prog 11 #[.nilIface, .int .i64 0] W fun e w' => e = .returned (.tuple #[.agg #[.int .u64 0, .int .u64 0, .int .i64 0], .bool false]) ∧ Below W.heap.size W w'))
    (H1 : Hid (∀ W, Calls Tryz.prog 15 #[.agg #[.int .u64 (hi : Nat), .int .u64 (lo : Nat), .int .i64 pn]] W fun e w' => e = .returned (.bool b1) ∧ Below W.heap.size W w'))
    (H2 : Hid (∀ W, Calls Tryz.prog 16 #[.agg #[.int .u64 (hi : Nat), .int .u64 (lo : Nat), .int .i64 pn]] W fun e w' => e = .returned (.bool b1) ∧ Below W.heap.size W w'))
    (H3 : Hid (∀ W, Calls Tryz.prog 17 #[.agg #[.int .u64 (hi : Nat), .int .u64 (lo : Nat), .int .i64 pn], va] W fun e w' => e = .returned (.bool b2) ∧ Below W.heap.size W w'))
    (H5 : Hid (∀ W, Calls Tryz.prog 18 #[.agg #[.int .u64 (hi : Nat), .int .u64 (lo : Nat), .int .i64 pn], .agg #[.bool s, .int .u64 (ah : Nat), .int .u64 (al : Nat)]] W fun e w' => e = .returned (.bool b2) ∧ Below W.heap.size W w'))
    (H6 : Hid (∀ W, Calls Tryz.prog 19 #[.agg #[.int .u64 (hi : Nat), .int .u64 (lo : Nat), .int .i64 pn], .agg #[.int .u64 (hi2 : Nat), .int .u64 (lo2 : Nat), .int .i64 m]] W fun e w' => e = .returned (.bool b3) ∧ Below W.heap.size W w'))
    (H7 : Hid (∀ W, Calls Tryz.prog 20 #[.agg #[.int .u64 (hi : Nat), .int .u64 (lo : Nat), .int .i64 pn], .agg #[.int .u64 (hi2 : Nat), .int .u64 (lo2 : Nat), .int .i64 m]] W fun e w' => e = .returned (.bool b3) ∧ Below W.heap.size W w'))
    (H8 : Hid (∀ W, Below w.heap.size w W → Calls Tryz.prog 21 #[.agg #[.int .u64 (hi : Nat), .int .u64 (lo : Nat), .int .i64 pn]] W (RetStr W X)))
    (H9 : Hid (∀ W, Below w.heap.size w W → Calls Tryz.prog 22 #[.agg #[.int .u64 (hi : Nat), .int .u64 (lo : Nat), .int .i64 pn]] W (RetStr W X)))
    (H10 : Hid (∀ W, Calls Tryz.prog 23 #[.agg #[.int .u64 (hi : Nat), .int .u64 (lo : Nat), .int .i64 pn], .int .i64 n] W fun e w' => e = .returned (.int .i64 bv) ∧ Below W.heap.size W w'))
    (H11 : Hid (∀ W, Calls Tryz.prog 17 #[.agg #[.int .u64 (hi : Nat), .int .u64 (lo : Nat), .int .i64 pn], .nilIface] W fun e w' => e = .returned (.bool false) ∧ Below W.heap.size W w'))
    (HBi : Hid (∀ W, Calls Tryz.prog 14 #[.int .u64 (hi : Nat), .int .u64 (lo : Nat), .int .i64 n] W fun e w' => e = .returned (.int .i64 bv) ∧ W = w')) :
    Calls Tryz.prog 3 #[.agg #[.int .u64 (hi : Nat), .int .u64 (lo : Nat), .int .i64 pn], .agg #[.int .u64 (hi2 : Nat), .int .u64 (lo2 : Nat), .int .i64 m], .bool is, .int .u64 a3, .int .u64 a4, .int .i64 n] w fun e w' => e = .returned (.bool true) ∧ Below w.heap.size w w' := by
  have HT := Lib.hid hbru
  have HX := Lib.hid hmax
  clear hbru hmax
  have heq := eqPr_same xa xb xc
  have hg := eqPr_guard
  have HB0 := Lib.hid (blks_twoT (Blks.empty w) #[.int .u64 (hi : Nat), .int .u64 (lo : Nat), .int .i64 pn] #[.int .u64 (hi2 : Nat), .int .u64 (lo2 : Nat), .int .i64 m] 24 24)
  have hc0 : Below w.heap.size w ((w.alloc (.cells #[.int .u64 (hi : Nat), .int .u64 (lo : Nat), .int .i64 pn] 24)).alloc (.cells #[.int .u64 (hi2 : Nat), .int .u64 (lo2 : Nat), .int .i64 m] 24)) := ((Below.refl _ _).alloc (Nat.le_refl _) _).alloc (by simp) _
  obtain ⟨hn1, hn2⟩ := hn
  go_enter Tryz.func3, Tryz.ntmps3
  go_wp2_with fail
  refine (awake07_any _ (bruTab_below HT.out hc0) (maxVar_below HX.out hc0)).mono ?_
  rintro e x1 ⟨rfl, hb1⟩
  have HB1 := Lib.hid (HB0.out.keep hb1)
  have hc1 := below_chain7 hc0 hb1
  clear HB0 hb1 hc0
  go_wp2_with fail
  refine (HM.out _).mono ?_
  rintro e x1' ⟨rfl, rfl⟩
  go_wp2_with fail
  refine (HOf.out _).mono ?_
  rintro e x2 ⟨rfl, hb2⟩
  have HB2 := Lib.hid ((HB1.out.keep hb2).new #[.int .u64 xa, .int .u64 xb, .int .i64 xc] 24)
  have hc2 := (below_chain7 hc1 hb2).alloc (below_chain7 hc1 hb2).size (.cells #[.int .u64 xa, .int .u64 xb, .int .i64 xc] 24)
  clear HB1 hb2 hc1
  go_wp2_with fail
  refine (HLo.out _).mono ?_
  rintro e x3 ⟨rfl, hb3⟩
  have HB3 := Lib.hid (HB2.out.keep hb3)
  have hc3 := below_chain7 hc2 hb3
  generalize x2.heap.size = gx at *
  clear HB2 hb3 hc2
  go_wp2_with fail
  refine (HRo.out _).mono ?_
  rintro e x4 ⟨rfl, hb4⟩
  have HB4' := Lib.hid (HB3.out.keep hb4)
  obtain ⟨lp, p0, p1, p2⟩ := HB4'.out.r3 (b := w.heap.size) (by repeat first | exact .head _ | apply List.Mem.tail)
  have HB4 := Lib.hid (HB4'.out.new #[.int .u64 xa, .int .u64 xb, .int .i64 xc] 31)
  have hc4 := (below_chain7 hc3 hb4).alloc (below_chain7 hc3 hb4).size (.cells #[.int .u64 xa, .int .u64 xb, .int .i64 xc] 31)
  clear HB3 hb4 hc3
  go_wp2_with fail
  refine (HBi.out _).mono ?_
  rintro e x5 ⟨rfl, rfl⟩
  go_wp2_with fail
  refine (HNo.out _).mono ?_
  rintro e x6 ⟨rfl, hb6⟩
  have hz6 : Below x6.heap.size x6 (x6.alloc (.cells #[.int .u64 0, .int .u64 0, .int .i64 0] 24)) := (Below.refl _ _).alloc (Nat.le_refl _) _
  have HB6 := Lib.hid ((HB4.out.keep hb6).keep hz6)
  have hc6 := below_chain7 (below_chain7 hc4 hb6) hz6
  generalize x4.heap.size = gy at *
  clear HB4 hb6 hc4 hz6 lp p0 p1 p2 HB4'
  go_wp2
  generalize x6.alloc (.cells #[.int .u64 0, .int .u64 0, .int .i64 0] 24) = Y at *
  have HK : Hid (∀ W, Below Y.heap.size Y W → (fun W => (W.cell? ⟨w.heap.size, 0, none⟩ = some (.int .u64 (hi : Nat)) ∧ W.cell? ⟨w.heap.size, 1, none⟩ = some (.int .u64 (lo : Nat)) ∧ W.cell? ⟨w.heap.size, 2, none⟩ = some (.int .i64 pn)) ∧ (W.cell? ⟨w.heap.size + 1, 0, none⟩ = some (.int .u64 (hi2 : Nat)) ∧ W.cell? ⟨w.heap.size + 1, 1, none⟩ = some (.int .u64 (lo2 : Nat)) ∧ W.cell? ⟨w.heap.size + 1, 2, none⟩ = some (.int .i64 m)) ∧ (W.cell? ⟨gx, 0, none⟩ = some (.int .u64 xa) ∧ W.cell? ⟨gx, 1, none⟩ = some (.int .u64 xb) ∧ W.cell? ⟨gx, 2, none⟩ = some (.int .i64 xc)) ∧ (W.cell? ⟨gy, 0, none⟩ = some (.int .u64 xa) ∧ W.cell? ⟨gy, 1, none⟩ = some (.int .u64 xb) ∧ W.cell? ⟨gy, 2, none⟩ = some (.int .i64 xc))) W) := fun W hW => by
    have h := HB6.out.keep hW
    exact ⟨(h.r3 (b := w.heap.size) (by repeat first | exact .head _ | apply List.Mem.tail)).2, (h.r3 (b := w.heap.size + 1) (by repeat first | exact .head _ | apply List.Mem.tail)).2, (h.r3 (b := gx) (by repeat first | exact .head _ | apply List.Mem.tail)).2, (h.r3 (b := gy) (by repeat first | exact .head _ | apply List.Mem.tail)).2⟩
  have HKB : Hid (∀ W, Below Y.heap.size Y W → Below w.heap.size w W) := fun W hW => below_chain7 hc6 hW
  go_region_held3 (fun W => (W.cell? ⟨w.heap.size, 0, none⟩ = some (.int .u64 (hi : Nat)) ∧ W.cell? ⟨w.heap.size, 1, none⟩ = some (.int .u64 (lo : Nat)) ∧ W.cell? ⟨w.heap.size, 2, none⟩ = some (.int .i64 pn)) ∧ (W.cell? ⟨w.heap.size + 1, 0, none⟩ = some (.int .u64 (hi2 : Nat)) ∧ W.cell? ⟨w.heap.size + 1, 1, none⟩ = some (.int .u64 (lo2 : Nat)) ∧ W.cell? ⟨w.heap.size + 1, 2, none⟩ = some (.int .i64 m)) ∧ (W.cell? ⟨gx, 0, none⟩ = some (.int .u64 xa) ∧ W.cell? ⟨gx, 1, none⟩ = some (.int .u64 xb) ∧ W.cell? ⟨gx, 2, none⟩ = some (.int .i64 xc)) ∧ (W.cell? ⟨gy, 0, none⟩ = some (.int .u64 xa) ∧ W.cell? ⟨gy, 1, none⟩ = some (.int .u64 xb) ∧ W.cell? ⟨gy, 2, none⟩ = some (.int .i64 xc)))
    (first | exact HK.out _ ((Below.refl _ _).drew) | exact HK.out _ (drew_c hz1) | exact HK.out _ (below_chain7 (drew_c hz1) hz2) | exact HK.out _ (below_chain7 (below_chain7 (drew_c hz1) hz2) hz3) | exact HK.out _ (below_chain7 (below_chain7 (below_chain7 (drew_c hz1) hz2) hz3) hz4) | exact HK.out _ (below_chain7 (below_chain7 (below_chain7 (below_chain7 (drew_c hz1) hz2) hz3) hz4) hz5) | exact HK.out _ (below_chain7 (below_chain7 (below_chain7 (below_chain7 (below_chain7 (drew_c hz1) hz2) hz3) hz4) hz5) hz6) | exact HK.out _ (below_chain7 (below_chain7 (below_chain7 (below_chain7 (below_chain7 (below_chain7 (drew_c hz1) hz2) hz3) hz4) hz5) hz6) hz7) | exact HK.out _ (below_chain7 (below_chain7 (below_chain7 (below_chain7 (below_chain7 (below_chain7 (below_chain7 (drew_c hz1) hz2) hz3) hz4) hz5) hz6) hz7) hz8) | exact HK.out _ (below_chain7 (below_chain7 (below_chain7 (below_chain7 (below_chain7 (below_chain7 (below_chain7 (below_chain7 (drew_c hz1) hz2) hz3) hz4) hz5) hz6) hz7) hz8) hz9) | exact HK.out _ (below_chain7 (below_chain7 (below_chain7 (below_chain7 (below_chain7 (below_chain7 (below_chain7 (below_chain7 (below_chain7 (drew_c hz1) hz2) hz3) hz4) hz5) hz6) hz7) hz8) hz9) hz10) | exact HK.out _ (below_chain7 (below_chain7 (below_chain7 (below_chain7 (below_chain7 (below_chain7 (below_chain7 (below_chain7 (below_chain7 (below_chain7 (drew_c hz1) hz2) hz3) hz4) hz5) hz6) hz7) hz8) hz9) hz10) hz11))
    (first
      | (go_simp; go_at_call 15; ((with_reducible refine (H1.out _).mono ?_); rintro e z1 ⟨rfl, hz1⟩))
      | (go_simp; go_at_call 16; ((with_reducible refine (H2.out _).mono ?_); rintro e z2 ⟨rfl, hz2⟩))
      | (go_simp; go_at_call 17; ((with_reducible refine (H3.out _).mono ?_); rintro e z3 ⟨rfl, hz3⟩))
      | (go_simp; go_at_call 13; ((with_reducible refine (HLo.out _).mono ?_); rintro e z4 ⟨rfl, hz4⟩))
      | (go_simp; go_at_call 18; ((with_reducible refine (H5.out _).mono ?_); rintro e z5 ⟨rfl, hz5⟩))
      | (go_simp; go_at_call 19; ((with_reducible refine (H6.out _).mono ?_); rintro e z6 ⟨rfl, hz6⟩))
      | (go_simp; go_at_call 20; ((with_reducible refine (H7.out _).mono ?_); rintro e z7 ⟨rfl, hz7⟩))
      | (go_simp; go_at_call 21; ((with_reducible refine (H8.out _ (HKB.out _ (below_chain7 (below_chain7 (below_chain7 (below_chain7 (below_chain7 (below_chain7 (drew_c hz1) hz2) hz3) hz4) hz5) hz6) hz7))).mono ?_); rintro e z8 ⟨rfl, hz8⟩))
      | (go_simp; go_at_call 22; ((with_reducible refine (H9.out _ (HKB.out _ (below_chain7 (below_chain7 (below_chain7 (below_chain7 (below_chain7 (below_chain7 (below_chain7 (drew_c hz1) hz2) hz3) hz4) hz5) hz6) hz7) hz8))).mono ?_); rintro e z9 ⟨rfl, hz9⟩))
      | (go_simp; go_at_call 23; ((with_reducible refine (H10.out _).mono ?_); rintro e z10 ⟨rfl, hz10⟩))
      | (go_simp; go_at_call 17; ((with_reducible refine (H11.out _).mono ?_); rintro e z11 ⟨rfl, hz11⟩))
)
  go_wp2
  go_ret
  exact ⟨rfl, HKB.out _ (below_chain7 (below_chain7 (below_chain7 (below_chain7 (below_chain7 (below_chain7 (below_chain7 (below_chain7 (below_chain7 (below_chain7 (drew_c hz1) hz2) hz3) hz4) hz5) hz6) hz7) hz8) hz9) hz10) hz11)⟩

set_option maxRecDepth 100000 in
set_option maxHeartbeats 16000000 in
theorem tells_neg (hi lo hi2 lo2 ah al : Nat) (pn m n xa xb xc bv a3 a4 : Int) (is s okv b1 b2 b3 : Bool) (va : Value) (X : List UInt8) (w : World) (hbru : BruTab w) (hmax : MaxVar w) (hn : n < 0) (hbv : bv = 0)
    (HM : Hid (∀ W, Calls Tryz.prog 10 #[.bool is, .int .u64 a3, .int .u64 a4] W fun e w' => e = .returned va ∧ W = w'))
    (HOf : Hid (∀ W, Calls Tryz.prog 11 #[va, .int .i64 n] W fun e w' => e = .returned (.tuple #[.agg #[.int .u64 xa, .int .u64 xb, .int .i64 xc], .bool okv]) ∧ Below W.heap.size W w'))
    (HLo : Hid (∀ W, Calls Tryz.prog 13 #[va] W fun e w' => e = .returned (.agg #[.bool s, .int .u64 (ah : Nat), .int .u64 (al : Nat)]) ∧ Below W.heap.size W w'))
    (HRo : Hid (∀ W, Calls Tryz.prog 12 #[.agg #[.bool s, .int .u64 (ah : Nat), .int .u64 (al : Nat)], .int .i64 n] W fun e w' => e = .returned (.tuple #[.agg #[.int .u64 xa, .int .u64 xb, .int .i64 xc], .bool okv]) ∧ Below W.heap.size W w'))
    (HNo : Hid (∀ W, Calls Tryz.prog 11 #[.nilIface, .int .i64 0] W fun e w' => e = .returned (.tuple #[.agg #[.int .u64 0, .int .u64 0, .int .i64 0], .bool false]) ∧ Below W.heap.size W w'))
    (H1 : Hid (∀ W, Calls Tryz.prog 15 #[.agg #[.int .u64 (hi : Nat), .int .u64 (lo : Nat), .int .i64 pn]] W fun e w' => e = .returned (.bool b1) ∧ Below W.heap.size W w'))
    (H2 : Hid (∀ W, Calls Tryz.prog 16 #[.agg #[.int .u64 (hi : Nat), .int .u64 (lo : Nat), .int .i64 pn]] W fun e w' => e = .returned (.bool b1) ∧ Below W.heap.size W w'))
    (H3 : Hid (∀ W, Calls Tryz.prog 17 #[.agg #[.int .u64 (hi : Nat), .int .u64 (lo : Nat), .int .i64 pn], va] W fun e w' => e = .returned (.bool b2) ∧ Below W.heap.size W w'))
    (H5 : Hid (∀ W, Calls Tryz.prog 18 #[.agg #[.int .u64 (hi : Nat), .int .u64 (lo : Nat), .int .i64 pn], .agg #[.bool s, .int .u64 (ah : Nat), .int .u64 (al : Nat)]] W fun e w' => e = .returned (.bool b2) ∧ Below W.heap.size W w'))
    (H6 : Hid (∀ W, Calls Tryz.prog 19 #[.agg #[.int .u64 (hi : Nat), .int .u64 (lo : Nat), .int .i64 pn], .agg #[.int .u64 (hi2 : Nat), .int .u64 (lo2 : Nat), .int .i64 m]] W fun e w' => e = .returned (.bool b3) ∧ Below W.heap.size W w'))
    (H7 : Hid (∀ W, Calls Tryz.prog 20 #[.agg #[.int .u64 (hi : Nat), .int .u64 (lo : Nat), .int .i64 pn], .agg #[.int .u64 (hi2 : Nat), .int .u64 (lo2 : Nat), .int .i64 m]] W fun e w' => e = .returned (.bool b3) ∧ Below W.heap.size W w'))
    (H8 : Hid (∀ W, Below w.heap.size w W → Calls Tryz.prog 21 #[.agg #[.int .u64 (hi : Nat), .int .u64 (lo : Nat), .int .i64 pn]] W (RetStr W X)))
    (H9 : Hid (∀ W, Below w.heap.size w W → Calls Tryz.prog 22 #[.agg #[.int .u64 (hi : Nat), .int .u64 (lo : Nat), .int .i64 pn]] W (RetStr W X)))
    (H10 : Hid (∀ W, Calls Tryz.prog 23 #[.agg #[.int .u64 (hi : Nat), .int .u64 (lo : Nat), .int .i64 pn], .int .i64 n] W fun e w' => e = .returned (.int .i64 bv) ∧ Below W.heap.size W w'))
    (H11 : Hid (∀ W, Calls Tryz.prog 17 #[.agg #[.int .u64 (hi : Nat), .int .u64 (lo : Nat), .int .i64 pn], .nilIface] W fun e w' => e = .returned (.bool false) ∧ Below W.heap.size W w')) :
    Calls Tryz.prog 3 #[.agg #[.int .u64 (hi : Nat), .int .u64 (lo : Nat), .int .i64 pn], .agg #[.int .u64 (hi2 : Nat), .int .u64 (lo2 : Nat), .int .i64 m], .bool is, .int .u64 a3, .int .u64 a4, .int .i64 n] w fun e w' => e = .returned (.bool true) ∧ Below w.heap.size w w' := by
  have HT := Lib.hid hbru
  have HX := Lib.hid hmax
  clear hbru hmax
  have heq := eqPr_same xa xb xc
  have hg := eqPr_guard
  have HB0 := Lib.hid (blks_twoT (Blks.empty w) #[.int .u64 (hi : Nat), .int .u64 (lo : Nat), .int .i64 pn] #[.int .u64 (hi2 : Nat), .int .u64 (lo2 : Nat), .int .i64 m] 24 24)
  have hc0 : Below w.heap.size w ((w.alloc (.cells #[.int .u64 (hi : Nat), .int .u64 (lo : Nat), .int .i64 pn] 24)).alloc (.cells #[.int .u64 (hi2 : Nat), .int .u64 (lo2 : Nat), .int .i64 m] 24)) := ((Below.refl _ _).alloc (Nat.le_refl _) _).alloc (by simp) _
  subst hbv
  go_enter Tryz.func3, Tryz.ntmps3
  go_wp2_with fail
  refine (awake07_any _ (bruTab_below HT.out hc0) (maxVar_below HX.out hc0)).mono ?_
  rintro e x1 ⟨rfl, hb1⟩
  have HB1 := Lib.hid (HB0.out.keep hb1)
  have hc1 := below_chain7 hc0 hb1
  clear HB0 hb1 hc0
  go_wp2_with fail
  refine (HM.out _).mono ?_
  rintro e x1' ⟨rfl, rfl⟩
  go_wp2_with fail
  refine (HOf.out _).mono ?_
  rintro e x2 ⟨rfl, hb2⟩
  have HB2 := Lib.hid ((HB1.out.keep hb2).new #[.int .u64 xa, .int .u64 xb, .int .i64 xc] 24)
  have hc2 := (below_chain7 hc1 hb2).alloc (below_chain7 hc1 hb2).size (.cells #[.int .u64 xa, .int .u64 xb, .int .i64 xc] 24)
  clear HB1 hb2 hc1
  go_wp2_with fail
  refine (HLo.out _).mono ?_
  rintro e x3 ⟨rfl, hb3⟩
  have HB3 := Lib.hid (HB2.out.keep hb3)
  have hc3 := below_chain7 hc2 hb3
  generalize x2.heap.size = gx at *
  clear HB2 hb3 hc2
  go_wp2_with fail
  refine (HRo.out _).mono ?_
  rintro e x4 ⟨rfl, hb4⟩
  have HB4' := Lib.hid (HB3.out.keep hb4)
  obtain ⟨lp, p0, p1, p2⟩ := HB4'.out.r3 (b := w.heap.size) (by repeat first | exact .head _ | apply List.Mem.tail)
  have HB4 := Lib.hid (HB4'.out.new #[.int .u64 xa, .int .u64 xb, .int .i64 xc] 31)
  have hc4 := (below_chain7 hc3 hb4).alloc (below_chain7 hc3 hb4).size (.cells #[.int .u64 xa, .int .u64 xb, .int .i64 xc] 31)
  clear HB3 hb4 hc3
  go_wp2_with fail
  refine (HNo.out _).mono ?_
  rintro e x6 ⟨rfl, hb6⟩
  have hz6 : Below x6.heap.size x6 (x6.alloc (.cells #[.int .u64 0, .int .u64 0, .int .i64 0] 24)) := (Below.refl _ _).alloc (Nat.le_refl _) _
  have HB6 := Lib.hid ((HB4.out.keep hb6).keep hz6)
  have hc6 := below_chain7 (below_chain7 hc4 hb6) hz6
  generalize x4.heap.size = gy at *
  clear HB4 hb6 hc4 hz6 lp p0 p1 p2 HB4'
  go_wp2
  generalize x6.alloc (.cells #[.int .u64 0, .int .u64 0, .int .i64 0] 24) = Y at *
  have HK : Hid (∀ W, Below Y.heap.size Y W → (fun W => (W.cell? ⟨w.heap.size, 0, none⟩ = some (.int .u64 (hi : Nat)) ∧ W.cell? ⟨w.heap.size, 1, none⟩ = some (.int .u64 (lo : Nat)) ∧ W.cell? ⟨w.heap.size, 2, none⟩ = some (.int .i64 pn)) ∧ (W.cell? ⟨w.heap.size + 1, 0, none⟩ = some (.int .u64 (hi2 : Nat)) ∧ W.cell? ⟨w.heap.size + 1, 1, none⟩ = some (.int .u64 (lo2 : Nat)) ∧ W.cell? ⟨w.heap.size + 1, 2, none⟩ = some (.int .i64 m)) ∧ (W.cell? ⟨gx, 0, none⟩ = some (.int .u64 xa) ∧ W.cell? ⟨gx, 1, none⟩ = some (.int .u64 xb) ∧ W.cell? ⟨gx, 2, none⟩ = some (.int .i64 xc)) ∧ (W.cell? ⟨gy, 0, none⟩ = some (.int .u64 xa) ∧ W.cell? ⟨gy, 1, none⟩ = some (.int .u64 xb) ∧ W.cell? ⟨gy, 2, none⟩ = some (.int .i64 xc))) W) := fun W hW => by
    have h := HB6.out.keep hW
    exact ⟨(h.r3 (b := w.heap.size) (by repeat first | exact .head _ | apply List.Mem.tail)).2, (h.r3 (b := w.heap.size + 1) (by repeat first | exact .head _ | apply List.Mem.tail)).2, (h.r3 (b := gx) (by repeat first | exact .head _ | apply List.Mem.tail)).2, (h.r3 (b := gy) (by repeat first | exact .head _ | apply List.Mem.tail)).2⟩
  have HKB : Hid (∀ W, Below Y.heap.size Y W → Below w.heap.size w W) := fun W hW => below_chain7 hc6 hW
  go_region_held3 (fun W => (W.cell? ⟨w.heap.size, 0, none⟩ = some (.int .u64 (hi : Nat)) ∧ W.cell? ⟨w.heap.size, 1, none⟩ = some (.int .u64 (lo : Nat)) ∧ W.cell? ⟨w.heap.size, 2, none⟩ = some (.int .i64 pn)) ∧ (W.cell? ⟨w.heap.size + 1, 0, none⟩ = some (.int .u64 (hi2 : Nat)) ∧ W.cell? ⟨w.heap.size + 1, 1, none⟩ = some (.int .u64 (lo2 : Nat)) ∧ W.cell? ⟨w.heap.size + 1, 2, none⟩ = some (.int .i64 m)) ∧ (W.cell? ⟨gx, 0, none⟩ = some (.int .u64 xa) ∧ W.cell? ⟨gx, 1, none⟩ = some (.int .u64 xb) ∧ W.cell? ⟨gx, 2, none⟩ = some (.int .i64 xc)) ∧ (W.cell? ⟨gy, 0, none⟩ = some (.int .u64 xa) ∧ W.cell? ⟨gy, 1, none⟩ = some (.int .u64 xb) ∧ W.cell? ⟨gy, 2, none⟩ = some (.int .i64 xc)))
    (first | exact HK.out _ ((Below.refl _ _).drew) | exact HK.out _ (drew_c hz1) | exact HK.out _ (below_chain7 (drew_c hz1) hz2) | exact HK.out _ (below_chain7 (below_chain7 (drew_c hz1) hz2) hz3) | exact HK.out _ (below_chain7 (below_chain7 (below_chain7 (drew_c hz1) hz2) hz3) hz4) | exact HK.out _ (below_chain7 (below_chain7 (below_chain7 (below_chain7 (drew_c hz1) hz2) hz3) hz4) hz5) | exact HK.out _ (below_chain7 (below_chain7 (below_chain7 (below_chain7 (below_chain7 (drew_c hz1) hz2) hz3) hz4) hz5) hz6) | exact HK.out _ (below_chain7 (below_chain7 (below_chain7 (below_chain7 (below_chain7 (below_chain7 (drew_c hz1) hz2) hz3) hz4) hz5) hz6) hz7) | exact HK.out _ (below_chain7 (below_chain7 (below_chain7 (below_chain7 (below_chain7 (below_chain7 (below_chain7 (drew_c hz1) hz2) hz3) hz4) hz5) hz6) hz7) hz8) | exact HK.out _ (below_chain7 (below_chain7 (below_chain7 (below_chain7 (below_chain7 (below_chain7 (below_chain7 (below_chain7 (drew_c hz1) hz2) hz3) hz4) hz5) hz6) hz7) hz8) hz9) | exact HK.out _ (below_chain7 (below_chain7 (below_chain7 (below_chain7 (below_chain7 (below_chain7 (below_chain7 (below_chain7 (below_chain7 (drew_c hz1) hz2) hz3) hz4) hz5) hz6) hz7) hz8) hz9) hz10) | exact HK.out _ (below_chain7 (below_chain7 (below_chain7 (below_chain7 (below_chain7 (below_chain7 (below_chain7 (below_chain7 (below_chain7 (below_chain7 (drew_c hz1) hz2) hz3) hz4) hz5) hz6) hz7) hz8) hz9) hz10) hz11))
    (first
      | (go_simp; go_at_call 15; ((with_reducible refine (H1.out _).mono ?_); rintro e z1 ⟨rfl, hz1⟩))
      | (go_simp; go_at_call 16; ((with_reducible refine (H2.out _).mono ?_); rintro e z2 ⟨rfl, hz2⟩))
      | (go_simp; go_at_call 17; ((with_reducible refine (H3.out _).mono ?_); rintro e z3 ⟨rfl, hz3⟩))
      | (go_simp; go_at_call 13; ((with_reducible refine (HLo.out _).mono ?_); rintro e z4 ⟨rfl, hz4⟩))
      | (go_simp; go_at_call 18; ((with_reducible refine (H5.out _).mono ?_); rintro e z5 ⟨rfl, hz5⟩))
      | (go_simp; go_at_call 19; ((with_reducible refine (H6.out _).mono ?_); rintro e z6 ⟨rfl, hz6⟩))
      | (go_simp; go_at_call 20; ((with_reducible refine (H7.out _).mono ?_); rintro e z7 ⟨rfl, hz7⟩))
      | (go_simp; go_at_call 21; ((with_reducible refine (H8.out _ (HKB.out _ (below_chain7 (below_chain7 (below_chain7 (below_chain7 (below_chain7 (below_chain7 (drew_c hz1) hz2) hz3) hz4) hz5) hz6) hz7))).mono ?_); rintro e z8 ⟨rfl, hz8⟩))
      | (go_simp; go_at_call 22; ((with_reducible refine (H9.out _ (HKB.out _ (below_chain7 (below_chain7 (below_chain7 (below_chain7 (below_chain7 (below_chain7 (below_chain7 (drew_c hz1) hz2) hz3) hz4) hz5) hz6) hz7) hz8))).mono ?_); rintro e z9 ⟨rfl, hz9⟩))
      | (go_simp; go_at_call 23; ((with_reducible refine (H10.out _).mono ?_); rintro e z10 ⟨rfl, hz10⟩))
      | (go_simp; go_at_call 17; ((with_reducible refine (H11.out _).mono ?_); rintro e z11 ⟨rfl, hz11⟩))
)
  go_wp2
  go_ret
  exact ⟨rfl, HKB.out _ (below_chain7 (below_chain7 (below_chain7 (below_chain7 (below_chain7 (below_chain7 (below_chain7 (below_chain7 (below_chain7 (below_chain7 (drew_c hz1) hz2) hz3) hz4) hz5) hz6) hz7) hz8) hz9) hz10) hz11)⟩

set_option maxRecDepth 100000 in
set_option maxHeartbeats 16000000 in
theorem tells_big (hi lo hi2 lo2 ah al : Nat) (pn m n xa xb xc bv a3 a4 : Int) (is s okv b1 b2 b3 : Bool) (va : Value) (X : List UInt8) (w : World) (hbru : BruTab w) (hmax : MaxVar w) (hn : 128 ≤ n) (hbv : bv = 0)
    (HM : Hid (∀ W, Calls Tryz.prog 10 #[.bool is, .int .u64 a3, .int .u64 a4] W fun e w' => e = .returned va ∧ W = w'))
    (HOf : Hid (∀ W, Calls Tryz.prog 11 #[va, .int .i64 n] W fun e w' => e = .returned (.tuple #[.agg #[.int .u64 xa, .int .u64 xb, .int .i64 xc], .bool okv]) ∧ Below W.heap.size W w'))
    (HLo : Hid (∀ W, Calls Tryz.prog 13 #[va] W fun e w' => e = .returned (.agg #[.bool s, .int .u64 (ah : Nat), .int .u64 (al : Nat)]) ∧ Below W.heap.size W w'))
    (HRo : Hid (∀ W, Calls Tryz.prog 12 #[.agg #[.bool s, .int .u64 (ah : Nat), .int .u64 (al : Nat)], .int .i64 n] W fun e w' => e = .returned (.tuple #[.agg #[.int .u64 xa, .int .u64 xb, .int .i64 xc], .bool okv]) ∧ Below W.heap.size W w'))
    (HNo : Hid (∀ W, Calls Tryz.prog 11 #[.nilIface, .int .i64 0] W fun e w' => e = .returned (.tuple #[.agg #[.int .u64 0, .int .u64 0, .int .i64 0], .bool false]) ∧ Below W.heap.size W w'))
    (H1 : Hid (∀ W, Calls Tryz.prog 15 #[.agg #[.int .u64 (hi : Nat), .int .u64 (lo : Nat), .int .i64 pn]] W fun e w' => e = .returned (.bool b1) ∧ Below W.heap.size W w'))
    (H2 : Hid (∀ W, Calls Tryz.prog 16 #[.agg #[.int .u64 (hi : Nat), .int .u64 (lo : Nat), .int .i64 pn]] W fun e w' => e = .returned (.bool b1) ∧ Below W.heap.size W w'))
    (H3 : Hid (∀ W, Calls Tryz.prog 17 #[.agg #[.int .u64 (hi : Nat), .int .u64 (lo : Nat), .int .i64 pn], va] W fun e w' => e = .returned (.bool b2) ∧ Below W.heap.size W w'))
    (H5 : Hid (∀ W, Calls Tryz.prog 18 #[.agg #[.int .u64 (hi : Nat), .int .u64 (lo : Nat), .int .i64 pn], .agg #[.bool s, .int .u64 (ah : Nat), .int .u64 (al : Nat)]] W fun e w' => e = .returned (.bool b2) ∧ Below W.heap.size W w'))
    (H6 : Hid (∀ W, Calls Tryz.prog 19 #[.agg #[.int .u64 (hi : Nat), .int .u64 (lo : Nat), .int .i64 pn], .agg #[.int .u64 (hi2 : Nat), .int .u64 (lo2 : Nat), .int .i64 m]] W fun e w' => e = .returned (.bool b3) ∧ Below W.heap.size W w'))
    (H7 : Hid (∀ W, Calls Tryz.prog 20 #[.agg #[.int .u64 (hi : Nat), .int .u64 (lo : Nat), .int .i64 pn], .agg #[.int .u64 (hi2 : Nat), .int .u64 (lo2 : Nat), .int .i64 m]] W fun e w' => e = .returned (.bool b3) ∧ Below W.heap.size W w'))
    (H8 : Hid (∀ W, Below w.heap.size w W → Calls Tryz.prog 21 #[.agg #[.int .u64 (hi : Nat), .int .u64 (lo : Nat), .int .i64 pn]] W (RetStr W X)))
    (H9 : Hid (∀ W, Below w.heap.size w W → Calls Tryz.prog 22 #[.agg #[.int .u64 (hi : Nat), .int .u64 (lo : Nat), .int .i64 pn]] W (RetStr W X)))
    (H10 : Hid (∀ W, Calls Tryz.prog 23 #[.agg #[.int .u64 (hi : Nat), .int .u64 (lo : Nat), .int .i64 pn], .int .i64 n] W fun e w' => e = .returned (.int .i64 bv) ∧ Below W.heap.size W w'))
    (H11 : Hid (∀ W, Calls Tryz.prog 17 #[.agg #[.int .u64 (hi : Nat), .int .u64 (lo : Nat), .int .i64 pn], .nilIface] W fun e w' => e = .returned (.bool false) ∧ Below W.heap.size W w')) :
    Calls Tryz.prog 3 #[.agg #[.int .u64 (hi : Nat), .int .u64 (lo : Nat), .int .i64 pn], .agg #[.int .u64 (hi2 : Nat), .int .u64 (lo2 : Nat), .int .i64 m], .bool is, .int .u64 a3, .int .u64 a4, .int .i64 n] w fun e w' => e = .returned (.bool true) ∧ Below w.heap.size w w' := by
  have HT := Lib.hid hbru
  have HX := Lib.hid hmax
  clear hbru hmax
  have heq := eqPr_same xa xb xc
  have hg := eqPr_guard
  have HB0 := Lib.hid (blks_twoT (Blks.empty w) #[.int .u64 (hi : Nat), .int .u64 (lo : Nat), .int .i64 pn] #[.int .u64 (hi2 : Nat), .int .u64 (lo2 : Nat), .int .i64 m] 24 24)
  have hc0 : Below w.heap.size w ((w.alloc (.cells #[.int .u64 (hi : Nat), .int .u64 (lo : Nat), .int .i64 pn] 24)).alloc (.cells #[.int .u64 (hi2 : Nat), .int .u64 (lo2 : Nat), .int .i64 m] 24)) := ((Below.refl _ _).alloc (Nat.le_refl _) _).alloc (by simp) _
  subst hbv
  go_enter Tryz.func3, Tryz.ntmps3
  go_wp2_with fail
  refine (awake07_any _ (bruTab_below HT.out hc0) (maxVar_below HX.out hc0)).mono ?_
  rintro e x1 ⟨rfl, hb1⟩
  have HB1 := Lib.hid (HB0.out.keep hb1)
  have hc1 := below_chain7 hc0 hb1
  clear HB0 hb1 hc0
  go_wp2_with fail
  refine (HM.out _).mono ?_
  rintro e x1' ⟨rfl, rfl⟩
  go_wp2_with fail
  refine (HOf.out _).mono ?_
  rintro e x2 ⟨rfl, hb2⟩
  have HB2 := Lib.hid ((HB1.out.keep hb2).new #[.int .u64 xa, .int .u64 xb, .int .i64 xc] 24)
  have hc2 := (below_chain7 hc1 hb2).alloc (below_chain7 hc1 hb2).size (.cells #[.int .u64 xa, .int .u64 xb, .int .i64 xc] 24)
  clear HB1 hb2 hc1
  go_wp2_with fail
  refine (HLo.out _).mono ?_
  rintro e x3 ⟨rfl, hb3⟩
  have HB3 := Lib.hid (HB2.out.keep hb3)
  have hc3 := below_chain7 hc2 hb3
  generalize x2.heap.size = gx at *
  clear HB2 hb3 hc2
  go_wp2_with fail
  refine (HRo.out _).mono ?_
  rintro e x4 ⟨rfl, hb4⟩
  have HB4' := Lib.hid (HB3.out.keep hb4)
  obtain ⟨lp, p0, p1, p2⟩ := HB4'.out.r3 (b := w.heap.size) (by repeat first | exact .head _ | apply List.Mem.tail)
  have HB4 := Lib.hid (HB4'.out.new #[.int .u64 xa, .int .u64 xb, .int .i64 xc] 31)
  have hc4 := (below_chain7 hc3 hb4).alloc (below_chain7 hc3 hb4).size (.cells #[.int .u64 xa, .int .u64 xb, .int .i64 xc] 31)
  clear HB3 hb4 hc3
  go_wp2_with fail
  refine (HNo.out _).mono ?_
  rintro e x6 ⟨rfl, hb6⟩
  have hz6 : Below x6.heap.size x6 (x6.alloc (.cells #[.int .u64 0, .int .u64 0, .int .i64 0] 24)) := (Below.refl _ _).alloc (Nat.le_refl _) _
  have HB6 := Lib.hid ((HB4.out.keep hb6).keep hz6)
  have hc6 := below_chain7 (below_chain7 hc4 hb6) hz6
  generalize x4.heap.size = gy at *
  clear HB4 hb6 hc4 hz6 lp p0 p1 p2 HB4'
  go_wp2
  generalize x6.alloc (.cells #[.int .u64 0, .int .u64 0, .int .i64 0] 24) = Y at *
  have HK : Hid (∀ W, Below Y.heap.size Y W → (fun W => (W.cell? ⟨w.heap.size, 0, none⟩ = some (.int .u64 (hi : Nat)) ∧ W.cell? ⟨w.heap.size, 1, none⟩ = some (.int .u64 (lo : Nat)) ∧ W.cell? ⟨w.heap.size, 2, none⟩ = some (.int .i64 pn)) ∧ (W.cell? ⟨w.heap.size + 1, 0, none⟩ = some (.int .u64 (hi2 : Nat)) ∧ W.cell? ⟨w.heap.size + 1, 1, none⟩ = some (.int .u64 (lo2 : Nat)) ∧ W.cell? ⟨w.heap.size + 1, 2, none⟩ = some (.int .i64 m)) ∧ (W.cell? ⟨gx, 0, none⟩ = some (.int .u64 xa) ∧ W.cell? ⟨gx, 1, none⟩ = some (.int .u64 xb) ∧ W.cell? ⟨gx, 2, none⟩ = some (.int .i64 xc)) ∧ (W.cell? ⟨gy, 0, none⟩ = some (.int .u64 xa) ∧ W.cell? ⟨gy, 1, none⟩ = some (.int .u64 xb) ∧ W.cell? ⟨gy, 2, none⟩ = some (.int .i64 xc))) W) := fun W hW => by
    have h := HB6.out.keep hW
    exact ⟨(h.r3 (b := w.heap.size) (by repeat first | exact .head _ | apply List.Mem.tail)).2, (h.r3 (b := w.heap.size + 1) (by repeat first | exact .head _ | apply List.Mem.tail)).2, (h.r3 (b := gx) (by repeat first | exact .head _ | apply List.Mem.tail)).2, (h.r3 (b := gy) (by repeat first | exact .head _ | apply List.Mem.tail)).2⟩
  have HKB : Hid (∀ W, Below Y.heap.size Y W → Below w.heap.size w W) := fun W hW => below_chain7 hc6 hW
  go_region_held3 (fun W => (W.cell? ⟨w.heap.size, 0, none⟩ = some (.int .u64 (hi : Nat)) ∧ W.cell? ⟨w.heap.size, 1, none⟩ = some (.int .u64 (lo : Nat)) ∧ W.cell? ⟨w.heap.size, 2, none⟩ = some (.int .i64 pn)) ∧ (W.cell? ⟨w.heap.size + 1, 0, none⟩ = some (.int .u64 (hi2 : Nat)) ∧ W.cell? ⟨w.heap.size + 1, 1, none⟩ = some (.int .u64 (lo2 : Nat)) ∧ W.cell? ⟨w.heap.size + 1, 2, none⟩ = some (.int .i64 m)) ∧ (W.cell? ⟨gx, 0, none⟩ = some (.int .u64 xa) ∧ W.cell? ⟨gx, 1, none⟩ = some (.int .u64 xb) ∧ W.cell? ⟨gx, 2, none⟩ = some (.int .i64 xc)) ∧ (W.cell? ⟨gy, 0, none⟩ = some (.int .u64 xa) ∧ W.cell? ⟨gy, 1, none⟩ = some (.int .u64 xb) ∧ W.cell? ⟨gy, 2, none⟩ = some (.int .i64 xc)))
    (first | exact HK.out _ ((Below.refl _ _).drew) | exact HK.out _ (drew_c hz1) | exact HK.out _ (below_chain7 (drew_c hz1) hz2) | exact HK.out _ (below_chain7 (below_chain7 (drew_c hz1) hz2) hz3) | exact HK.out _ (below_chain7 (below_chain7 (below_chain7 (drew_c hz1) hz2) hz3) hz4) | exact HK.out _ (below_chain7 (below_chain7 (below_chain7 (below_chain7 (drew_c hz1) hz2) hz3) hz4) hz5) | exact HK.out _ (below_chain7 (below_chain7 (below_chain7 (below_chain7 (below_chain7 (drew_c hz1) hz2) hz3) hz4) hz5) hz6) | exact HK.out _ (below_chain7 (below_chain7 (below_chain7 (below_chain7 (below_chain7 (below_chain7 (drew_c hz1) hz2) hz3) hz4) hz5) hz6) hz7) | exact HK.out _ (below_chain7 (below_chain7 (below_chain7 (below_chain7 (below_chain7 (below_chain7 (below_chain7 (drew_c hz1) hz2) hz3) hz4) hz5) hz6) hz7) hz8) | exact HK.out _ (below_chain7 (below_chain7 (below_chain7 (below_chain7 (below_chain7 (below_chain7 (below_chain7 (below_chain7 (drew_c hz1) hz2) hz3) hz4) hz5) hz6) hz7) hz8) hz9) | exact HK.out _ (below_chain7 (below_chain7 (below_chain7 (below_chain7 (below_chain7 (below_chain7 (below_chain7 (below_chain7 (below_chain7 (drew_c hz1) hz2) hz3) hz4) hz5) hz6) hz7) hz8) hz9) hz10) | exact HK.out _ (below_chain7 (below_chain7 (below_chain7 (below_chain7 (below_chain7 (below_chain7 (below_chain7 (below_chain7 (below_chain7 (below_chain7 (drew_c hz1) hz2) hz3) hz4) hz5) hz6) hz7) hz8) hz9) hz10) hz11))
    (first
      | (go_simp; go_at_call 15; ((with_reducible refine (H1.out _).mono ?_); rintro e z1 ⟨rfl, hz1⟩))
      | (go_simp; go_at_call 16; ((with_reducible refine (H2.out _).mono ?_); rintro e z2 ⟨rfl, hz2⟩))
      | (go_simp; go_at_call 17; ((with_reducible refine (H3.out _).mono ?_); rintro e z3 ⟨rfl, hz3⟩))
      | (go_simp; go_at_call 13; ((with_reducible refine (HLo.out _).mono ?_); rintro e z4 ⟨rfl, hz4⟩))
      | (go_simp; go_at_call 18; ((with_reducible refine (H5.out _).mono ?_); rintro e z5 ⟨rfl, hz5⟩))
      | (go_simp; go_at_call 19; ((with_reducible refine (H6.out _).mono ?_); rintro e z6 ⟨rfl, hz6⟩))
      | (go_simp; go_at_call 20; ((with_reducible refine (H7.out _).mono ?_); rintro e z7 ⟨rfl, hz7⟩))
      | (go_simp; go_at_call 21; ((with_reducible refine (H8.out _ (HKB.out _ (below_chain7 (below_chain7 (below_chain7 (below_chain7 (below_chain7 (below_chain7 (drew_c hz1) hz2) hz3) hz4) hz5) hz6) hz7))).mono ?_); rintro e z8 ⟨rfl, hz8⟩))
      | (go_simp; go_at_call 22; ((with_reducible refine (H9.out _ (HKB.out _ (below_chain7 (below_chain7 (below_chain7 (below_chain7 (below_chain7 (below_chain7 (below_chain7 (drew_c hz1) hz2) hz3) hz4) hz5) hz6) hz7) hz8))).mono ?_); rintro e z9 ⟨rfl, hz9⟩))
      | (go_simp; go_at_call 23; ((with_reducible refine (H10.out _).mono ?_); rintro e z10 ⟨rfl, hz10⟩))
      | (go_simp; go_at_call 17; ((with_reducible refine (H11.out _).mono ?_); rintro e z11 ⟨rfl, hz11⟩))
)
  go_wp2
  go_ret
  exact ⟨rfl, HKB.out _ (below_chain7 (below_chain7 (below_chain7 (below_chain7 (below_chain7 (below_chain7 (below_chain7 (below_chain7 (below_chain7 (below_chain7 (drew_c hz1) hz2) hz3) hz4) hz5) hz6) hz7) hz8) hz9) hz10) hz11)⟩

theorem bounds_u64t {n : Int} (h : (Lit.int .u64 n).wf = true) : ∃ x : Nat, n = x ∧ x < 18446744073709551616 := by
  simp [Lit.wf, IntKind.min, IntKind.max, IntKind.bits, IntKind.signed] at h
  exact ⟨n.toNat, by omega, by omega⟩
theorem bounds_i64t {n : Int} (h : (Lit.int .i64 n).wf = true) : -9223372036854775808 ≤ n ∧ n ≤ 9223372036854775807 := by
  simp [Lit.wf, IntKind.min, IntKind.max, IntKind.bits, IntKind.signed] at h
  omega
theorem ref_of (a : AZ) (h : a.Ok) : ∃ (s : Bool) (ah al : Nat), refV (refA (some a)) = .agg #[.bool s, .int .u64 (ah : Nat), .int .u64 (al : Nat)] ∧ ah < 18446744073709551616 ∧ al < 18446744073709551616 ∧ wideN ah al = a.wd := by
  obtain ⟨hi, lo, e1, e2, b1, b2, e3⟩ := AZ.ok_hl h
  cases a with
  | four n => exact ⟨false, hi, lo, by rw [← e1, ← e2]; rfl, b1, b2, e3.symm⟩
  | six x y => exact ⟨true, hi, lo, by rw [← e1, ← e2]; rfl, b1, b2, e3.symm⟩
set_option maxRecDepth 100000 in
theorem prefixTells_walk (p0 p1 p2 q0 q1 q2 : Int) (is : Bool) (a3 a4 a5 : Int) (wp0 : (Lit.int .u64 p0).wf = true) (wp1 : (Lit.int .u64 p1).wf = true) (wp2 : (Lit.int .i64 p2).wf = true) (wq0 : (Lit.int .u64 q0).wf = true) (wq1 : (Lit.int .u64 q1).wf = true) (_ : (Lit.int .i64 q2).wf = true) (w3 : (Lit.int .u64 a3).wf = true) (w4 : (Lit.int .u64 a4).wf = true) (w5 : (Lit.int .i64 a5).wf = true) (w : World) (hpow : PowTab w) (hbru : BruTab w) (hmax : MaxVar w) :
    Calls Tryz.prog 3 #[.agg #[.int .u64 p0, .int .u64 p1, .int .i64 p2], .agg #[.int .u64 q0, .int .u64 q1, .int .i64 q2], .bool is, .int .u64 a3, .int .u64 a4, .int .i64 a5] w fun e w' => e = .returned (.bool true) ∧ Below w.heap.size w w' := by
  obtain ⟨hi, rfl, b1⟩ := bounds_u64t wp0
  obtain ⟨lo, rfl, b2⟩ := bounds_u64t wp1
  obtain ⟨hi2, rfl, b3⟩ := bounds_u64t wq0
  obtain ⟨lo2, rfl, b4⟩ := bounds_u64t wq1
  obtain ⟨hh, rfl, b5⟩ := bounds_u64t w3
  obtain ⟨hl, rfl, b6⟩ := bounds_u64t w4
  have np := bounds_i64t wp2
  have nn := bounds_i64t w5
  have hok : (AZ.make is hh hl).Ok := make_ok is hh hl (by omega) (by omega) (by omega) (by omega)
  obtain ⟨a, ha⟩ : ∃ a, AZ.make is (hh : Int) (hl : Int) = a := ⟨_, rfl⟩
  rw [ha] at hok
  obtain ⟨s, ah, al, er, b7, b8, ew⟩ := ref_of a hok
  have HM : ∀ W, Calls Tryz.prog 10 #[.bool is, .int .u64 (hh : Int), .int .u64 (hl : Int)] W fun e w' => e = .returned a.val ∧ W = w' := fun W => by
    have := make6_any is hh hl W; rwa [ha] at this
  have HLo : ∀ W, Calls Tryz.prog 13 #[a.val] W fun e w' => e = .returned (.agg #[.bool s, .int .u64 (ah : Nat), .int .u64 (al : Nat)]) ∧ Below W.heap.size W w' := fun W => by
    have := lawOf_any (some a) W (fun b e => by cases e; exact hok); rw [er] at this; exact this
  have HNo : ∀ W, Calls Tryz.prog 11 #[.nilIface, .int .i64 0] W fun e w' => e = .returned (.tuple #[.agg #[.int .u64 0, .int .u64 0, .int .i64 0], .bool false]) ∧ Below W.heap.size W w' := fun W => pOf_nil 0 W (by omega)
  have H1 := fun W => pRight_any hi lo p2 W b1 b2
  have H2 := fun W => refRight7_any hi lo p2 W b1 b2
  have H3 := fun W => pHas_any hi lo p2 a W b1 b2 hok
  have H5 := fun W => refHas_any hi lo p2 ah al s W b1 b2 b7 b8
  rw [ew] at H5
  have H6 := fun W => covers_any hi lo hi2 lo2 p2 q2 W b1 b2 b3 b4
  have H7 := fun W => refCovers_any hi lo hi2 lo2 p2 q2 W b1 b2 b3 b4
  have H8 := fun W (hW : Below w.heap.size w W) => pText_any hi lo p2 W b1 b2 np.1 np.2 (powTab_below hpow hW) (bruTab_below hbru hW)
  have H9 := fun W (hW : Below w.heap.size w W) => rText_any hi lo p2 W b1 b2 np.1 np.2 (powTab_below hpow hW)
  have H10 := fun W => bit_any hi lo p2 a5 W b1 b2
  have H11 := fun W => pHas_nil hi lo p2 W
  by_cases c1 : a5 < 0
  · have HOf := fun W => pOf_out (some a) a5 W (.inl c1)
    have HRo := fun W => refOf_out #[.bool s, .int .u64 (ah : Nat), .int .u64 (al : Nat)] a5 W (.inl c1)
    exact tells_neg hi lo hi2 lo2 ah al p2 q2 a5 _ _ _ _ hh hl is s false _ _ _ a.val _ w hbru hmax c1 (by unfold bitZ; rw [if_neg (by omega)]) HM HOf HLo HRo HNo H1 H2 H3 H5 H6 H7 H8 H9 H10 H11
  · by_cases c2 : a5 < 128
    · obtain ⟨k, rfl⟩ := Int.eq_ofNat_of_zero_le (show 0 ≤ a5 by omega)
      have HOf := fun W => pOf_any a k W hok (by omega)
      have HRo := fun W => refOf_in s ah al k W b7 b8 (by omega)
      rw [ew] at HRo
      have HBi := fun W => refBit_any hi lo k W b1 b2 (by omega)
      rw [← bitZ_nat _ _ (by omega)] at HBi
      exact tells_in hi lo hi2 lo2 ah al p2 q2 k _ _ _ _ hh hl is s true _ _ _ a.val _ w hbru hmax ⟨by omega, c2⟩ HM HOf HLo HRo HNo H1 H2 H3 H5 H6 H7 H8 H9 H10 H11 HBi
    · have hbz : bitZ (wideN hi lo) a5 = 0 := by unfold bitZ; rw [if_neg (by omega)]
      by_cases c3 : a5 = 128
      · subst c3
        have HOf := fun W => pOf_any a 128 W hok (by omega)
        have HRo := fun W => refOf_in s ah al 128 W b7 b8 (by omega)
        rw [ew] at HRo
        exact tells_big hi lo hi2 lo2 ah al p2 q2 128 _ _ _ _ hh hl is s true _ _ _ a.val _ w hbru hmax (by omega) hbz HM HOf HLo HRo HNo H1 H2 H3 H5 H6 H7 H8 H9 H10 H11
      · have HOf := fun W => pOf_out (some a) a5 W (.inr (by omega))
        have HRo := fun W => refOf_out #[.bool s, .int .u64 (ah : Nat), .int .u64 (al : Nat)] a5 W (.inr (by omega))
        exact tells_big hi lo hi2 lo2 ah al p2 q2 a5 _ _ _ _ hh hl is s false _ _ _ a.val _ w hbru hmax (by omega) hbz HM HOf HLo HRo HNo H1 H2 H3 H5 H6 H7 H8 H9 H10 H11
end Go.Proofs.YthdcldkcmnpkiaaGreatDoor
