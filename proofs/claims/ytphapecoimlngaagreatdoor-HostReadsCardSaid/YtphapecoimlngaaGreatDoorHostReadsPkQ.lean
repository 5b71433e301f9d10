/-
  What the law HostReads leans on, and its walk (17 of 18).
-/
import Derived.Deep.RegionHeld3
import Derived.Test.YtphapecoimlngaaGreatDoorHostReadsPkD
import Derived.Test.YtphapecoimlngaaGreatDoorHostReadsPkP
import Derived.Test.YtphapecoimlngaaGreatDoorHostReadsPkG
namespace Go.Proofs.YtphapecoimlngaaGreatDoor
set_option maxRecDepth 100000
set_option maxHeartbeats 16000000
theorem tkQ {P : Program} {md : Region.Mode} {ops : Array Oper} {Q : Exit → Act → World → Prop} {S : World → Prop} (i : Nat) (s : Option Nat) {op : Op} {ty : TypeId} {pos : String} {af : _} {gd : _} {v : Value} {fuel : Nat} {listed : Array Bool} {a : Act} {w : World} (hi : ops[i]? = some ⟨s, op, ty, pos, af, gd⟩)
 (hy : YieldsIf P ops S ⟨s, op, ty, pos, af, gd⟩ v a) (hS : S w)
 (h : wpAnyH P md ops Q S fuel (listed.setIfInBounds i true) (a.put s v) w)
 (hs : Region.noSelect ops = true := by kernel_rfl) (hf : Region.free md ops listed i = true := by kernel_rfl) (hr : (Region.ready md ops listed).contains i = true := by kernel_rfl)
 (hQ : ∀ c a w, Q (.panic c) (a.put s v) w → Q (.panic c) a w := by exact fun _ _ _ h => h) : wpAnyH P md ops Q S (fuel + 1) listed a w :=
 wpAnyH_take hi hs hf hr hQ hy hS h
theorem tkQa {α : Type _} (l : List α) (i : Nat) (a : α) : l.toArray.setIfInBounds i a = (l.set i a).toArray := List.setIfInBounds_toArray ..
theorem tkQb {α : Type _} (x y : α) (l : List α) : (x :: l).set 0 y = y :: l := rfl
theorem tkQc {α : Type _} (x y : α) (l : List α) (n : Nat) : (x :: l).set (n + 1) y = x :: l.set n y := rfl
section
open Go.RowKit
theorem zwJ (w : World) (hbru : BruTab w) (hmax : MaxVar w) :
  Calls Tryz.prog 35 #[] w fun e w' => e = .returned (.bool true) ∧ Below w.heap.size w w' := by
 go_enter Tryz.func35, Tryz.ntmps35
 go_wp2_with fail
 refine (zqW _ hbru hmax).mono ?_
 rintro e w' ⟨rfl, hb⟩
 go_wp2
 go_ret
 exact ⟨rfl, hb⟩
theorem ex11_a : zcG [69, 88, 65, 77, 80, 76, 69, 46, 99, 111, 109, 46] = ([101, 120, 97, 109, 112, 108, 101, 46, 99, 111, 109, 46], 0) := by decide +kernel
theorem ex11_b : zcG [97, 46, 46, 98] = ([], 6) := by decide +kernel
theorem ex11_c : zcG [88, 78, 45, 45, 97, 46, 98] = ([], 7) := by decide +kernel
theorem zrK (w : World) (hbru : BruTab w) (hmax : MaxVar w) :
  Calls Tryz.prog 10 #[] w fun e w' => e = .returned (.bool true) ∧ Below w.heap.size w w' := by
 have HT := Lib.hid hbru
 have HX := Lib.hid hmax
 clear hbru hmax
 go_enter Tryz.func10, Tryz.ntmps10
 go_wp2_with fail
 refine (zjG ⟨#[69, 88, 65, 77, 80, 76, 69, 46, 99, 111, 109, 46]⟩ _ (by decide)).mono ?_
 rw [ex11_a]
 rintro e w1 ⟨rfl, hb1⟩
 go_wp2_with fail
 refine (zjG ⟨#[97, 46, 46, 98]⟩ _ (by decide)).mono ?_
 rw [ex11_b]
 rintro e w2 ⟨rfl, hb2⟩
 have hc2 := zaA hb1 hb2
 clear hb1 hb2
 go_wp2_with fail
 refine (zjG ⟨#[88, 78, 45, 45, 97, 46, 98]⟩ _ (by decide)).mono ?_
 rw [ex11_c]
 rintro e w3 ⟨rfl, hb3⟩
 have hc3 := zaA hc2 hb3
 clear hc2 hb3
 go_wp2_with fail
 refine (zwJ _ (zbK HT.out hc3) (zaD HX.out hc3)).mono ?_
 rintro e w4 ⟨rfl, hb4⟩
 have hc4 := zaA hc3 hb4
 clear hc3 hb4
 go_wp2
 go_ret
 exact ⟨rfl, hc4⟩
theorem zuH (w : World) (hbru : BruTab w) (hmax : MaxVar w) :
  Calls Tryz.prog 50 #[] w fun e w' => e = .returned (.bool true) ∧ Below w.heap.size w w' := by
 go_enter Tryz.func50, Tryz.ntmps50
 go_wp2_with fail
 refine (zrK _ hbru hmax).mono ?_
 rintro e w' ⟨rfl, hb⟩
 go_wp2
 go_ret
 exact ⟨rfl, hb⟩
end

section
open Go.RowKit
theorem zxJ (x y : HZ) (h : x ≠ .none) : ∀ (p q : Operand) (W : World), (eqGuard .eql 37 p q x.val y.val).run Tryz.prog W = .ok () W := by
 intro p q W
 match x, y, h with
 | .name _, .none, _ => rfl
 | .name _, .name _, _ => rfl
 | .name _, .addr (.four _), _ => rfl
 | .name _, .addr (.six _ _), _ => rfl
 | .addr (.four _), .none, _ => rfl
 | .addr (.four _), .name _, _ => rfl
 | .addr (.four _), .addr (.four _), _ => rfl
 | .addr (.four _), .addr (.six _ _), _ => rfl
 | .addr (.six _ _), .none, _ => rfl
 | .addr (.six _ _), .name _, _ => rfl
 | .addr (.six _ _), .addr (.four _), _ => rfl
 | .addr (.six _ _), .addr (.six _ _), _ => rfl
theorem sameN (s : ByteArray) (W : World) : (Op.equal 37 (.iface 23 (.string s)) (.iface 23 (.string s))).run Tryz.prog W = .ok (s == s) W := by kernel_rfl
theorem same4 (n : Int) (W : World) : (Op.equal 37 (.iface 70 (.int .u32 n)) (.iface 70 (.int .u32 n))).run Tryz.prog W = .ok (n == n) W := by kernel_rfl
theorem same6' (u v : Value) (W : World) : (Op.equal 37 (.iface 73 u) (.iface 73 v)).run Tryz.prog W = (Op.equalIn 9999 73 u v).run Tryz.prog W := by kernel_rfl
theorem same6 (h l : Int) (W : World) : (Op.equal 37 (.iface 73 (.agg #[.int .u64 h, .int .u64 l])) (.iface 73 (.agg #[.int .u64 h, .int .u64 l]))).run Tryz.prog W = .ok true W := by
 rw [same6', run_equalIn_struct W 9998 73 _ _ (by kernel_rfl) (by kernel_rfl)]
 simp [Program.fieldsOf, Tryz.underlying73, Op.eqFields, go_sem, part, Tryz.sizeOf40, Tryz.isAgg40, Tryz.underlying40]
/-- a host is the same as itself -/
theorem zmB (x : HZ) (h : x ≠ .none) : ∀ W : World, (binOp .eql 37 x.val x.val).run Tryz.prog W = .ok (.bool true) W := by
 intro W
 match x, h with
 | .name l, _ =>
  show ((Op.equal _ _ _ >>= fun b => pure (Value.bool b)) : Sem Value).run _ _ = _
  rw [Sem.run_bind, HZ.val, sameN, show ((ByteArray.mk l.toArray) == (ByteArray.mk l.toArray)) = true by show (l.toArray == l.toArray) = true; simp]
  rfl
 | .addr (.four n), _ =>
  show ((Op.equal _ _ _ >>= fun b => pure (Value.bool b)) : Sem Value).run _ _ = _
  rw [Sem.run_bind, HZ.val, AZ.val, same4]
  simp
 | .addr (.six hi lo), _ =>
  show ((Op.equal _ _ _ >>= fun b => pure (Value.bool b)) : Sem Value).run _ _ = _
  rw [Sem.run_bind, HZ.val, AZ.val, same6]
  rfl
theorem ex12_a : zgC [48, 88, 55, 70, 46, 49] = (.addr (.four 2130706433), 0) := by
 have h : zgC [48, 88, 55, 70, 46, 49] = zfW (zcG (decB [48, 88, 55, 70, 46, 49])) := rfl
 rw [h, show zcG (decB [48, 88, 55, 70, 46, 49]) = ([48, 120, 55, 102, 46, 49], 0) by decide +kernel, zmM (b := true) (x := 2130706433) (by decide +kernel) (by decide +kernel)]
 rfl
theorem ex12_b : zgC [37, 51, 49, 37, 51, 50, 37, 51, 55, 46, 48, 46, 48, 46, 49] = (.addr (.four 2130706433), 0) := by
 have h : zgC [37, 51, 49, 37, 51, 50, 37, 51, 55, 46, 48, 46, 48, 46, 49] = zfW (zcG (decB [37, 51, 49, 37, 51, 50, 37, 51, 55, 46, 48, 46, 48, 46, 49])) := rfl
 rw [h, show zcG (decB [37, 51, 49, 37, 51, 50, 37, 51, 55, 46, 48, 46, 48, 46, 49]) = ([49, 50, 55, 46, 48, 46, 48, 46, 49], 0) by decide +kernel, zmM (b := true) (x := 2130706433) (by decide +kernel) (by decide +kernel)]
 rfl
theorem ex12_c : zgC [91, 58, 58, 49, 93] = (.addr (.six 0 1), 0) := by
 have h : zgC [91, 58, 58, 49, 93] = zhB [58, 58, 49, 93] := rfl
 rw [h, ztV (hi := 0) (lo := 1) (by decide) (by decide +kernel)]
theorem ex12_d : zgC [49, 46, 50, 46, 51, 46, 52, 46, 53] = (.none, 6) := by
 have h : zgC [49, 46, 50, 46, 51, 46, 52, 46, 53] = zfW (zcG (decB [49, 46, 50, 46, 51, 46, 52, 46, 53])) := rfl
 rw [h, show zcG (decB [49, 46, 50, 46, 51, 46, 52, 46, 53]) = ([49, 46, 50, 46, 51, 46, 52, 46, 53], 0) by decide +kernel, zmM (b := false) (x := 0) (by decide +kernel) (by decide +kernel)]
 rfl
theorem zsP (w : World) (hbru : BruTab w) (hmax : MaxVar w) :
  Calls Tryz.prog 17 #[] w fun e w' => e = .returned (.bool true) ∧ Below w.heap.size w w' := by
 have HT := Lib.hid hbru
 have HX := Lib.hid hmax
 clear hbru hmax
 have HO : Hid (∀ W, Calls Tryz.prog 51 #[.int .u8 127, .int .u8 0, .int .u8 0, .int .u8 1] W fun e w' => e = .returned (.int .u32 2130706433) ∧ W = w') := fun W => zmN 127 0 0 1 W (by decide) (by decide) (by decide) (by decide)
 have hg4 := zxJ (.addr (.four 2130706433)) (.addr (.four 2130706433)) (by simp)
 have hg6 := zxJ (.addr (.six 0 1)) (.addr (.six 0 1)) (by simp)
 have he4 := zmB (.addr (.four 2130706433)) (by simp)
 have he6 := zmB (.addr (.six 0 1)) (by simp)
 simp only [HZ.val, AZ.val] at hg4 hg6 he4 he6
 go_enter Tryz.func17, Tryz.ntmps17
 go_wp2_with fail
 refine (zeD ⟨#[48, 88, 55, 70, 46, 49]⟩ _ (by decide) HX.out).mono ?_
 rw [ex12_a]
 rintro e w1 ⟨rfl, hb1⟩
 simp only [HZ.val, AZ.val]
 go_wp2_with fail
 refine (zeD ⟨#[37, 51, 49, 37, 51, 50, 37, 51, 55, 46, 48, 46, 48, 46, 49]⟩ _ (by decide) (zaD HX.out hb1)).mono ?_
 rw [ex12_b]
 rintro e w2 ⟨rfl, hb2⟩
 simp only [HZ.val, AZ.val]
 have hc2 := zcM hb1 hb2
 clear hb1 hb2
 go_wp2_with fail
 refine (zeD ⟨#[91, 58, 58, 49, 93]⟩ _ (by decide) (zaD HX.out hc2)).mono ?_
 rw [ex12_c]
 rintro e w3 ⟨rfl, hb3⟩
 simp only [HZ.val, AZ.val]
 have hc3 := zcM hc2 hb3
 clear hc2 hb3
 go_wp2_with fail
 refine (zeD ⟨#[49, 46, 50, 46, 51, 46, 52, 46, 53]⟩ _ (by decide) (zaD HX.out hc3)).mono ?_
 rw [ex12_d]
 rintro e w4 ⟨rfl, hb4⟩
 simp only [HZ.val]
 have hc4 := zcM hc3 hb4
 clear hc3 hb4
 go_wp2_with fail
 refine (zuH _ (zbK HT.out hc4) (zaD HX.out hc4)).mono ?_
 rintro e w5 ⟨rfl, hb5⟩
 have hc5 := zcM hc4 hb5
 clear hc4 hb5
 go_wp2_with (go_at_call 51; refine (HO.out _).mono ?_; rintro e w' ⟨rfl, rfl⟩)
 go_ret
 exact ⟨rfl, hc5⟩
end

section
open Go.RowKit
theorem z3Z (h : HZ) : ∃ k s b x y, refH h = #[.int .i64 k, .string s, .bool b, .int .u64 x, .int .u64 y] := by
 cases h <;> exact ⟨_, _, _, _, _, rfl⟩
theorem eqRefH (k : Int) (s : ByteArray) (b : Bool) (x y : Int) : ∀ W : World, (binOp .eql 44 (.agg #[.int .i64 k, .string s, .bool b, .int .u64 x, .int .u64 y]) (.agg #[.int .i64 k, .string s, .bool b, .int .u64 x, .int .u64 y])).run Tryz.prog W = .ok (.bool true) W := by
 intro W
 show ((Op.equal _ _ _ >>= fun b => pure (Value.bool b)) : Sem Value).run _ _ = _
 rw [Sem.run_bind, show (Op.equal 44 (.agg #[.int .i64 k, .string s, .bool b, .int .u64 x, .int .u64 y]) (.agg #[.int .i64 k, .string s, .bool b, .int .u64 x, .int .u64 y])).run Tryz.prog W = .ok true W from ?_]
 ·rfl
 ·rw [show (Op.equal 44 (.agg #[.int .i64 k, .string s, .bool b, .int .u64 x, .int .u64 y]) (.agg #[.int .i64 k, .string s, .bool b, .int .u64 x, .int .u64 y])).run Tryz.prog W = (Op.equalIn 10000 44 (.agg #[.int .i64 k, .string s, .bool b, .int .u64 x, .int .u64 y]) (.agg #[.int .i64 k, .string s, .bool b, .int .u64 x, .int .u64 y])).run Tryz.prog W from rfl, run_equalIn_struct W 9999 44 _ _ (by kernel_rfl) (by kernel_rfl)]
  simp [Program.fieldsOf, Tryz.underlying44, Op.eqFields, go_sem, part, Tryz.sizeOf40, Tryz.isAgg40, Tryz.underlying40]
theorem hostReads_walk (a0 : ByteArray) (_w0 : a0.size ≤ maxLen) (w : World) (hbru : BruTab w) (hmax : MaxVar w) :
  Calls Tryz.prog 6 #[.string a0] w fun e w' => e = .returned (.bool true) ∧ Below w.heap.size w w' := by
 have HT := Lib.hid hbru
 have HX := Lib.hid hmax
 clear hbru hmax
 obtain ⟨h, er, hh⟩ : ∃ h er, zgC a0.data.toList = (h, er) := ⟨_, _, rfl⟩
 have hin := z7J a0.data.toList
 have hno := zxK (l := a0.data.toList)
 rw [hh] at hin hno
 obtain ⟨k, s, b, x, y, hform⟩ := z3Z h
 have HOF := Lib.hid (fun W => zwF h W hin)
 rw [hform] at HOF
 have hee : (er == er) = true := by simp
 go_enter Tryz.func6, Tryz.ntmps6
 go_wp2_with fail
 refine (zsP _ HT.out HX.out).mono ?_
 rintro e w1 ⟨rfl, hb1⟩
 by_cases hbig : 1000 < a0.size
 ·have hd : decide (1000 < (a0.size : Int)) = true := decide_eq_true (by omega)
  go_wp2
  go_ret
  exact ⟨rfl, hb1⟩
 have hd : decide (1000 < (a0.size : Int)) = false := decide_eq_false (by omega)
 go_wp2_with fail
 refine (zeD a0 _ (by omega) (zaD HX.out hb1)).mono ?_
 rw [hh]
 rintro e w2 ⟨rfl, hb2⟩
 have hc2 := zcM hb1 hb2
 clear hb1 hb2 hd
 go_wp2_with fail
 refine (zlC a0 _ (by omega)).mono ?_
 rw [hh]
 rintro e w3 ⟨rfl, hb3⟩
 simp only [hform]
 have hc3 := zcM hc2 hb3
 have hal : Below w3.heap.size w3 (w3.alloc (.cells #[.int .i64 k, .string s, .bool b, .int .u64 x, .int .u64 y] 44)) := (Below.refl _ _).alloc (Nat.le_refl _) _
 have hc4 := zcM hc3 hal
 have hblk := heap_alloc_new w3 (.cells #[.int .i64 k, .string s, .bool b, .int .u64 x, .int .u64 y] 44)
 have hlt : w3.heap.size < (w3.alloc (.cells #[.int .i64 k, .string s, .bool b, .int .u64 x, .int .u64 y] 44)).heap.size := by simp
 clear hb3 hal hc2 hc3
 go_wp2_with fail
 generalize w3.alloc (.cells #[.int .i64 k, .string s, .bool b, .int .u64 x, .int .u64 y] 44) = z at *
 generalize w3.heap.size = g at *
 have HK : Hid (∀ W, Below z.heap.size z W → W.cell? ⟨g, 0, none⟩ = some (.int .i64 k) ∧ W.cell? ⟨g, 1, none⟩ = some (.string s) ∧ W.cell? ⟨g, 2, none⟩ = some (.bool b) ∧ W.cell? ⟨g, 3, none⟩ = some (.int .u64 x) ∧ W.cell? ⟨g, 4, none⟩ = some (.int .u64 y)) := fun W hW => by
  obtain ⟨k0, k1, k2, k3, k4, _⟩ := zkQ ((hW.block g hlt).trans hblk)
  exact ⟨k0, k1, k2, k3, k4⟩
 have HO : Hid (∀ W, Below z.heap.size z W → Calls Tryz.prog 20 #[h.val] W fun e w' => e = .returned (.agg #[.int .i64 k, .string s, .bool b, .int .u64 x, .int .u64 y]) ∧ Below z.heap.size z w') := fun W hW => (HOF.out W).mono (fun e w' q => ⟨q.1, zcM hW q.2⟩)
 have heq := eqRefH k s b x y
 clear HOF hform hblk hlt hh
 by_cases h0 : er = 0
 ·have hd : (er == (0 : Int)) = true := by rw [h0]; rfl
  generalize h.val = hv at *
  clear hno hin h0
  refine wp_region_held_drew (S := fun W => W.cell? ⟨g, 0, none⟩ = some (.int .i64 k) ∧ W.cell? ⟨g, 1, none⟩ = some (.string s) ∧ W.cell? ⟨g, 2, none⟩ = some (.bool b) ∧ W.cell? ⟨g, 3, none⟩ = some (.int .u64 x) ∧ W.cell? ⟨g, 4, none⟩ = some (.int .u64 y)) (by kernel_rfl) ?_ (fun hHeld => ?_)
  ·exact HK.out _ (zcJ _)
  refine tkQ 0 (some 22) (v := ?_) rfl (.inl ⟨by rfl, ?_⟩) hHeld ?_;rotate_left;· intro w hSw;(try dsimp only at hSw);go_simp;try with_reducible rfl
  try simp only [Act.put, tkQa, tkQb, tkQc]
  refine tkQ 2 (some 24) (v := ?_) rfl (.inl ⟨by rfl, ?_⟩) hHeld ?_;rotate_left;· intro w hSw;(try dsimp only at hSw);go_simp;try with_reducible rfl
  try simp only [Act.put, tkQa, tkQb, tkQc]
  refine wpAnyH_ready (rs := [1]) (by kernel_rfl) (by simp) ?_
  refine AllReadyH.cons (o := ⟨some 23, _, _, _, _, _⟩) rfl (fun K hK => ?_) AllReadyH.nil
  go_simp
  go_at_call 20
  refine (HO.out _ (zcJ _)).mono ?_
  rintro e x6 ⟨rfl, hb6⟩
  (try go_wp2_with fail)
  refine hK.out _ _ ?_ (fun hHeld1 => ?_)
  ·exact HK.out _ hb6
  clear hK K
  try simp only [Act.put, tkQa, tkQb, tkQc]
  refine tkQ 3 (some 25) (v := ?_) rfl (.inl ⟨by rfl, ?_⟩) hHeld1 ?_;rotate_left;· intro w hSw;(try dsimp only at hSw);go_simp;try with_reducible rfl
  try simp only [Act.put, tkQa, tkQb, tkQc]
  refine tkQ 4 (some 26) (v := ?_) rfl (.inl ⟨by rfl, ?_⟩) hHeld1 ?_;rotate_left;· intro w hSw;(try dsimp only at hSw);go_simp;try with_reducible rfl
  try simp only [Act.put, tkQa, tkQb, tkQc]
  refine tkQ 5 (some 27) (v := ?_) rfl (.inl ⟨by rfl, ?_⟩) hHeld1 ?_;rotate_left;· intro w hSw;(try dsimp only at hSw);go_simp;try with_reducible rfl
  try simp only [Act.put, tkQa, tkQb, tkQc]
  refine tkQ 6 (some 28) (v := ?_) rfl (.inl ⟨by rfl, ?_⟩) hHeld1 ?_;rotate_left;· intro w hSw;(try dsimp only at hSw);go_simp;try with_reducible rfl
  try simp only [Act.put, tkQa, tkQb, tkQc]
  refine tkQ 7 (some 29) (v := ?_) rfl (.inl ⟨by rfl, ?_⟩) hHeld1 ?_;rotate_left;· intro w hSw;(try dsimp only at hSw);go_simp;try with_reducible rfl
  try simp only [Act.put, tkQa, tkQb, tkQc]
  refine tkQ 8 (some 30) (v := ?_) rfl (.inl ⟨by rfl, ?_⟩) hHeld1 ?_;rotate_left;· intro w hSw;(try dsimp only at hSw);go_simp;try with_reducible rfl
  try simp only [Act.put, tkQa, tkQb, tkQc]
  refine tkQ 9 (some 31) (v := ?_) rfl (.inl ⟨by rfl, ?_⟩) hHeld1 ?_;rotate_left;· intro w hSw;(try dsimp only at hSw);go_simp;try with_reducible rfl
  try simp only [Act.put, tkQa, tkQb, tkQc]
  refine tkQ 10 (some 32) (v := ?_) rfl (.inl ⟨by rfl, ?_⟩) hHeld1 ?_;rotate_left;· intro w hSw;(try dsimp only at hSw);go_simp;try with_reducible rfl
  try simp only [Act.put, tkQa, tkQb, tkQc]
  refine tkQ 11 (some 33) (v := ?_) rfl (.inl ⟨by rfl, ?_⟩) hHeld1 ?_;rotate_left;· intro w hSw;(try dsimp only at hSw);go_simp;try with_reducible rfl
  try simp only [Act.put, tkQa, tkQb, tkQc]
  refine tkQ 12 (some 34) (v := ?_) rfl (.inl ⟨by rfl, ?_⟩) hHeld1 ?_;rotate_left;· intro w hSw;(try dsimp only at hSw);go_simp;try with_reducible rfl
  try simp only [Act.put, tkQa, tkQb, tkQc]
  refine tkQ 13 (some 35) (v := undef) rfl (.inr ⟨by rfl, rfl⟩) hHeld1 ?_
  try simp only [Act.put, tkQa, tkQb, tkQc]
  refine tkQ 14 (some 36) (v := undef) rfl (.inr ⟨by rfl, rfl⟩) hHeld1 ?_
  try simp only [Act.put, tkQa, tkQb, tkQc]
  refine tkQ 15 (some 37) (v := ?_) rfl (.inl ⟨by rfl, ?_⟩) hHeld1 ?_;rotate_left;· intro w hSw;(try dsimp only at hSw);go_simp;try with_reducible rfl
  try simp only [Act.put, tkQa, tkQb, tkQc]
  refine tkQ 16 (some 38) (v := ?_) rfl (.inl ⟨by rfl, ?_⟩) hHeld1 ?_;rotate_left;· intro w hSw;(try dsimp only at hSw);go_simp;try with_reducible rfl
  try simp only [Act.put, tkQa, tkQb, tkQc]
  refine tkQ 17 (some 2) (v := ?_) rfl (.inl ⟨by rfl, ?_⟩) hHeld1 ?_;rotate_left;· intro w hSw;(try dsimp only at hSw);go_simp;try with_reducible rfl
  try simp only [Act.put, tkQa, tkQb, tkQc]
  refine wpAnyH_done (by kernel_rfl) ?_ _
  go_wp2
  go_ret
  exact ⟨by first | rfl | exact zaS (by simp), zcM hc4 hb6⟩
 ·have hn := hno h0
  subst hn
  simp only [HZ.val] at HO ⊢
  have hd : (er == (0 : Int)) = false := beq_eq_false_iff_ne.2 h0
  clear hno hin h0
  go_region_held3 (fun W => W.cell? ⟨g, 0, none⟩ = some (.int .i64 k) ∧ W.cell? ⟨g, 1, none⟩ = some (.string s) ∧ W.cell? ⟨g, 2, none⟩ = some (.bool b) ∧ W.cell? ⟨g, 3, none⟩ = some (.int .u64 x) ∧ W.cell? ⟨g, 4, none⟩ = some (.int .u64 y)) (first | exact HK.out _ (zcJ _) | exact HK.out _ hb6) (first | (go_simp; go_at_call 20; ((with_reducible refine (HO.out _ (zcJ _)).mono ?_); rintro e x6 ⟨rfl, hb6⟩)))
  go_wp2
  go_ret
  exact ⟨by first | rfl | exact zaS (by simp), zcM hc4 hb6⟩
end

end Go.Proofs.YtphapecoimlngaaGreatDoor
