/-
  What the law HostTells leans on, and its walk (17 of 18).
-/
import Derived.Deep.RegionHeld3
import Derived.Test.YtphapecoimlngaaGreatDoorHostTellsPkD
import Derived.Test.YtphapecoimlngaaGreatDoorHostTellsPkP
import Derived.Test.YtphapecoimlngaaGreatDoorHostTellsPkG
namespace Go.Proofs.YtphapecoimlngaaGreatDoor
set_option maxRecDepth 100000
set_option maxHeartbeats 16000000
theorem tkQ {P : Program} {md : Region.Mode} {ops : Array Oper} {Q : Exit → Act → World → Prop} {S : World → Prop} (i : Nat) (s : Option Nat) {op : Op} {ty : TypeId} {pos : String} {af : _} {gd : _} {v : Value} {fuel : Nat} {listed : Array Bool} {a : Act} {w : World} (hi : ops[i]? = some ⟨s, op, ty, pos, af, gd⟩)
 (hy : YieldsIf P ops S ⟨s, op, ty, pos, af, gd⟩ v a) (hS : S w)
 (h : wpAnyH P md ops Q S fuel (listed.setIfInBounds i true) (a.put s v) w)
 (hs : Region.noSelect ops = true := by kernel_rfl) (hf : Region.free md ops listed i = true := by kernel_rfl) (hr : (Region.ready md ops listed).contains i = true := by kernel_rfl)
 (hQ : ∀ c a w, Q (.panic c) (a.put s v) w → Q (.panic c) a w := by exact fun _ _ _ h => h) : wpAnyH P md ops Q S (fuel + 1) listed a w :=
 wpAnyH_take hi hs hf hr hQ hy hS h
theorem tkQa {α : Type _} (l : List α) (i : Nat) (a : α) : l.toArray.setIfInBounds i a = (l.set i a).toArray := List.setIfInBounds_toArray ..
theorem tkQb {α : Type _} (x y : α) (l : List α) : (x :: l).set 0 y = y :: l := rfl
theorem tkQc {α : Type _} (x y : α) (l : List α) (n : Nat) : (x :: l).set (n + 1) y = x :: l.set n y := rfl
section
open Go.RowKit
theorem zvJ (w : World) (hbru : BruTab w) (hmax : MaxVar w) :
  Calls Tryz.prog 35 #[] w fun e w' => e = .returned (.bool true) ∧ Below w.heap.size w w' := by
 go_enter Tryz.func35, Tryz.ntmps35
 go_wp2_with fail
 refine (zsQ _ hbru hmax).mono ?_
 rintro e w' ⟨rfl, hb⟩
 go_wp2
 go_ret
 exact ⟨rfl, hb⟩
theorem ex11_a : zbS [69, 88, 65, 77, 80, 76, 69, 46, 99, 111, 109, 46] = ([101, 120, 97, 109, 112, 108, 101, 46, 99, 111, 109, 46], 0) := by decide +kernel
theorem ex11_b : zbS [97, 46, 46, 98] = ([], 6) := by decide +kernel
theorem ex11_c : zbS [88, 78, 45, 45, 97, 46, 98] = ([], 7) := by decide +kernel
theorem zsN (w : World) (hbru : BruTab w) (hmax : MaxVar w) :
  Calls Tryz.prog 10 #[] w fun e w' => e = .returned (.bool true) ∧ Below w.heap.size w w' := by
 have HT := Lib.hid hbru
 have HX := Lib.hid hmax
 clear hbru hmax
 go_enter Tryz.func10, Tryz.ntmps10
 go_wp2_with fail
 refine (zhH ⟨#[69, 88, 65, 77, 80, 76, 69, 46, 99, 111, 109, 46]⟩ _ (by decide)).mono ?_
 rw [ex11_a]
 rintro e w1 ⟨rfl, hb1⟩
 go_wp2_with fail
 refine (zhH ⟨#[97, 46, 46, 98]⟩ _ (by decide)).mono ?_
 rw [ex11_b]
 rintro e w2 ⟨rfl, hb2⟩
 have hc2 := zaA hb1 hb2
 clear hb1 hb2
 go_wp2_with fail
 refine (zhH ⟨#[88, 78, 45, 45, 97, 46, 98]⟩ _ (by decide)).mono ?_
 rw [ex11_c]
 rintro e w3 ⟨rfl, hb3⟩
 have hc3 := zaA hc2 hb3
 clear hc2 hb3
 go_wp2_with fail
 refine (zvJ _ (zaY HT.out hc3) (zaB HX.out hc3)).mono ?_
 rintro e w4 ⟨rfl, hb4⟩
 have hc4 := zaA hc3 hb4
 clear hc3 hb4
 go_wp2
 go_ret
 exact ⟨rfl, hc4⟩
theorem zvI (w : World) (hbru : BruTab w) (hmax : MaxVar w) :
  Calls Tryz.prog 50 #[] w fun e w' => e = .returned (.bool true) ∧ Below w.heap.size w w' := by
 go_enter Tryz.func50, Tryz.ntmps50
 go_wp2_with fail
 refine (zsN _ hbru hmax).mono ?_
 rintro e w' ⟨rfl, hb⟩
 go_wp2
 go_ret
 exact ⟨rfl, hb⟩
end

section
open Go.RowKit
theorem ziW (x y : HZ) (h : x ≠ .none) : ∀ (p q : Operand) (W : World), (eqGuard .eql 37 p q x.val y.val).run Tryz.prog W = .ok () W := by
 intro p q W
 match x, y, h with
 | .name _, .none, _ => rfl
 | .name _, .name _, _ => rfl
 | .name _, .addr (.four _), _ => rfl
 | .name _, .addr (.six _ _), _ => rfl
 | .addr (.four _), .none, _ => rfl
 | .addr (.four _), .name _, _ => rfl
 | .addr (.four _), .addr (.four _), _ => rfl
 | .addr (.four _), .addr (.six _ _), _ => rfl
 | .addr (.six _ _), .none, _ => rfl
 | .addr (.six _ _), .name _, _ => rfl
 | .addr (.six _ _), .addr (.four _), _ => rfl
 | .addr (.six _ _), .addr (.six _ _), _ => rfl
theorem sameN (s : ByteArray) (W : World) : (Op.equal 37 (.iface 23 (.string s)) (.iface 23 (.string s))).run Tryz.prog W = .ok (s == s) W := by kernel_rfl
theorem same4 (n : Int) (W : World) : (Op.equal 37 (.iface 70 (.int .u32 n)) (.iface 70 (.int .u32 n))).run Tryz.prog W = .ok (n == n) W := by kernel_rfl
theorem same6' (u v : Value) (W : World) : (Op.equal 37 (.iface 73 u) (.iface 73 v)).run Tryz.prog W = (Op.equalIn 9999 73 u v).run Tryz.prog W := by kernel_rfl
theorem same6 (h l : Int) (W : World) : (Op.equal 37 (.iface 73 (.agg #[.int .u64 h, .int .u64 l])) (.iface 73 (.agg #[.int .u64 h, .int .u64 l]))).run Tryz.prog W = .ok true W := by
 rw [same6', run_equalIn_struct W 9998 73 _ _ (by kernel_rfl) (by kernel_rfl)]
 simp [Program.fieldsOf, Tryz.underlying73, Op.eqFields, go_sem, part, Tryz.sizeOf40, Tryz.isAgg40, Tryz.underlying40]
/-- a host is the same as itself -/
theorem zfB (x : HZ) (h : x ≠ .none) : ∀ W : World, (binOp .eql 37 x.val x.val).run Tryz.prog W = .ok (.bool true) W := by
 intro W
 match x, h with
 | .name l, _ =>
  show ((Op.equal _ _ _ >>= fun b => pure (Value.bool b)) : Sem Value).run _ _ = _
  rw [Sem.run_bind, HZ.val, sameN, show ((ByteArray.mk l.toArray) == (ByteArray.mk l.toArray)) = true by show (l.toArray == l.toArray) = true; simp]
  rfl
 | .addr (.four n), _ =>
  show ((Op.equal _ _ _ >>= fun b => pure (Value.bool b)) : Sem Value).run _ _ = _
  rw [Sem.run_bind, HZ.val, AZ.val, same4]
  simp
 | .addr (.six hi lo), _ =>
  show ((Op.equal _ _ _ >>= fun b => pure (Value.bool b)) : Sem Value).run _ _ = _
  rw [Sem.run_bind, HZ.val, AZ.val, same6]
  rfl
theorem ex12_a : ziO [48, 88, 55, 70, 46, 49] = (.addr (.four 2130706433), 0) := by
 have h : ziO [48, 88, 55, 70, 46, 49] = ziA (zbS (decB [48, 88, 55, 70, 46, 49])) := rfl
 rw [h, show zbS (decB [48, 88, 55, 70, 46, 49]) = ([48, 120, 55, 102, 46, 49], 0) by decide +kernel, zpY (b := true) (x := 2130706433) (by decide +kernel) (by decide +kernel)]
 rfl
theorem ex12_b : ziO [37, 51, 49, 37, 51, 50, 37, 51, 55, 46, 48, 46, 48, 46, 49] = (.addr (.four 2130706433), 0) := by
 have h : ziO [37, 51, 49, 37, 51, 50, 37, 51, 55, 46, 48, 46, 48, 46, 49] = ziA (zbS (decB [37, 51, 49, 37, 51, 50, 37, 51, 55, 46, 48, 46, 48, 46, 49])) := rfl
 rw [h, show zbS (decB [37, 51, 49, 37, 51, 50, 37, 51, 55, 46, 48, 46, 48, 46, 49]) = ([49, 50, 55, 46, 48, 46, 48, 46, 49], 0) by decide +kernel, zpY (b := true) (x := 2130706433) (by decide +kernel) (by decide +kernel)]
 rfl
theorem ex12_c : ziO [91, 58, 58, 49, 93] = (.addr (.six 0 1), 0) := by
 have h : ziO [91, 58, 58, 49, 93] = zkD [58, 58, 49, 93] := rfl
 rw [h, ztZ (hi := 0) (lo := 1) (by decide) (by decide +kernel)]
theorem ex12_d : ziO [49, 46, 50, 46, 51, 46, 52, 46, 53] = (.none, 6) := by
 have h : ziO [49, 46, 50, 46, 51, 46, 52, 46, 53] = ziA (zbS (decB [49, 46, 50, 46, 51, 46, 52, 46, 53])) := rfl
 rw [h, show zbS (decB [49, 46, 50, 46, 51, 46, 52, 46, 53]) = ([49, 46, 50, 46, 51, 46, 52, 46, 53], 0) by decide +kernel, zpY (b := false) (x := 0) (by decide +kernel) (by decide +kernel)]
 rfl
theorem zfP (w : World) (hbru : BruTab w) (hmax : MaxVar w) :
  Calls Tryz.prog 17 #[] w fun e w' => e = .returned (.bool true) ∧ Below w.heap.size w w' := by
 have HT := Lib.hid hbru
 have HX := Lib.hid hmax
 clear hbru hmax
 have HO : Hid (∀ W, Calls Tryz.prog 51 #[.int .u8 127, .int .u8 0, .int .u8 0, .int .u8 1] W fun e w' => e = .returned (.int .u32 2130706433) ∧ W = w') := fun W => zmD 127 0 0 1 W (by decide) (by decide) (by decide) (by decide)
 have hg4 := ziW (.addr (.four 2130706433)) (.addr (.four 2130706433)) (by simp)
 have hg6 := ziW (.addr (.six 0 1)) (.addr (.six 0 1)) (by simp)
 have he4 := zfB (.addr (.four 2130706433)) (by simp)
 have he6 := zfB (.addr (.six 0 1)) (by simp)
 simp only [HZ.val, AZ.val] at hg4 hg6 he4 he6
 go_enter Tryz.func17, Tryz.ntmps17
 go_wp2_with fail
 refine (zcW ⟨#[48, 88, 55, 70, 46, 49]⟩ _ (by decide) HX.out).mono ?_
 rw [ex12_a]
 rintro e w1 ⟨rfl, hb1⟩
 simp only [HZ.val, AZ.val]
 go_wp2_with fail
 refine (zcW ⟨#[37, 51, 49, 37, 51, 50, 37, 51, 55, 46, 48, 46, 48, 46, 49]⟩ _ (by decide) (zaB HX.out hb1)).mono ?_
 rw [ex12_b]
 rintro e w2 ⟨rfl, hb2⟩
 simp only [HZ.val, AZ.val]
 have hc2 := zaN hb1 hb2
 clear hb1 hb2
 go_wp2_with fail
 refine (zcW ⟨#[91, 58, 58, 49, 93]⟩ _ (by decide) (zaB HX.out hc2)).mono ?_
 rw [ex12_c]
 rintro e w3 ⟨rfl, hb3⟩
 simp only [HZ.val, AZ.val]
 have hc3 := zaN hc2 hb3
 clear hc2 hb3
 go_wp2_with fail
 refine (zcW ⟨#[49, 46, 50, 46, 51, 46, 52, 46, 53]⟩ _ (by decide) (zaB HX.out hc3)).mono ?_
 rw [ex12_d]
 rintro e w4 ⟨rfl, hb4⟩
 simp only [HZ.val]
 have hc4 := zaN hc3 hb4
 clear hc3 hb4
 go_wp2_with fail
 refine (zvI _ (zaY HT.out hc4) (zaB HX.out hc4)).mono ?_
 rintro e w5 ⟨rfl, hb5⟩
 have hc5 := zaN hc4 hb5
 clear hc4 hb5
 go_wp2_with (go_at_call 51; refine (HO.out _).mono ?_; rintro e w' ⟨rfl, rfl⟩)
 go_ret
 exact ⟨rfl, hc5⟩
end

section
open Go.RowKit
theorem zlY (h : HZ) : ∃ k s b x y, refH h = #[.int .i64 k, .string s, .bool b, .int .u64 x, .int .u64 y] := by
 cases h <;> exact ⟨_, _, _, _, _, rfl⟩
theorem znN (h : HZ) {k : Int} {s : ByteArray} {b : Bool} {x y : Int} (hf : refH h = #[.int .i64 k, .string s, .bool b, .int .u64 x, .int .u64 y]) : k = if h.isN = true then 1 else if h.ad.isSome = true then 2 else 0 := by
 cases h <;> · injection hf with hf; injection hf with hf; injection hf with _ hf; exact hf.symm
theorem znQ {h : HZ} (hi : h.In) (hs : h.small) : (zcZ h).length ≤ 1073741824 := by
 match h, hi, hs with
 | .none, _, _ => exact Nat.zero_le _
 | .name l, _, hs => exact hs
 | .addr a, ha, _ => exact z0O (h := .addr a) ha
theorem zhR (h : HZ) (w : World) : Calls Tryz.prog 31 #[h.val] w (zcN w (!h.isN)) := by
 match h with
 | .none => exact zhF _ (Lib.hid zwZ) w
 | .name l => exact zwE l w
 | .addr (.four n) => exact zhF _ (Lib.hid (zuS _)) w
 | .addr (.six hi lo) => exact zhF _ (Lib.hid (zzG _)) w
theorem z8Q (h : HZ) (w : World) (hi : h.In) (ha : h.ad.isSome = true) {k : Int} {s : ByteArray} {b : Bool} {x y : Int} (hf : refH h = #[.int .i64 k, .string s, .bool b, .int .u64 x, .int .u64 y]) :
  Calls Tryz.prog 30 #[optV h.ad] w fun e w' => e = .returned (.agg #[.bool b, .int .u64 x, .int .u64 y]) ∧ Below w.heap.size w w' := by
 match h, hi, ha with
 | .addr a, hi, _ =>
  have := ztM (some a) w (fun c e => by rw [← Option.some.inj e]; exact hi)
  have e : refV (refA (some a)) = .agg #[.bool b, .int .u64 x, .int .u64 y] := by
   injection hf with hf
   injection hf with _ hf
   injection hf with _ hf
   unfold refV
   congr 2
  rw [e] at this
  exact this
theorem z3Z {h : HZ} (ha : h.ad.isSome = false) : optV h.ad = .nilIface := by
 cases h with
 | addr a => cases ha
 | none => rfl
 | name l => rfl
theorem z7Y {h : HZ} {l : List UInt8} (hn : h.isN = true) (hm : h.nm = l) : h.val = .iface 23 (.string ⟨l.toArray⟩) := by
 match h, hn with
 | .name m, _ => rw [← hm]; rfl
theorem neqB (b : Bool) : ∀ W : World, (binOp .neq 4 (.bool b) (.bool b)).run Tryz.prog W = .ok (.bool false) W := fun W => by
 show ((Op.equal _ _ _ >>= fun b => pure (Value.bool (!b))) : Sem Value).run _ _ = _
 rw [Sem.run_bind, show (Op.equal 4 (.bool b) (.bool b)).run Tryz.prog W = .ok (b == b) W by kernel_rfl, beq_self_eq_true]
 rfl
theorem neqA (b : Bool) (x y : Int) : ∀ W : World, (binOp .neq 42 (.agg #[.bool b, .int .u64 x, .int .u64 y]) (.agg #[.bool b, .int .u64 x, .int .u64 y])).run Tryz.prog W = .ok (.bool false) W := fun W => by
 show ((Op.equal _ _ _ >>= fun b => pure (Value.bool (!b))) : Sem Value).run _ _ = _
 rw [Sem.run_bind, show (Op.equal 42 (.agg #[.bool b, .int .u64 x, .int .u64 y]) (.agg #[.bool b, .int .u64 x, .int .u64 y])).run Tryz.prog W = .ok true W from ?_]
 ·rfl
 ·rw [show (Op.equal 42 (.agg #[.bool b, .int .u64 x, .int .u64 y]) (.agg #[.bool b, .int .u64 x, .int .u64 y])).run Tryz.prog W = (Op.equalIn 10000 42 (.agg #[.bool b, .int .u64 x, .int .u64 y]) (.agg #[.bool b, .int .u64 x, .int .u64 y])).run Tryz.prog W from rfl, run_equalIn_struct W 9999 42 _ _ (by kernel_rfl) (by kernel_rfl)]
  simp [Program.fieldsOf, Tryz.underlying42, Op.eqFields, go_sem, part, Tryz.sizeOf40, Tryz.isAgg40, Tryz.underlying40]
/-- what HostTells asks, of name -/
theorem zsT (a0 a2 a3 : Int) (l : List UInt8) (h : HZ) (w : World) (hl : l.length ≤ 500) (hin : h.In) (hsm : h.small) (hnm : h.isN = true) (had : h.ad.isSome = false) (hnn : h.isN = true → h.nm = l) (hpow : PowTab w) (hbru : BruTab w) (hmax : MaxVar w)
  (HMK : Hid (∀ W, Calls Tryz.prog 21 #[.int .u8 a0, .string ⟨l.toArray⟩, .int .u64 a2, .int .u64 a3] W fun e w' => e = .returned h.val ∧ W = w')) :
  Calls Tryz.prog 7 #[.int .u8 a0, .string ⟨l.toArray⟩, .int .u64 a2, .int .u64 a3] w fun e w' => e = .returned (.bool true) ∧ Below w.heap.size w w' := by
 have HP := Lib.hid hpow
 have HT := Lib.hid hbru
 have HX := Lib.hid hmax
 clear hpow hbru hmax
 obtain ⟨kk, s, b, x, y, hform⟩ := zlY h
 have hkk := znN h hform
 rw [hnm, had] at hkk
 have HKK := Lib.hid hkk
 clear hkk
 have HAD := Lib.hid (fun W => zeK h W)
 have HNM := Lib.hid (fun W => zdR h W)
 rw [had] at HAD
 rw [hnm] at HNM
 have HOF := Lib.hid (fun W => ziK h W hin)
 rw [hform] at HOF
 have hd0 : decide (500 < (l.length : Int)) = false := decide_eq_false (by omega)
 go_enter Tryz.func7, Tryz.ntmps7
 go_wp2_with fail
 refine (zfP _ HT.out HX.out).mono ?_
 rintro e w1 ⟨rfl, hb1⟩
 go_wp2_with fail
 refine (HMK.out _).mono ?_
 rintro e w' ⟨rfl, rfl⟩
 go_wp2_with fail
 refine (HOF.out _).mono ?_
 rintro e w2 ⟨rfl, hb2⟩
 have hc2 := zaN hb1 hb2
 have hal : Below w2.heap.size w2 (w2.alloc (.cells #[.int .i64 kk, .string s, .bool b, .int .u64 x, .int .u64 y] 44)) := (Below.refl _ _).alloc (Nat.le_refl _) _
 have hc3 := zaN hc2 hal
 have hblk := heap_alloc_new w2 (.cells #[.int .i64 kk, .string s, .bool b, .int .u64 x, .int .u64 y] 44)
 have hlt : w2.heap.size < (w2.alloc (.cells #[.int .i64 kk, .string s, .bool b, .int .u64 x, .int .u64 y] 44)).heap.size := by simp
 clear hb1 hb2 hal hc2 HMK HOF
 go_wp2_with fail
 generalize w2.alloc (.cells #[.int .i64 kk, .string s, .bool b, .int .u64 x, .int .u64 y] 44) = z0 at *
 generalize w2.heap.size = g at *
 refine (HAD.out _).mono ?_
 rintro e z ⟨rfl, hbz⟩
 have hc4 := zaN hc3 hbz
 have hblk2 := (hbz.block g hlt).trans hblk
 have hlt2 : g < z.heap.size := Nat.lt_of_lt_of_le hlt hbz.size
 clear hbz hc3 hblk hlt HAD
 go_wp2_with fail
 refine (HNM.out _).mono ?_
 rintro e w' ⟨rfl, rfl⟩
 clear HNM
 have hwl := znQ hin hsm
 have HK : Hid (∀ W, Below z.heap.size z W → W.cell? ⟨g, 0, none⟩ = some (.int .i64 kk) ∧ W.cell? ⟨g, 1, none⟩ = some (.string s) ∧ W.cell? ⟨g, 2, none⟩ = some (.bool b) ∧ W.cell? ⟨g, 3, none⟩ = some (.int .u64 x) ∧ W.cell? ⟨g, 4, none⟩ = some (.int .u64 y)) := fun W hW => by
  obtain ⟨k0, k1, k2, k3, k4, _⟩ := zsH ((hW.block g hlt2).trans hblk2)
  exact ⟨k0, k1, k2, k3, k4⟩
 have HWr : Hid (∀ W, Below z.heap.size z W → Calls Tryz.prog 24 #[h.val] W fun e w' => e = .returned (.string ⟨(zcZ h).toArray⟩) ∧ Below z.heap.size z w') := fun W hW => (zgQ h W hin (zbF HP.out (zaN hc4 hW)) (zaY HT.out (zaN hc4 hW))).mono fun e w' q => ⟨q.1, zaN hW q.2⟩
 have HRw : Hid (∀ W, Below z.heap.size z W → Calls Tryz.prog 25 #[.agg #[.int .i64 kk, .string s, .bool b, .int .u64 x, .int .u64 y]] W fun e w' => e = .returned (.string ⟨(zcZ h).toArray⟩) ∧ Below z.heap.size z w') := fun W hW => by
  have := zfX h W hin (zbF HP.out (zaN hc4 hW))
  rw [hform] at this
  exact this.mono fun e w' q => ⟨q.1, zaN hW q.2⟩
 have HKi : Hid (∀ W, Below z.heap.size z W → Calls Tryz.prog 26 #[h.val] W fun e w' => e = .returned (.string ⟨(znB h).toArray⟩) ∧ Below z.heap.size z w') := fun W hW => (zhK h W).mono fun e w' q => ⟨q.1, by rw [← q.2]; exact hW⟩
 have HRk : Hid (∀ W, Below z.heap.size z W → Calls Tryz.prog 27 #[.agg #[.int .i64 kk, .string s, .bool b, .int .u64 x, .int .u64 y]] W fun e w' => e = .returned (.string ⟨(znB h).toArray⟩) ∧ Below z.heap.size z w') := fun W hW => by
  have := zgW h W
  rw [hform] at this
  exact this.mono fun e w' q => ⟨q.1, zaN hW q.2⟩
 have HRi : Hid (∀ W, Below z.heap.size z W → Calls Tryz.prog 28 #[h.val] W fun e w' => e = .returned (.bool (zcT h)) ∧ Below z.heap.size z w') := fun W hW => (zgS h W hsm).mono fun e w' q => ⟨q.1, zaN hW q.2⟩
 have HRr : Hid (∀ W, Below z.heap.size z W → Calls Tryz.prog 29 #[.agg #[.int .i64 kk, .string s, .bool b, .int .u64 x, .int .u64 y]] W fun e w' => e = .returned (.bool (zcT h)) ∧ Below z.heap.size z w') := fun W hW => by
  have := zfY h W hsm
  rw [hform] at this
  exact this.mono fun e w' q => ⟨q.1, zaN hW q.2⟩
 have HTx : Hid (∀ W, Below z.heap.size z W → Calls Tryz.prog 14 #[.string ⟨h.nm.toArray⟩] W fun e w' => e = .returned (.string ⟨h.nm.toArray⟩) ∧ Below z.heap.size z w') := fun W hW => (zcF _ W).mono fun e w' q => ⟨q.1, by rw [← q.2]; exact hW⟩
 have HPN : Hid (∀ W, Calls Tryz.prog 31 #[h.val] W (zcN W (!true))) := fun W => by
  rw [← hnm]; exact zhR h W
 have HBK : Hid (∀ W, MaxVar W → Calls Tryz.prog 18 #[.string ⟨(zcZ h).toArray⟩] W fun e w' => ∃ hb eb, e = .returned (.tuple #[hb, .int .i64 eb]) ∧ (zcT h = true → hb = h.val ∧ eb = 0) ∧ Below W.heap.size W w') := fun W m => by
  have := zcW ⟨(zcZ h).toArray⟩ W (by rw [zaD]; omega) m
  rw [zaG] at this
  refine this.mono fun e w' q => ⟨_, _, q.1, fun hr => ?_, q.2⟩
  rw [znS (zgG hr (fun a e => by rw [e] at hin; exact hin))]
  exact ⟨rfl, rfl⟩
 have HSM : Hid (zcT h = true → (∀ (p q : Operand) (W : World), (eqGuard .eql 37 p q h.val h.val).run Tryz.prog W = .ok () W) ∧ (∀ W : World, (binOp .eql 37 h.val h.val).run Tryz.prog W = .ok (.bool true) W) ∧ ∃ t v, h.val = .iface t v) := fun hr => by
  have hne := (zgG hr (fun a e => by rw [e] at hin; exact hin)).ne
  exact ⟨ziW h h hne, zfB h hne, HZ.iface hne⟩
 have e2 : (kk == (2 : Int)) = false := by rw [HKK.out]; rfl
 have e1 : (kk == (1 : Int)) = true := by rw [HKK.out]; rfl
 have s3 := neqB (zcT h)
 rw [hnn hnm] at HTx ⊢
 have s5 : (l == l) = true := by simp
 have hvn : h.val = .iface 23 (.string ⟨l.toArray⟩) := z7Y hnm (hnn hnm)
 rw [z3Z had]
 clear hblk2 hlt2 hform hin hsm hnn hwl
 generalize zcZ h = tx at *
 generalize znB h = kx at *
 generalize zcT h = rb at *
 generalize h.val = hv at *
 subst hvn
 have s1 : (tx == tx) = true := by simp
 have s2 : (kx == kx) = true := by simp
 go_wp2_with fail
 refine wp_region_held_drew (S := fun W => W.cell? ⟨g, 0, none⟩ = some (.int .i64 kk) ∧ W.cell? ⟨g, 1, none⟩ = some (.string s) ∧ W.cell? ⟨g, 2, none⟩ = some (.bool b) ∧ W.cell? ⟨g, 3, none⟩ = some (.int .u64 x) ∧ W.cell? ⟨g, 4, none⟩ = some (.int .u64 y)) (by kernel_rfl) ?_ (fun hHeld => ?_)
 ·exact HK.out _ (zbW _)
 refine tkQ 0 (some 39) (v := ?_) rfl (.inl ⟨by rfl, ?_⟩) hHeld ?_;rotate_left;· intro w hSw;(try dsimp only at hSw);go_simp;try with_reducible rfl
 try simp only [Act.put, tkQa, tkQb, tkQc]
 refine tkQ 2 (some 41) (v := ?_) rfl (.inl ⟨by rfl, ?_⟩) hHeld ?_;rotate_left;· intro w hSw;(try dsimp only at hSw);go_simp;try with_reducible rfl
 try simp only [Act.put, tkQa, tkQb, tkQc]
 refine wpAnyH_ready (rs := [1]) (by kernel_rfl) (by simp) ?_
 refine AllReadyH.cons (o := ⟨some 40, _, _, _, _, _⟩) rfl (fun K hK => ?_) AllReadyH.nil
 go_simp
 go_at_call 24
 refine (HWr.out _ (zbW _)).mono ?_
 rintro e y1 ⟨rfl, hy1⟩
 (try go_wp2_with fail)
 refine hK.out _ _ ?_ (fun hHeld1 => ?_)
 ·exact HK.out _ hy1
 clear hK K
 try simp only [Act.put, tkQa, tkQb, tkQc]
 refine wpAnyH_ready (rs := [3]) (by kernel_rfl) (by simp) ?_
 refine AllReadyH.cons (o := ⟨some 42, _, _, _, _, _⟩) rfl (fun K hK => ?_) AllReadyH.nil
 go_simp
 go_at_call 25
 refine (HRw.out _ (hy1)).mono ?_
 rintro e y2 ⟨rfl, hy2⟩
 (try go_wp2_with fail)
 refine hK.out _ _ ?_ (fun hHeld2 => ?_)
 ·exact HK.out _ hy2
 clear hK K
 try simp only [Act.put, tkQa, tkQb, tkQc]
 refine tkQ 4 (some 43) (v := ?_) rfl (.inl ⟨by rfl, ?_⟩) hHeld2 ?_;rotate_left;· intro w hSw;(try dsimp only at hSw);go_simp;try with_reducible rfl
 try simp only [Act.put, tkQa, tkQb, tkQc]
 refine tkQ 5 (some 44) (v := ?_) rfl (.inl ⟨by rfl, ?_⟩) hHeld2 ?_;rotate_left;· intro w hSw;(try dsimp only at hSw);go_simp;try with_reducible rfl
 try simp only [Act.put, tkQa, tkQb, tkQc]
 refine tkQ 6 (some 45) (v := ?_) rfl (.inl ⟨by rfl, ?_⟩) hHeld2 ?_;rotate_left;· intro w hSw;(try dsimp only at hSw);go_simp;try with_reducible rfl
 try simp only [Act.put, tkQa, tkQb, tkQc]
 refine tkQ 8 (some 47) (v := ?_) rfl (.inl ⟨by rfl, ?_⟩) hHeld2 ?_;rotate_left;· intro w hSw;(try dsimp only at hSw);go_simp;try with_reducible rfl
 try simp only [Act.put, tkQa, tkQb, tkQc]
 refine wpAnyH_ready (rs := [7]) (by kernel_rfl) (by simp) ?_
 refine AllReadyH.cons (o := ⟨some 46, _, _, _, _, _⟩) rfl (fun K hK => ?_) AllReadyH.nil
 go_simp
 go_at_call 26
 refine (HKi.out _ (hy2)).mono ?_
 rintro e y3 ⟨rfl, hy3⟩
 (try go_wp2_with fail)
 refine hK.out _ _ ?_ (fun hHeld3 => ?_)
 ·exact HK.out _ hy3
 clear hK K
 try simp only [Act.put, tkQa, tkQb, tkQc]
 refine wpAnyH_ready (rs := [9]) (by kernel_rfl) (by simp) ?_
 refine AllReadyH.cons (o := ⟨some 48, _, _, _, _, _⟩) rfl (fun K hK => ?_) AllReadyH.nil
 go_simp
 go_at_call 27
 refine (HRk.out _ (hy3)).mono ?_
 rintro e y4 ⟨rfl, hy4⟩
 (try go_wp2_with fail)
 refine hK.out _ _ ?_ (fun hHeld4 => ?_)
 ·exact HK.out _ hy4
 clear hK K
 try simp only [Act.put, tkQa, tkQb, tkQc]
 refine tkQ 10 (some 49) (v := ?_) rfl (.inl ⟨by rfl, ?_⟩) hHeld4 ?_;rotate_left;· intro w hSw;(try dsimp only at hSw);go_simp;try with_reducible rfl
 try simp only [Act.put, tkQa, tkQb, tkQc]
 refine tkQ 11 (some 50) (v := ?_) rfl (.inl ⟨by rfl, ?_⟩) hHeld4 ?_;rotate_left;· intro w hSw;(try dsimp only at hSw);go_simp;try with_reducible rfl
 try simp only [Act.put, tkQa, tkQb, tkQc]
 refine tkQ 12 (some 51) (v := ?_) rfl (.inl ⟨by rfl, ?_⟩) hHeld4 ?_;rotate_left;· intro w hSw;(try dsimp only at hSw);go_simp;try with_reducible rfl
 try simp only [Act.put, tkQa, tkQb, tkQc]
 refine tkQ 13 (some 52) (v := ?_) rfl (.inl ⟨by rfl, ?_⟩) hHeld4 ?_;rotate_left;· intro w hSw;(try dsimp only at hSw);go_simp;try with_reducible rfl
 try simp only [Act.put, tkQa, tkQb, tkQc]
 refine tkQ 15 (some 54) (v := ?_) rfl (.inl ⟨by rfl, ?_⟩) hHeld4 ?_;rotate_left;· intro w hSw;(try dsimp only at hSw);go_simp;try with_reducible rfl
 try simp only [Act.put, tkQa, tkQb, tkQc]
 refine wpAnyH_ready (rs := [14]) (by kernel_rfl) (by simp) ?_
 refine AllReadyH.cons (o := ⟨some 53, _, _, _, _, _⟩) rfl (fun K hK => ?_) AllReadyH.nil
 go_simp
 go_at_call 28
 refine (HRi.out _ (hy4)).mono ?_
 rintro e y5 ⟨rfl, hy5⟩
 (try go_wp2_with fail)
 refine hK.out _ _ ?_ (fun hHeld5 => ?_)
 ·exact HK.out _ hy5
 clear hK K
 try simp only [Act.put, tkQa, tkQb, tkQc]
 refine wpAnyH_ready (rs := [16]) (by kernel_rfl) (by simp) ?_
 refine AllReadyH.cons (o := ⟨some 55, _, _, _, _, _⟩) rfl (fun K hK => ?_) AllReadyH.nil
 go_simp
 go_at_call 29
 refine (HRr.out _ (hy5)).mono ?_
 rintro e y6 ⟨rfl, hy6⟩
 (try go_wp2_with fail)
 refine hK.out _ _ ?_ (fun hHeld6 => ?_)
 ·exact HK.out _ hy6
 clear hK K
 try simp only [Act.put, tkQa, tkQb, tkQc]
 refine tkQ 17 (some 56) (v := ?_) rfl (.inl ⟨by rfl, ?_⟩) hHeld6 ?_;rotate_left;· intro w hSw;(try dsimp only at hSw);go_simp;try with_reducible rfl
 try simp only [Act.put, tkQa, tkQb, tkQc]
 refine tkQ 18 (some 57) (v := ?_) rfl (.inl ⟨by rfl, ?_⟩) hHeld6 ?_;rotate_left;· intro w hSw;(try dsimp only at hSw);go_simp;try with_reducible rfl
 try simp only [Act.put, tkQa, tkQb, tkQc]
 refine tkQ 19 (some 58) (v := ?_) rfl (.inl ⟨by rfl, ?_⟩) hHeld6 ?_;rotate_left;· intro w hSw;(try dsimp only at hSw);go_simp;try with_reducible rfl
 try simp only [Act.put, tkQa, tkQb, tkQc]
 refine tkQ 20 (some 59) (v := ?_) rfl (.inl ⟨by rfl, ?_⟩) hHeld6 ?_;rotate_left;· intro w hSw;(try dsimp only at hSw);go_simp;try with_reducible rfl
 try simp only [Act.put, tkQa, tkQb, tkQc]
 refine tkQ 21 (some 60) (v := ?_) rfl (.inl ⟨by rfl, ?_⟩) hHeld6 ?_;rotate_left;· intro w hSw;(try dsimp only at hSw);go_simp;try with_reducible rfl
 try simp only [Act.put, tkQa, tkQb, tkQc]
 refine tkQ 22 (some 61) (v := ?_) rfl (.inl ⟨by rfl, ?_⟩) hHeld6 ?_;rotate_left;· intro w hSw;(try dsimp only at hSw);go_simp;try with_reducible rfl
 try simp only [Act.put, tkQa, tkQb, tkQc]
 refine tkQ 23 (some 62) (v := ?_) rfl (.inl ⟨by rfl, ?_⟩) hHeld6 ?_;rotate_left;· intro w hSw;(try dsimp only at hSw);go_simp;try with_reducible rfl
 try simp only [Act.put, tkQa, tkQb, tkQc]
 refine tkQ 24 (some 63) (v := ?_) rfl (.inl ⟨by rfl, ?_⟩) hHeld6 ?_;rotate_left;· intro w hSw;(try dsimp only at hSw);go_simp;try with_reducible rfl
 try simp only [Act.put, tkQa, tkQb, tkQc]
 refine tkQ 25 (some 64) (v := ?_) rfl (.inl ⟨by rfl, ?_⟩) hHeld6 ?_;rotate_left;· intro w hSw;(try dsimp only at hSw);go_simp;try with_reducible rfl
 try simp only [Act.put, tkQa, tkQb, tkQc]
 refine tkQ 26 (some 65) (v := ?_) rfl (.inl ⟨by rfl, ?_⟩) hHeld6 ?_;rotate_left;· intro w hSw;(try dsimp only at hSw);go_simp;try with_reducible rfl
 try simp only [Act.put, tkQa, tkQb, tkQc]
 refine tkQ 27 (some 66) (v := ?_) rfl (.inl ⟨by rfl, ?_⟩) hHeld6 ?_;rotate_left;· intro w hSw;(try dsimp only at hSw);go_simp;try with_reducible rfl
 try simp only [Act.put, tkQa, tkQb, tkQc]
 refine tkQ 28 (some 67) (v := ?_) rfl (.inl ⟨by rfl, ?_⟩) hHeld6 ?_;rotate_left;· intro w hSw;(try dsimp only at hSw);go_simp;try with_reducible rfl
 try simp only [Act.put, tkQa, tkQb, tkQc]
 refine tkQ 29 (some 68) (v := ?_) rfl (.inl ⟨by rfl, ?_⟩) hHeld6 ?_;rotate_left;· intro w hSw;(try dsimp only at hSw);go_simp;try with_reducible rfl
 try simp only [Act.put, tkQa, tkQb, tkQc]
 refine tkQ 30 (some 69) (v := ?_) rfl (.inl ⟨by rfl, ?_⟩) hHeld6 ?_;rotate_left;· intro w hSw;(try dsimp only at hSw);go_simp;try with_reducible rfl
 try simp only [Act.put, tkQa, tkQb, tkQc]
 refine tkQ 31 (some 70) (v := ?_) rfl (.inl ⟨by rfl, ?_⟩) hHeld6 ?_;rotate_left;· intro w hSw;(try dsimp only at hSw);go_simp;try with_reducible rfl
 try simp only [Act.put, tkQa, tkQb, tkQc]
 refine tkQ 32 (some 71) (v := ?_) rfl (.inl ⟨by rfl, ?_⟩) hHeld6 ?_;rotate_left;· intro w hSw;(try dsimp only at hSw);go_simp;try with_reducible rfl
 try simp only [Act.put, tkQa, tkQb, tkQc]
 refine tkQ 33 (some 72) (v := ?_) rfl (.inl ⟨by rfl, ?_⟩) hHeld6 ?_;rotate_left;· intro w hSw;(try dsimp only at hSw);go_simp;try with_reducible rfl
 try simp only [Act.put, tkQa, tkQb, tkQc]
 refine tkQ 34 (some 73) (v := ?_) rfl (.inl ⟨by rfl, ?_⟩) hHeld6 ?_;rotate_left;· intro w hSw;(try dsimp only at hSw);go_simp;try with_reducible rfl
 try simp only [Act.put, tkQa, tkQb, tkQc]
 refine tkQ 35 (some 74) (v := ?_) rfl (.inl ⟨by rfl, ?_⟩) hHeld6 ?_;rotate_left;· intro w hSw;(try dsimp only at hSw);go_simp;try with_reducible rfl
 try simp only [Act.put, tkQa, tkQb, tkQc]
 refine tkQ 36 (some 75) (v := ?_) rfl (.inl ⟨by rfl, ?_⟩) hHeld6 ?_;rotate_left;· intro w hSw;(try dsimp only at hSw);go_simp;try with_reducible rfl
 try simp only [Act.put, tkQa, tkQb, tkQc]
 refine tkQ 38 (some 77) (v := ?_) rfl (.inl ⟨by rfl, ?_⟩) hHeld6 ?_;rotate_left;· intro w hSw;(try dsimp only at hSw);go_simp;try with_reducible rfl
 try simp only [Act.put, tkQa, tkQb, tkQc]
 refine wpAnyH_ready (rs := [37]) (by kernel_rfl) (by simp) ?_
 refine AllReadyH.cons (o := ⟨some 76, _, _, _, _, _⟩) rfl (fun K hK => ?_) AllReadyH.nil
 go_simp
 go_at_call 14
 refine (HTx.out _ (hy6)).mono ?_
 rintro e y7 ⟨rfl, hy7⟩
 (try go_wp2_with fail)
 refine hK.out _ _ ?_ (fun hHeld7 => ?_)
 ·exact HK.out _ hy7
 clear hK K
 try simp only [Act.put, tkQa, tkQb, tkQc]
 refine tkQ 39 (some 78) (v := ?_) rfl (.inl ⟨by rfl, ?_⟩) hHeld7 ?_;rotate_left;· intro w hSw;(try dsimp only at hSw);go_simp;try with_reducible rfl
 try simp only [Act.put, tkQa, tkQb, tkQc]
 refine tkQ 40 (some 79) (v := ?_) rfl (.inl ⟨by rfl, ?_⟩) hHeld7 ?_;rotate_left;· intro w hSw;(try dsimp only at hSw);go_simp;try with_reducible rfl
 try simp only [Act.put, tkQa, tkQb, tkQc]
 refine tkQ 41 (some 80) (v := ?_) rfl (.inl ⟨by rfl, ?_⟩) hHeld7 ?_;rotate_left;· intro w hSw;(try dsimp only at hSw);go_simp;try with_reducible rfl
 try simp only [Act.put, tkQa, tkQb, tkQc]
 refine tkQ 42 (some 81) (v := ?_) rfl (.inl ⟨by rfl, ?_⟩) hHeld7 ?_;rotate_left;· intro w hSw;(try dsimp only at hSw);go_simp;try with_reducible rfl
 try simp only [Act.put, tkQa, tkQb, tkQc]
 refine tkQ 43 (some 82) (v := ?_) rfl (.inl ⟨by rfl, ?_⟩) hHeld7 ?_;rotate_left;· intro w hSw;(try dsimp only at hSw);go_simp;try with_reducible rfl
 try simp only [Act.put, tkQa, tkQb, tkQc]
 refine tkQ 44 (some 83) (v := ?_) rfl (.inl ⟨by rfl, ?_⟩) hHeld7 ?_;rotate_left;· intro w hSw;(try dsimp only at hSw);go_simp;try with_reducible rfl
 try simp only [Act.put, tkQa, tkQb, tkQc]
 refine tkQ 45 (some 84) (v := undef) rfl (.inr ⟨by rfl, rfl⟩) hHeld7 ?_
 try simp only [Act.put, tkQa, tkQb, tkQc]
 refine tkQ 46 (some 85) (v := undef) rfl (.inr ⟨by rfl, rfl⟩) hHeld7 ?_
 try simp only [Act.put, tkQa, tkQb, tkQc]
 refine tkQ 47 (some 86) (v := undef) rfl (.inr ⟨by rfl, rfl⟩) hHeld7 ?_
 try simp only [Act.put, tkQa, tkQb, tkQc]
 refine tkQ 48 (some 87) (v := undef) rfl (.inr ⟨by rfl, rfl⟩) hHeld7 ?_
 try simp only [Act.put, tkQa, tkQb, tkQc]
 refine tkQ 49 (some 88) (v := undef) rfl (.inr ⟨by rfl, rfl⟩) hHeld7 ?_
 try simp only [Act.put, tkQa, tkQb, tkQc]
 refine tkQ 50 (some 89) (v := ?_) rfl (.inl ⟨by rfl, ?_⟩) hHeld7 ?_;rotate_left;· intro w hSw;(try dsimp only at hSw);go_simp;try with_reducible rfl
 try simp only [Act.put, tkQa, tkQb, tkQc]
 refine tkQ 51 (some 90) (v := ?_) rfl (.inl ⟨by rfl, ?_⟩) hHeld7 ?_;rotate_left;· intro w hSw;(try dsimp only at hSw);go_simp;try with_reducible rfl
 try simp only [Act.put, tkQa, tkQb, tkQc]
 refine tkQ 52 (some 91) (v := ?_) rfl (.inl ⟨by rfl, ?_⟩) hHeld7 ?_;rotate_left;· intro w hSw;(try dsimp only at hSw);go_simp;try with_reducible rfl
 try simp only [Act.put, tkQa, tkQb, tkQc]
 refine tkQ 53 (some 92) (v := ?_) rfl (.inl ⟨by rfl, ?_⟩) hHeld7 ?_;rotate_left;· intro w hSw;(try dsimp only at hSw);go_simp;try with_reducible rfl
 try simp only [Act.put, tkQa, tkQb, tkQc]
 refine tkQ 54 (some 93) (v := ?_) rfl (.inl ⟨by rfl, ?_⟩) hHeld7 ?_;rotate_left;· intro w hSw;(try dsimp only at hSw);go_simp;try with_reducible rfl
 try simp only [Act.put, tkQa, tkQb, tkQc]
 refine tkQ 55 (some 94) (v := ?_) rfl (.inl ⟨by rfl, ?_⟩) hHeld7 ?_;rotate_left;· intro w hSw;(try dsimp only at hSw);go_simp;try with_reducible rfl
 try simp only [Act.put, tkQa, tkQb, tkQc]
 refine tkQ 56 (some 95) (v := ?_) rfl (.inl ⟨by rfl, ?_⟩) hHeld7 ?_;rotate_left;· intro w hSw;(try dsimp only at hSw);go_simp;try with_reducible rfl
 try simp only [Act.put, tkQa, tkQb, tkQc]
 refine tkQ 57 (some 96) (v := ?_) rfl (.inl ⟨by rfl, ?_⟩) hHeld7 ?_;rotate_left;· intro w hSw;(try dsimp only at hSw);go_simp;try with_reducible rfl
 try simp only [Act.put, tkQa, tkQb, tkQc]
 refine tkQ 58 (some 97) (v := ?_) rfl (.inl ⟨by rfl, ?_⟩) hHeld7 ?_;rotate_left;· intro w hSw;(try dsimp only at hSw);go_simp;try with_reducible rfl
 try simp only [Act.put, tkQa, tkQb, tkQc]
 refine tkQ 59 (some 98) (v := ?_) rfl (.inl ⟨by rfl, ?_⟩) hHeld7 ?_;rotate_left;· intro w hSw;(try dsimp only at hSw);go_simp;try with_reducible rfl
 try simp only [Act.put, tkQa, tkQb, tkQc]
 refine wpAnyH_done (by kernel_rfl) ?_ _
 have hq := zaN hc4 hy7
 have HQ : Hid (∀ W, Below z.heap.size z W → W.cell? ⟨g, 0, none⟩ = some (.int .i64 kk) ∧ W.cell? ⟨g, 1, none⟩ = some (.string s) ∧ W.cell? ⟨g, 2, none⟩ = some (.bool b) ∧ W.cell? ⟨g, 3, none⟩ = some (.int .u64 x) ∧ W.cell? ⟨g, 4, none⟩ = some (.int .u64 y)) := HK
 go_wp2_with fail
 refine (HPN.out _).mono ?_
 rintro e v1 ⟨rfl, hv1⟩
 have hz1 := zaN hy7 hv1
 go_wp2_with fail
 refine (zmY l _).mono ?_
 rintro e w' ⟨rfl, rfl⟩
 go_wp2_with fail
 refine (HWr.out _ hz1).mono ?_
 rintro e v2 ⟨rfl, hz2⟩
 go_wp2_with fail
 refine (HBK.out _ (zaB HX.out (zaN hc4 hz2))).mono ?_
 rintro e v3 ⟨hb, eb, rfl, hbk, hv3⟩
 have hz3 := zaN hz2 hv3
 have HBQ := Lib.hid hbk
 clear hbk
 obtain ⟨q0, q1, q2, q3, q4⟩ := HQ.out _ hz3
 go_wp2_with fail
 refine (HRr.out _ hz3).mono ?_
 rintro e v4 ⟨rfl, hz4⟩
 cases rb with
 | false =>
  go_wp2
  go_ret
  exact ⟨rfl, zaN hc4 hz4⟩
 | true =>
  obtain ⟨rfl, rfl⟩ := HBQ.out rfl
  obtain ⟨m1, m2, t, v, m3⟩ := HSM.out rfl
  go_wp2
  go_ret
  exact ⟨rfl, zaN hc4 hz4⟩
/-- what HostTells asks, of addr -/
theorem zkX (a0 a2 a3 : Int) (l : List UInt8) (h : HZ) (w : World) (hl : l.length ≤ 500) (hin : h.In) (hsm : h.small) (hnm : h.isN = false) (had : h.ad.isSome = true) (hpow : PowTab w) (hbru : BruTab w) (hmax : MaxVar w)
  (HMK : Hid (∀ W, Calls Tryz.prog 21 #[.int .u8 a0, .string ⟨l.toArray⟩, .int .u64 a2, .int .u64 a3] W fun e w' => e = .returned h.val ∧ W = w')) :
  Calls Tryz.prog 7 #[.int .u8 a0, .string ⟨l.toArray⟩, .int .u64 a2, .int .u64 a3] w fun e w' => e = .returned (.bool true) ∧ Below w.heap.size w w' := by
 have HP := Lib.hid hpow
 have HT := Lib.hid hbru
 have HX := Lib.hid hmax
 clear hpow hbru hmax
 obtain ⟨kk, s, b, x, y, hform⟩ := zlY h
 have hkk := znN h hform
 rw [hnm, had] at hkk
 have HKK := Lib.hid hkk
 clear hkk
 have HAD := Lib.hid (fun W => zeK h W)
 have HNM := Lib.hid (fun W => zdR h W)
 rw [had] at HAD
 rw [hnm] at HNM
 have HOF := Lib.hid (fun W => ziK h W hin)
 rw [hform] at HOF
 have hd0 : decide (500 < (l.length : Int)) = false := decide_eq_false (by omega)
 go_enter Tryz.func7, Tryz.ntmps7
 go_wp2_with fail
 refine (zfP _ HT.out HX.out).mono ?_
 rintro e w1 ⟨rfl, hb1⟩
 go_wp2_with fail
 refine (HMK.out _).mono ?_
 rintro e w' ⟨rfl, rfl⟩
 go_wp2_with fail
 refine (HOF.out _).mono ?_
 rintro e w2 ⟨rfl, hb2⟩
 have hc2 := zaN hb1 hb2
 have hal : Below w2.heap.size w2 (w2.alloc (.cells #[.int .i64 kk, .string s, .bool b, .int .u64 x, .int .u64 y] 44)) := (Below.refl _ _).alloc (Nat.le_refl _) _
 have hc3 := zaN hc2 hal
 have hblk := heap_alloc_new w2 (.cells #[.int .i64 kk, .string s, .bool b, .int .u64 x, .int .u64 y] 44)
 have hlt : w2.heap.size < (w2.alloc (.cells #[.int .i64 kk, .string s, .bool b, .int .u64 x, .int .u64 y] 44)).heap.size := by simp
 clear hb1 hb2 hal hc2 HMK HOF
 go_wp2_with fail
 generalize w2.alloc (.cells #[.int .i64 kk, .string s, .bool b, .int .u64 x, .int .u64 y] 44) = z0 at *
 generalize w2.heap.size = g at *
 refine (HAD.out _).mono ?_
 rintro e z ⟨rfl, hbz⟩
 have hc4 := zaN hc3 hbz
 have hblk2 := (hbz.block g hlt).trans hblk
 have hlt2 : g < z.heap.size := Nat.lt_of_lt_of_le hlt hbz.size
 clear hbz hc3 hblk hlt HAD
 go_wp2_with fail
 refine (HNM.out _).mono ?_
 rintro e w' ⟨rfl, rfl⟩
 clear HNM
 have hwl := znQ hin hsm
 have HK : Hid (∀ W, Below z.heap.size z W → W.cell? ⟨g, 0, none⟩ = some (.int .i64 kk) ∧ W.cell? ⟨g, 1, none⟩ = some (.string s) ∧ W.cell? ⟨g, 2, none⟩ = some (.bool b) ∧ W.cell? ⟨g, 3, none⟩ = some (.int .u64 x) ∧ W.cell? ⟨g, 4, none⟩ = some (.int .u64 y)) := fun W hW => by
  obtain ⟨k0, k1, k2, k3, k4, _⟩ := zsH ((hW.block g hlt2).trans hblk2)
  exact ⟨k0, k1, k2, k3, k4⟩
 have HWr : Hid (∀ W, Below z.heap.size z W → Calls Tryz.prog 24 #[h.val] W fun e w' => e = .returned (.string ⟨(zcZ h).toArray⟩) ∧ Below z.heap.size z w') := fun W hW => (zgQ h W hin (zbF HP.out (zaN hc4 hW)) (zaY HT.out (zaN hc4 hW))).mono fun e w' q => ⟨q.1, zaN hW q.2⟩
 have HRw : Hid (∀ W, Below z.heap.size z W → Calls Tryz.prog 25 #[.agg #[.int .i64 kk, .string s, .bool b, .int .u64 x, .int .u64 y]] W fun e w' => e = .returned (.string ⟨(zcZ h).toArray⟩) ∧ Below z.heap.size z w') := fun W hW => by
  have := zfX h W hin (zbF HP.out (zaN hc4 hW))
  rw [hform] at this
  exact this.mono fun e w' q => ⟨q.1, zaN hW q.2⟩
 have HKi : Hid (∀ W, Below z.heap.size z W → Calls Tryz.prog 26 #[h.val] W fun e w' => e = .returned (.string ⟨(znB h).toArray⟩) ∧ Below z.heap.size z w') := fun W hW => (zhK h W).mono fun e w' q => ⟨q.1, by rw [← q.2]; exact hW⟩
 have HRk : Hid (∀ W, Below z.heap.size z W → Calls Tryz.prog 27 #[.agg #[.int .i64 kk, .string s, .bool b, .int .u64 x, .int .u64 y]] W fun e w' => e = .returned (.string ⟨(znB h).toArray⟩) ∧ Below z.heap.size z w') := fun W hW => by
  have := zgW h W
  rw [hform] at this
  exact this.mono fun e w' q => ⟨q.1, zaN hW q.2⟩
 have HRi : Hid (∀ W, Below z.heap.size z W → Calls Tryz.prog 28 #[h.val] W fun e w' => e = .returned (.bool (zcT h)) ∧ Below z.heap.size z w') := fun W hW => (zgS h W hsm).mono fun e w' q => ⟨q.1, zaN hW q.2⟩
 have HRr : Hid (∀ W, Below z.heap.size z W → Calls Tryz.prog 29 #[.agg #[.int .i64 kk, .string s, .bool b, .int .u64 x, .int .u64 y]] W fun e w' => e = .returned (.bool (zcT h)) ∧ Below z.heap.size z w') := fun W hW => by
  have := zfY h W hsm
  rw [hform] at this
  exact this.mono fun e w' q => ⟨q.1, zaN hW q.2⟩
 have HTx : Hid (∀ W, Below z.heap.size z W → Calls Tryz.prog 14 #[.string ⟨h.nm.toArray⟩] W fun e w' => e = .returned (.string ⟨h.nm.toArray⟩) ∧ Below z.heap.size z w') := fun W hW => (zcF _ W).mono fun e w' q => ⟨q.1, by rw [← q.2]; exact hW⟩
 have HLo : Hid (∀ W, Below z.heap.size z W → Calls Tryz.prog 30 #[optV h.ad] W fun e w' => e = .returned (.agg #[.bool b, .int .u64 x, .int .u64 y]) ∧ Below z.heap.size z w') := fun W hW => (z8Q h W hin had hform).mono fun e w' q => ⟨q.1, zaN hW q.2⟩
 have HPN : Hid (∀ W, Calls Tryz.prog 31 #[h.val] W (zcN W (!false))) := fun W => by
  rw [← hnm]; exact zhR h W
 have HBK : Hid (∀ W, MaxVar W → Calls Tryz.prog 18 #[.string ⟨(zcZ h).toArray⟩] W fun e w' => ∃ hb eb, e = .returned (.tuple #[hb, .int .i64 eb]) ∧ (zcT h = true → hb = h.val ∧ eb = 0) ∧ Below W.heap.size W w') := fun W m => by
  have := zcW ⟨(zcZ h).toArray⟩ W (by rw [zaD]; omega) m
  rw [zaG] at this
  refine this.mono fun e w' q => ⟨_, _, q.1, fun hr => ?_, q.2⟩
  rw [znS (zgG hr (fun a e => by rw [e] at hin; exact hin))]
  exact ⟨rfl, rfl⟩
 have HSM : Hid (zcT h = true → (∀ (p q : Operand) (W : World), (eqGuard .eql 37 p q h.val h.val).run Tryz.prog W = .ok () W) ∧ (∀ W : World, (binOp .eql 37 h.val h.val).run Tryz.prog W = .ok (.bool true) W) ∧ ∃ t v, h.val = .iface t v) := fun hr => by
  have hne := (zgG hr (fun a e => by rw [e] at hin; exact hin)).ne
  exact ⟨ziW h h hne, zfB h hne, HZ.iface hne⟩
 have e2 : (kk == (2 : Int)) = true := by rw [HKK.out]; rfl
 have e1 : (kk == (1 : Int)) = false := by rw [HKK.out]; rfl
 have s3 := neqB (zcT h)
 have s4 := neqA b x y
 clear hblk2 hlt2 hform hin hsm hwl
 generalize zcZ h = tx at *
 generalize znB h = kx at *
 generalize zcT h = rb at *
 generalize h.val = hv at *
 have s1 : (tx == tx) = true := by simp
 have s2 : (kx == kx) = true := by simp
 go_wp2_with fail
 refine wp_region_held_drew (S := fun W => W.cell? ⟨g, 0, none⟩ = some (.int .i64 kk) ∧ W.cell? ⟨g, 1, none⟩ = some (.string s) ∧ W.cell? ⟨g, 2, none⟩ = some (.bool b) ∧ W.cell? ⟨g, 3, none⟩ = some (.int .u64 x) ∧ W.cell? ⟨g, 4, none⟩ = some (.int .u64 y)) (by kernel_rfl) ?_ (fun hHeld => ?_)
 ·exact HK.out _ (zbW _)
 refine tkQ 0 (some 39) (v := ?_) rfl (.inl ⟨by rfl, ?_⟩) hHeld ?_;rotate_left;· intro w hSw;(try dsimp only at hSw);go_simp;try with_reducible rfl
 try simp only [Act.put, tkQa, tkQb, tkQc]
 refine tkQ 2 (some 41) (v := ?_) rfl (.inl ⟨by rfl, ?_⟩) hHeld ?_;rotate_left;· intro w hSw;(try dsimp only at hSw);go_simp;try with_reducible rfl
 try simp only [Act.put, tkQa, tkQb, tkQc]
 refine wpAnyH_ready (rs := [1]) (by kernel_rfl) (by simp) ?_
 refine AllReadyH.cons (o := ⟨some 40, _, _, _, _, _⟩) rfl (fun K hK => ?_) AllReadyH.nil
 go_simp
 go_at_call 24
 refine (HWr.out _ (zbW _)).mono ?_
 rintro e y1 ⟨rfl, hy1⟩
 (try go_wp2_with fail)
 refine hK.out _ _ ?_ (fun hHeld1 => ?_)
 ·exact HK.out _ hy1
 clear hK K
 try simp only [Act.put, tkQa, tkQb, tkQc]
 refine wpAnyH_ready (rs := [3]) (by kernel_rfl) (by simp) ?_
 refine AllReadyH.cons (o := ⟨some 42, _, _, _, _, _⟩) rfl (fun K hK => ?_) AllReadyH.nil
 go_simp
 go_at_call 25
 refine (HRw.out _ (hy1)).mono ?_
 rintro e y2 ⟨rfl, hy2⟩
 (try go_wp2_with fail)
 refine hK.out _ _ ?_ (fun hHeld2 => ?_)
 ·exact HK.out _ hy2
 clear hK K
 try simp only [Act.put, tkQa, tkQb, tkQc]
 refine tkQ 4 (some 43) (v := ?_) rfl (.inl ⟨by rfl, ?_⟩) hHeld2 ?_;rotate_left;· intro w hSw;(try dsimp only at hSw);go_simp;try with_reducible rfl
 try simp only [Act.put, tkQa, tkQb, tkQc]
 refine tkQ 5 (some 44) (v := ?_) rfl (.inl ⟨by rfl, ?_⟩) hHeld2 ?_;rotate_left;· intro w hSw;(try dsimp only at hSw);go_simp;try with_reducible rfl
 try simp only [Act.put, tkQa, tkQb, tkQc]
 refine tkQ 6 (some 45) (v := ?_) rfl (.inl ⟨by rfl, ?_⟩) hHeld2 ?_;rotate_left;· intro w hSw;(try dsimp only at hSw);go_simp;try with_reducible rfl
 try simp only [Act.put, tkQa, tkQb, tkQc]
 refine tkQ 8 (some 47) (v := ?_) rfl (.inl ⟨by rfl, ?_⟩) hHeld2 ?_;rotate_left;· intro w hSw;(try dsimp only at hSw);go_simp;try with_reducible rfl
 try simp only [Act.put, tkQa, tkQb, tkQc]
 refine wpAnyH_ready (rs := [7]) (by kernel_rfl) (by simp) ?_
 refine AllReadyH.cons (o := ⟨some 46, _, _, _, _, _⟩) rfl (fun K hK => ?_) AllReadyH.nil
 go_simp
 go_at_call 26
 refine (HKi.out _ (hy2)).mono ?_
 rintro e y3 ⟨rfl, hy3⟩
 (try go_wp2_with fail)
 refine hK.out _ _ ?_ (fun hHeld3 => ?_)
 ·exact HK.out _ hy3
 clear hK K
 try simp only [Act.put, tkQa, tkQb, tkQc]
 refine wpAnyH_ready (rs := [9]) (by kernel_rfl) (by simp) ?_
 refine AllReadyH.cons (o := ⟨some 48, _, _, _, _, _⟩) rfl (fun K hK => ?_) AllReadyH.nil
 go_simp
 go_at_call 27
 refine (HRk.out _ (hy3)).mono ?_
 rintro e y4 ⟨rfl, hy4⟩
 (try go_wp2_with fail)
 refine hK.out _ _ ?_ (fun hHeld4 => ?_)
 ·exact HK.out _ hy4
 clear hK K
 try simp only [Act.put, tkQa, tkQb, tkQc]
 refine tkQ 10 (some 49) (v := ?_) rfl (.inl ⟨by rfl, ?_⟩) hHeld4 ?_;rotate_left;· intro w hSw;(try dsimp only at hSw);go_simp;try with_reducible rfl
 try simp only [Act.put, tkQa, tkQb, tkQc]
 refine tkQ 11 (some 50) (v := ?_) rfl (.inl ⟨by rfl, ?_⟩) hHeld4 ?_;rotate_left;· intro w hSw;(try dsimp only at hSw);go_simp;try with_reducible rfl
 try simp only [Act.put, tkQa, tkQb, tkQc]
 refine tkQ 12 (some 51) (v := ?_) rfl (.inl ⟨by rfl, ?_⟩) hHeld4 ?_;rotate_left;· intro w hSw;(try dsimp only at hSw);go_simp;try with_reducible rfl
 try simp only [Act.put, tkQa, tkQb, tkQc]
 refine tkQ 13 (some 52) (v := ?_) rfl (.inl ⟨by rfl, ?_⟩) hHeld4 ?_;rotate_left;· intro w hSw;(try dsimp only at hSw);go_simp;try with_reducible rfl
 try simp only [Act.put, tkQa, tkQb, tkQc]
 refine tkQ 15 (some 54) (v := ?_) rfl (.inl ⟨by rfl, ?_⟩) hHeld4 ?_;rotate_left;· intro w hSw;(try dsimp only at hSw);go_simp;try with_reducible rfl
 try simp only [Act.put, tkQa, tkQb, tkQc]
 refine wpAnyH_ready (rs := [14]) (by kernel_rfl) (by simp) ?_
 refine AllReadyH.cons (o := ⟨some 53, _, _, _, _, _⟩) rfl (fun K hK => ?_) AllReadyH.nil
 go_simp
 go_at_call 28
 refine (HRi.out _ (hy4)).mono ?_
 rintro e y5 ⟨rfl, hy5⟩
 (try go_wp2_with fail)
 refine hK.out _ _ ?_ (fun hHeld5 => ?_)
 ·exact HK.out _ hy5
 clear hK K
 try simp only [Act.put, tkQa, tkQb, tkQc]
 refine wpAnyH_ready (rs := [16]) (by kernel_rfl) (by simp) ?_
 refine AllReadyH.cons (o := ⟨some 55, _, _, _, _, _⟩) rfl (fun K hK => ?_) AllReadyH.nil
 go_simp
 go_at_call 29
 refine (HRr.out _ (hy5)).mono ?_
 rintro e y6 ⟨rfl, hy6⟩
 (try go_wp2_with fail)
 refine hK.out _ _ ?_ (fun hHeld6 => ?_)
 ·exact HK.out _ hy6
 clear hK K
 try simp only [Act.put, tkQa, tkQb, tkQc]
 refine tkQ 17 (some 56) (v := ?_) rfl (.inl ⟨by rfl, ?_⟩) hHeld6 ?_;rotate_left;· intro w hSw;(try dsimp only at hSw);go_simp;try with_reducible rfl
 try simp only [Act.put, tkQa, tkQb, tkQc]
 refine tkQ 18 (some 57) (v := ?_) rfl (.inl ⟨by rfl, ?_⟩) hHeld6 ?_;rotate_left;· intro w hSw;(try dsimp only at hSw);go_simp;try with_reducible rfl
 try simp only [Act.put, tkQa, tkQb, tkQc]
 refine tkQ 19 (some 58) (v := ?_) rfl (.inl ⟨by rfl, ?_⟩) hHeld6 ?_;rotate_left;· intro w hSw;(try dsimp only at hSw);go_simp;try with_reducible rfl
 try simp only [Act.put, tkQa, tkQb, tkQc]
 refine tkQ 20 (some 59) (v := ?_) rfl (.inl ⟨by rfl, ?_⟩) hHeld6 ?_;rotate_left;· intro w hSw;(try dsimp only at hSw);go_simp;try with_reducible rfl
 try simp only [Act.put, tkQa, tkQb, tkQc]
 refine tkQ 21 (some 60) (v := ?_) rfl (.inl ⟨by rfl, ?_⟩) hHeld6 ?_;rotate_left;· intro w hSw;(try dsimp only at hSw);go_simp;try with_reducible rfl
 try simp only [Act.put, tkQa, tkQb, tkQc]
 refine tkQ 22 (some 61) (v := ?_) rfl (.inl ⟨by rfl, ?_⟩) hHeld6 ?_;rotate_left;· intro w hSw;(try dsimp only at hSw);go_simp;try with_reducible rfl
 try simp only [Act.put, tkQa, tkQb, tkQc]
 refine tkQ 23 (some 62) (v := ?_) rfl (.inl ⟨by rfl, ?_⟩) hHeld6 ?_;rotate_left;· intro w hSw;(try dsimp only at hSw);go_simp;try with_reducible rfl
 try simp only [Act.put, tkQa, tkQb, tkQc]
 refine tkQ 24 (some 63) (v := ?_) rfl (.inl ⟨by rfl, ?_⟩) hHeld6 ?_;rotate_left;· intro w hSw;(try dsimp only at hSw);go_simp;try with_reducible rfl
 try simp only [Act.put, tkQa, tkQb, tkQc]
 refine tkQ 25 (some 64) (v := ?_) rfl (.inl ⟨by rfl, ?_⟩) hHeld6 ?_;rotate_left;· intro w hSw;(try dsimp only at hSw);go_simp;try with_reducible rfl
 try simp only [Act.put, tkQa, tkQb, tkQc]
 refine tkQ 26 (some 65) (v := ?_) rfl (.inl ⟨by rfl, ?_⟩) hHeld6 ?_;rotate_left;· intro w hSw;(try dsimp only at hSw);go_simp;try with_reducible rfl
 try simp only [Act.put, tkQa, tkQb, tkQc]
 refine tkQ 27 (some 66) (v := ?_) rfl (.inl ⟨by rfl, ?_⟩) hHeld6 ?_;rotate_left;· intro w hSw;(try dsimp only at hSw);go_simp;try with_reducible rfl
 try simp only [Act.put, tkQa, tkQb, tkQc]
 refine tkQ 28 (some 67) (v := ?_) rfl (.inl ⟨by rfl, ?_⟩) hHeld6 ?_;rotate_left;· intro w hSw;(try dsimp only at hSw);go_simp;try with_reducible rfl
 try simp only [Act.put, tkQa, tkQb, tkQc]
 refine tkQ 29 (some 68) (v := ?_) rfl (.inl ⟨by rfl, ?_⟩) hHeld6 ?_;rotate_left;· intro w hSw;(try dsimp only at hSw);go_simp;try with_reducible rfl
 try simp only [Act.put, tkQa, tkQb, tkQc]
 refine tkQ 30 (some 69) (v := ?_) rfl (.inl ⟨by rfl, ?_⟩) hHeld6 ?_;rotate_left;· intro w hSw;(try dsimp only at hSw);go_simp;try with_reducible rfl
 try simp only [Act.put, tkQa, tkQb, tkQc]
 refine tkQ 31 (some 70) (v := ?_) rfl (.inl ⟨by rfl, ?_⟩) hHeld6 ?_;rotate_left;· intro w hSw;(try dsimp only at hSw);go_simp;try with_reducible rfl
 try simp only [Act.put, tkQa, tkQb, tkQc]
 refine tkQ 32 (some 71) (v := ?_) rfl (.inl ⟨by rfl, ?_⟩) hHeld6 ?_;rotate_left;· intro w hSw;(try dsimp only at hSw);go_simp;try with_reducible rfl
 try simp only [Act.put, tkQa, tkQb, tkQc]
 refine tkQ 33 (some 72) (v := ?_) rfl (.inl ⟨by rfl, ?_⟩) hHeld6 ?_;rotate_left;· intro w hSw;(try dsimp only at hSw);go_simp;try with_reducible rfl
 try simp only [Act.put, tkQa, tkQb, tkQc]
 refine tkQ 34 (some 73) (v := ?_) rfl (.inl ⟨by rfl, ?_⟩) hHeld6 ?_;rotate_left;· intro w hSw;(try dsimp only at hSw);go_simp;try with_reducible rfl
 try simp only [Act.put, tkQa, tkQb, tkQc]
 refine tkQ 35 (some 74) (v := ?_) rfl (.inl ⟨by rfl, ?_⟩) hHeld6 ?_;rotate_left;· intro w hSw;(try dsimp only at hSw);go_simp;try with_reducible rfl
 try simp only [Act.put, tkQa, tkQb, tkQc]
 refine tkQ 36 (some 75) (v := undef) rfl (.inr ⟨by rfl, rfl⟩) hHeld6 ?_
 try simp only [Act.put, tkQa, tkQb, tkQc]
 refine tkQ 37 (some 76) (v := undef) rfl (.inr ⟨by rfl, rfl⟩) hHeld6 ?_
 try simp only [Act.put, tkQa, tkQb, tkQc]
 refine tkQ 38 (some 77) (v := undef) rfl (.inr ⟨by rfl, rfl⟩) hHeld6 ?_
 try simp only [Act.put, tkQa, tkQb, tkQc]
 refine tkQ 39 (some 78) (v := undef) rfl (.inr ⟨by rfl, rfl⟩) hHeld6 ?_
 try simp only [Act.put, tkQa, tkQb, tkQc]
 refine tkQ 40 (some 79) (v := ?_) rfl (.inl ⟨by rfl, ?_⟩) hHeld6 ?_;rotate_left;· intro w hSw;(try dsimp only at hSw);go_simp;try with_reducible rfl
 try simp only [Act.put, tkQa, tkQb, tkQc]
 refine tkQ 41 (some 80) (v := ?_) rfl (.inl ⟨by rfl, ?_⟩) hHeld6 ?_;rotate_left;· intro w hSw;(try dsimp only at hSw);go_simp;try with_reducible rfl
 try simp only [Act.put, tkQa, tkQb, tkQc]
 refine tkQ 42 (some 81) (v := ?_) rfl (.inl ⟨by rfl, ?_⟩) hHeld6 ?_;rotate_left;· intro w hSw;(try dsimp only at hSw);go_simp;try with_reducible rfl
 try simp only [Act.put, tkQa, tkQb, tkQc]
 refine tkQ 43 (some 82) (v := ?_) rfl (.inl ⟨by rfl, ?_⟩) hHeld6 ?_;rotate_left;· intro w hSw;(try dsimp only at hSw);go_simp;try with_reducible rfl
 try simp only [Act.put, tkQa, tkQb, tkQc]
 refine tkQ 44 (some 83) (v := ?_) rfl (.inl ⟨by rfl, ?_⟩) hHeld6 ?_;rotate_left;· intro w hSw;(try dsimp only at hSw);go_simp;try with_reducible rfl
 try simp only [Act.put, tkQa, tkQb, tkQc]
 refine tkQ 45 (some 84) (v := ?_) rfl (.inl ⟨by rfl, ?_⟩) hHeld6 ?_;rotate_left;· intro w hSw;(try dsimp only at hSw);go_simp;try with_reducible rfl
 try simp only [Act.put, tkQa, tkQb, tkQc]
 refine tkQ 47 (some 86) (v := ?_) rfl (.inl ⟨by rfl, ?_⟩) hHeld6 ?_;rotate_left;· intro w hSw;(try dsimp only at hSw);go_simp;try with_reducible rfl
 try simp only [Act.put, tkQa, tkQb, tkQc]
 refine tkQ 48 (some 87) (v := ?_) rfl (.inl ⟨by rfl, ?_⟩) hHeld6 ?_;rotate_left;· intro w hSw;(try dsimp only at hSw);go_simp;try with_reducible rfl
 try simp only [Act.put, tkQa, tkQb, tkQc]
 refine wpAnyH_ready (rs := [46]) (by kernel_rfl) (by simp) ?_
 refine AllReadyH.cons (o := ⟨some 85, _, _, _, _, _⟩) rfl (fun K hK => ?_) AllReadyH.nil
 go_simp
 go_at_call 30
 refine (HLo.out _ (hy6)).mono ?_
 rintro e y7 ⟨rfl, hy7⟩
 (try go_wp2_with fail)
 refine hK.out _ _ ?_ (fun hHeld7 => ?_)
 ·exact HK.out _ hy7
 clear hK K
 try simp only [Act.put, tkQa, tkQb, tkQc]
 refine tkQ 49 (some 88) (v := ?_) rfl (.inl ⟨by rfl, ?_⟩) hHeld7 ?_;rotate_left;· intro w hSw;(try dsimp only at hSw);go_simp;try with_reducible rfl
 try simp only [Act.put, tkQa, tkQb, tkQc]
 refine tkQ 50 (some 89) (v := ?_) rfl (.inl ⟨by rfl, ?_⟩) hHeld7 ?_;rotate_left;· intro w hSw;(try dsimp only at hSw);go_simp;try with_reducible rfl
 try simp only [Act.put, tkQa, tkQb, tkQc]
 refine tkQ 51 (some 90) (v := ?_) rfl (.inl ⟨by rfl, ?_⟩) hHeld7 ?_;rotate_left;· intro w hSw;(try dsimp only at hSw);go_simp;try with_reducible rfl
 try simp only [Act.put, tkQa, tkQb, tkQc]
 refine tkQ 52 (some 91) (v := ?_) rfl (.inl ⟨by rfl, ?_⟩) hHeld7 ?_;rotate_left;· intro w hSw;(try dsimp only at hSw);go_simp;try with_reducible rfl
 try simp only [Act.put, tkQa, tkQb, tkQc]
 refine tkQ 53 (some 92) (v := ?_) rfl (.inl ⟨by rfl, ?_⟩) hHeld7 ?_;rotate_left;· intro w hSw;(try dsimp only at hSw);go_simp;try with_reducible rfl
 try simp only [Act.put, tkQa, tkQb, tkQc]
 refine tkQ 54 (some 93) (v := ?_) rfl (.inl ⟨by rfl, ?_⟩) hHeld7 ?_;rotate_left;· intro w hSw;(try dsimp only at hSw);go_simp;try with_reducible rfl
 try simp only [Act.put, tkQa, tkQb, tkQc]
 refine tkQ 55 (some 94) (v := ?_) rfl (.inl ⟨by rfl, ?_⟩) hHeld7 ?_;rotate_left;· intro w hSw;(try dsimp only at hSw);go_simp;try with_reducible rfl
 try simp only [Act.put, tkQa, tkQb, tkQc]
 refine tkQ 56 (some 95) (v := undef) rfl (.inr ⟨by rfl, rfl⟩) hHeld7 ?_
 try simp only [Act.put, tkQa, tkQb, tkQc]
 refine tkQ 57 (some 96) (v := undef) rfl (.inr ⟨by rfl, rfl⟩) hHeld7 ?_
 try simp only [Act.put, tkQa, tkQb, tkQc]
 refine tkQ 58 (some 97) (v := ?_) rfl (.inl ⟨by rfl, ?_⟩) hHeld7 ?_;rotate_left;· intro w hSw;(try dsimp only at hSw);go_simp;try with_reducible rfl
 try simp only [Act.put, tkQa, tkQb, tkQc]
 refine tkQ 59 (some 98) (v := ?_) rfl (.inl ⟨by rfl, ?_⟩) hHeld7 ?_;rotate_left;· intro w hSw;(try dsimp only at hSw);go_simp;try with_reducible rfl
 try simp only [Act.put, tkQa, tkQb, tkQc]
 refine wpAnyH_done (by kernel_rfl) ?_ _
 have hq := zaN hc4 hy7
 have HQ : Hid (∀ W, Below z.heap.size z W → W.cell? ⟨g, 0, none⟩ = some (.int .i64 kk) ∧ W.cell? ⟨g, 1, none⟩ = some (.string s) ∧ W.cell? ⟨g, 2, none⟩ = some (.bool b) ∧ W.cell? ⟨g, 3, none⟩ = some (.int .u64 x) ∧ W.cell? ⟨g, 4, none⟩ = some (.int .u64 y)) := HK
 go_wp2_with fail
 refine (HPN.out _).mono ?_
 rintro e v1 ⟨rfl, hv1⟩
 have hz1 := zaN hy7 hv1
 go_wp2_with fail
 refine (HWr.out _ hz1).mono ?_
 rintro e v2 ⟨rfl, hz2⟩
 go_wp2_with fail
 refine (HBK.out _ (zaB HX.out (zaN hc4 hz2))).mono ?_
 rintro e v3 ⟨hb, eb, rfl, hbk, hv3⟩
 have hz3 := zaN hz2 hv3
 have HBQ := Lib.hid hbk
 clear hbk
 obtain ⟨q0, q1, q2, q3, q4⟩ := HQ.out _ hz3
 go_wp2_with fail
 refine (HRr.out _ hz3).mono ?_
 rintro e v4 ⟨rfl, hz4⟩
 cases rb with
 | false =>
  go_wp2
  go_ret
  exact ⟨rfl, zaN hc4 hz4⟩
 | true =>
  obtain ⟨rfl, rfl⟩ := HBQ.out rfl
  obtain ⟨m1, m2, t, v, m3⟩ := HSM.out rfl
  subst m3
  go_wp2
  go_ret
  exact ⟨rfl, zaN hc4 hz4⟩
/-- what HostTells asks, of none -/
theorem zrU (a0 a2 a3 : Int) (l : List UInt8) (h : HZ) (w : World) (hl : l.length ≤ 500) (hin : h.In) (hsm : h.small) (hnm : h.isN = false) (had : h.ad.isSome = false) (hpow : PowTab w) (hbru : BruTab w) (hmax : MaxVar w)
  (HMK : Hid (∀ W, Calls Tryz.prog 21 #[.int .u8 a0, .string ⟨l.toArray⟩, .int .u64 a2, .int .u64 a3] W fun e w' => e = .returned h.val ∧ W = w')) :
  Calls Tryz.prog 7 #[.int .u8 a0, .string ⟨l.toArray⟩, .int .u64 a2, .int .u64 a3] w fun e w' => e = .returned (.bool true) ∧ Below w.heap.size w w' := by
 have HP := Lib.hid hpow
 have HT := Lib.hid hbru
 have HX := Lib.hid hmax
 clear hpow hbru hmax
 obtain ⟨kk, s, b, x, y, hform⟩ := zlY h
 have hkk := znN h hform
 rw [hnm, had] at hkk
 have HKK := Lib.hid hkk
 clear hkk
 have HAD := Lib.hid (fun W => zeK h W)
 have HNM := Lib.hid (fun W => zdR h W)
 rw [had] at HAD
 rw [hnm] at HNM
 have HOF := Lib.hid (fun W => ziK h W hin)
 rw [hform] at HOF
 have hd0 : decide (500 < (l.length : Int)) = false := decide_eq_false (by omega)
 go_enter Tryz.func7, Tryz.ntmps7
 go_wp2_with fail
 refine (zfP _ HT.out HX.out).mono ?_
 rintro e w1 ⟨rfl, hb1⟩
 go_wp2_with fail
 refine (HMK.out _).mono ?_
 rintro e w' ⟨rfl, rfl⟩
 go_wp2_with fail
 refine (HOF.out _).mono ?_
 rintro e w2 ⟨rfl, hb2⟩
 have hc2 := zaN hb1 hb2
 have hal : Below w2.heap.size w2 (w2.alloc (.cells #[.int .i64 kk, .string s, .bool b, .int .u64 x, .int .u64 y] 44)) := (Below.refl _ _).alloc (Nat.le_refl _) _
 have hc3 := zaN hc2 hal
 have hblk := heap_alloc_new w2 (.cells #[.int .i64 kk, .string s, .bool b, .int .u64 x, .int .u64 y] 44)
 have hlt : w2.heap.size < (w2.alloc (.cells #[.int .i64 kk, .string s, .bool b, .int .u64 x, .int .u64 y] 44)).heap.size := by simp
 clear hb1 hb2 hal hc2 HMK HOF
 go_wp2_with fail
 generalize w2.alloc (.cells #[.int .i64 kk, .string s, .bool b, .int .u64 x, .int .u64 y] 44) = z0 at *
 generalize w2.heap.size = g at *
 refine (HAD.out _).mono ?_
 rintro e z ⟨rfl, hbz⟩
 have hc4 := zaN hc3 hbz
 have hblk2 := (hbz.block g hlt).trans hblk
 have hlt2 : g < z.heap.size := Nat.lt_of_lt_of_le hlt hbz.size
 clear hbz hc3 hblk hlt HAD
 go_wp2_with fail
 refine (HNM.out _).mono ?_
 rintro e w' ⟨rfl, rfl⟩
 clear HNM
 have hwl := znQ hin hsm
 have HK : Hid (∀ W, Below z.heap.size z W → W.cell? ⟨g, 0, none⟩ = some (.int .i64 kk) ∧ W.cell? ⟨g, 1, none⟩ = some (.string s) ∧ W.cell? ⟨g, 2, none⟩ = some (.bool b) ∧ W.cell? ⟨g, 3, none⟩ = some (.int .u64 x) ∧ W.cell? ⟨g, 4, none⟩ = some (.int .u64 y)) := fun W hW => by
  obtain ⟨k0, k1, k2, k3, k4, _⟩ := zsH ((hW.block g hlt2).trans hblk2)
  exact ⟨k0, k1, k2, k3, k4⟩
 have HWr : Hid (∀ W, Below z.heap.size z W → Calls Tryz.prog 24 #[h.val] W fun e w' => e = .returned (.string ⟨(zcZ h).toArray⟩) ∧ Below z.heap.size z w') := fun W hW => (zgQ h W hin (zbF HP.out (zaN hc4 hW)) (zaY HT.out (zaN hc4 hW))).mono fun e w' q => ⟨q.1, zaN hW q.2⟩
 have HRw : Hid (∀ W, Below z.heap.size z W → Calls Tryz.prog 25 #[.agg #[.int .i64 kk, .string s, .bool b, .int .u64 x, .int .u64 y]] W fun e w' => e = .returned (.string ⟨(zcZ h).toArray⟩) ∧ Below z.heap.size z w') := fun W hW => by
  have := zfX h W hin (zbF HP.out (zaN hc4 hW))
  rw [hform] at this
  exact this.mono fun e w' q => ⟨q.1, zaN hW q.2⟩
 have HKi : Hid (∀ W, Below z.heap.size z W → Calls Tryz.prog 26 #[h.val] W fun e w' => e = .returned (.string ⟨(znB h).toArray⟩) ∧ Below z.heap.size z w') := fun W hW => (zhK h W).mono fun e w' q => ⟨q.1, by rw [← q.2]; exact hW⟩
 have HRk : Hid (∀ W, Below z.heap.size z W → Calls Tryz.prog 27 #[.agg #[.int .i64 kk, .string s, .bool b, .int .u64 x, .int .u64 y]] W fun e w' => e = .returned (.string ⟨(znB h).toArray⟩) ∧ Below z.heap.size z w') := fun W hW => by
  have := zgW h W
  rw [hform] at this
  exact this.mono fun e w' q => ⟨q.1, zaN hW q.2⟩
 have HRi : Hid (∀ W, Below z.heap.size z W → Calls Tryz.prog 28 #[h.val] W fun e w' => e = .returned (.bool (zcT h)) ∧ Below z.heap.size z w') := fun W hW => (zgS h W hsm).mono fun e w' q => ⟨q.1, zaN hW q.2⟩
 have HRr : Hid (∀ W, Below z.heap.size z W → Calls Tryz.prog 29 #[.agg #[.int .i64 kk, .string s, .bool b, .int .u64 x, .int .u64 y]] W fun e w' => e = .returned (.bool (zcT h)) ∧ Below z.heap.size z w') := fun W hW => by
  have := zfY h W hsm
  rw [hform] at this
  exact this.mono fun e w' q => ⟨q.1, zaN hW q.2⟩
 have HTx : Hid (∀ W, Below z.heap.size z W → Calls Tryz.prog 14 #[.string ⟨h.nm.toArray⟩] W fun e w' => e = .returned (.string ⟨h.nm.toArray⟩) ∧ Below z.heap.size z w') := fun W hW => (zcF _ W).mono fun e w' q => ⟨q.1, by rw [← q.2]; exact hW⟩
 have HPN : Hid (∀ W, Calls Tryz.prog 31 #[h.val] W (zcN W (!false))) := fun W => by
  rw [← hnm]; exact zhR h W
 have HBK : Hid (∀ W, MaxVar W → Calls Tryz.prog 18 #[.string ⟨(zcZ h).toArray⟩] W fun e w' => ∃ hb eb, e = .returned (.tuple #[hb, .int .i64 eb]) ∧ (zcT h = true → hb = h.val ∧ eb = 0) ∧ Below W.heap.size W w') := fun W m => by
  have := zcW ⟨(zcZ h).toArray⟩ W (by rw [zaD]; omega) m
  rw [zaG] at this
  refine this.mono fun e w' q => ⟨_, _, q.1, fun hr => ?_, q.2⟩
  rw [znS (zgG hr (fun a e => by rw [e] at hin; exact hin))]
  exact ⟨rfl, rfl⟩
 have HSM : Hid (zcT h = true → (∀ (p q : Operand) (W : World), (eqGuard .eql 37 p q h.val h.val).run Tryz.prog W = .ok () W) ∧ (∀ W : World, (binOp .eql 37 h.val h.val).run Tryz.prog W = .ok (.bool true) W) ∧ ∃ t v, h.val = .iface t v) := fun hr => by
  have hne := (zgG hr (fun a e => by rw [e] at hin; exact hin)).ne
  exact ⟨ziW h h hne, zfB h hne, HZ.iface hne⟩
 have e2 : (kk == (2 : Int)) = false := by rw [HKK.out]; rfl
 have e1 : (kk == (1 : Int)) = false := by rw [HKK.out]; rfl
 have s3 := neqB (zcT h)
 rw [z3Z had]
 clear hblk2 hlt2 hform hin hsm hwl
 generalize zcZ h = tx at *
 generalize znB h = kx at *
 generalize zcT h = rb at *
 generalize h.val = hv at *
 have s1 : (tx == tx) = true := by simp
 have s2 : (kx == kx) = true := by simp
 go_wp2_with fail
 refine wp_region_held_drew (S := fun W => W.cell? ⟨g, 0, none⟩ = some (.int .i64 kk) ∧ W.cell? ⟨g, 1, none⟩ = some (.string s) ∧ W.cell? ⟨g, 2, none⟩ = some (.bool b) ∧ W.cell? ⟨g, 3, none⟩ = some (.int .u64 x) ∧ W.cell? ⟨g, 4, none⟩ = some (.int .u64 y)) (by kernel_rfl) ?_ (fun hHeld => ?_)
 ·exact HK.out _ (zbW _)
 refine tkQ 0 (some 39) (v := ?_) rfl (.inl ⟨by rfl, ?_⟩) hHeld ?_;rotate_left;· intro w hSw;(try dsimp only at hSw);go_simp;try with_reducible rfl
 try simp only [Act.put, tkQa, tkQb, tkQc]
 refine tkQ 2 (some 41) (v := ?_) rfl (.inl ⟨by rfl, ?_⟩) hHeld ?_;rotate_left;· intro w hSw;(try dsimp only at hSw);go_simp;try with_reducible rfl
 try simp only [Act.put, tkQa, tkQb, tkQc]
 refine wpAnyH_ready (rs := [1]) (by kernel_rfl) (by simp) ?_
 refine AllReadyH.cons (o := ⟨some 40, _, _, _, _, _⟩) rfl (fun K hK => ?_) AllReadyH.nil
 go_simp
 go_at_call 24
 refine (HWr.out _ (zbW _)).mono ?_
 rintro e y1 ⟨rfl, hy1⟩
 (try go_wp2_with fail)
 refine hK.out _ _ ?_ (fun hHeld1 => ?_)
 ·exact HK.out _ hy1
 clear hK K
 try simp only [Act.put, tkQa, tkQb, tkQc]
 refine wpAnyH_ready (rs := [3]) (by kernel_rfl) (by simp) ?_
 refine AllReadyH.cons (o := ⟨some 42, _, _, _, _, _⟩) rfl (fun K hK => ?_) AllReadyH.nil
 go_simp
 go_at_call 25
 refine (HRw.out _ (hy1)).mono ?_
 rintro e y2 ⟨rfl, hy2⟩
 (try go_wp2_with fail)
 refine hK.out _ _ ?_ (fun hHeld2 => ?_)
 ·exact HK.out _ hy2
 clear hK K
 try simp only [Act.put, tkQa, tkQb, tkQc]
 refine tkQ 4 (some 43) (v := ?_) rfl (.inl ⟨by rfl, ?_⟩) hHeld2 ?_;rotate_left;· intro w hSw;(try dsimp only at hSw);go_simp;try with_reducible rfl
 try simp only [Act.put, tkQa, tkQb, tkQc]
 refine tkQ 5 (some 44) (v := ?_) rfl (.inl ⟨by rfl, ?_⟩) hHeld2 ?_;rotate_left;· intro w hSw;(try dsimp only at hSw);go_simp;try with_reducible rfl
 try simp only [Act.put, tkQa, tkQb, tkQc]
 refine tkQ 6 (some 45) (v := ?_) rfl (.inl ⟨by rfl, ?_⟩) hHeld2 ?_;rotate_left;· intro w hSw;(try dsimp only at hSw);go_simp;try with_reducible rfl
 try simp only [Act.put, tkQa, tkQb, tkQc]
 refine tkQ 8 (some 47) (v := ?_) rfl (.inl ⟨by rfl, ?_⟩) hHeld2 ?_;rotate_left;· intro w hSw;(try dsimp only at hSw);go_simp;try with_reducible rfl
 try simp only [Act.put, tkQa, tkQb, tkQc]
 refine wpAnyH_ready (rs := [7]) (by kernel_rfl) (by simp) ?_
 refine AllReadyH.cons (o := ⟨some 46, _, _, _, _, _⟩) rfl (fun K hK => ?_) AllReadyH.nil
 go_simp
 go_at_call 26
 refine (HKi.out _ (hy2)).mono ?_
 rintro e y3 ⟨rfl, hy3⟩
 (try go_wp2_with fail)
 refine hK.out _ _ ?_ (fun hHeld3 => ?_)
 ·exact HK.out _ hy3
 clear hK K
 try simp only [Act.put, tkQa, tkQb, tkQc]
 refine wpAnyH_ready (rs := [9]) (by kernel_rfl) (by simp) ?_
 refine AllReadyH.cons (o := ⟨some 48, _, _, _, _, _⟩) rfl (fun K hK => ?_) AllReadyH.nil
 go_simp
 go_at_call 27
 refine (HRk.out _ (hy3)).mono ?_
 rintro e y4 ⟨rfl, hy4⟩
 (try go_wp2_with fail)
 refine hK.out _ _ ?_ (fun hHeld4 => ?_)
 ·exact HK.out _ hy4
 clear hK K
 try simp only [Act.put, tkQa, tkQb, tkQc]
 refine tkQ 10 (some 49) (v := ?_) rfl (.inl ⟨by rfl, ?_⟩) hHeld4 ?_;rotate_left;· intro w hSw;(try dsimp only at hSw);go_simp;try with_reducible rfl
 try simp only [Act.put, tkQa, tkQb, tkQc]
 refine tkQ 11 (some 50) (v := ?_) rfl (.inl ⟨by rfl, ?_⟩) hHeld4 ?_;rotate_left;· intro w hSw;(try dsimp only at hSw);go_simp;try with_reducible rfl
 try simp only [Act.put, tkQa, tkQb, tkQc]
 refine tkQ 12 (some 51) (v := ?_) rfl (.inl ⟨by rfl, ?_⟩) hHeld4 ?_;rotate_left;· intro w hSw;(try dsimp only at hSw);go_simp;try with_reducible rfl
 try simp only [Act.put, tkQa, tkQb, tkQc]
 refine tkQ 13 (some 52) (v := ?_) rfl (.inl ⟨by rfl, ?_⟩) hHeld4 ?_;rotate_left;· intro w hSw;(try dsimp only at hSw);go_simp;try with_reducible rfl
 try simp only [Act.put, tkQa, tkQb, tkQc]
 refine tkQ 15 (some 54) (v := ?_) rfl (.inl ⟨by rfl, ?_⟩) hHeld4 ?_;rotate_left;· intro w hSw;(try dsimp only at hSw);go_simp;try with_reducible rfl
 try simp only [Act.put, tkQa, tkQb, tkQc]
 refine wpAnyH_ready (rs := [14]) (by kernel_rfl) (by simp) ?_
 refine AllReadyH.cons (o := ⟨some 53, _, _, _, _, _⟩) rfl (fun K hK => ?_) AllReadyH.nil
 go_simp
 go_at_call 28
 refine (HRi.out _ (hy4)).mono ?_
 rintro e y5 ⟨rfl, hy5⟩
 (try go_wp2_with fail)
 refine hK.out _ _ ?_ (fun hHeld5 => ?_)
 ·exact HK.out _ hy5
 clear hK K
 try simp only [Act.put, tkQa, tkQb, tkQc]
 refine wpAnyH_ready (rs := [16]) (by kernel_rfl) (by simp) ?_
 refine AllReadyH.cons (o := ⟨some 55, _, _, _, _, _⟩) rfl (fun K hK => ?_) AllReadyH.nil
 go_simp
 go_at_call 29
 refine (HRr.out _ (hy5)).mono ?_
 rintro e y6 ⟨rfl, hy6⟩
 (try go_wp2_with fail)
 refine hK.out _ _ ?_ (fun hHeld6 => ?_)
 ·exact HK.out _ hy6
 clear hK K
 try simp only [Act.put, tkQa, tkQb, tkQc]
 refine tkQ 17 (some 56) (v := ?_) rfl (.inl ⟨by rfl, ?_⟩) hHeld6 ?_;rotate_left;· intro w hSw;(try dsimp only at hSw);go_simp;try with_reducible rfl
 try simp only [Act.put, tkQa, tkQb, tkQc]
 refine tkQ 18 (some 57) (v := ?_) rfl (.inl ⟨by rfl, ?_⟩) hHeld6 ?_;rotate_left;· intro w hSw;(try dsimp only at hSw);go_simp;try with_reducible rfl
 try simp only [Act.put, tkQa, tkQb, tkQc]
 refine tkQ 19 (some 58) (v := ?_) rfl (.inl ⟨by rfl, ?_⟩) hHeld6 ?_;rotate_left;· intro w hSw;(try dsimp only at hSw);go_simp;try with_reducible rfl
 try simp only [Act.put, tkQa, tkQb, tkQc]
 refine tkQ 20 (some 59) (v := ?_) rfl (.inl ⟨by rfl, ?_⟩) hHeld6 ?_;rotate_left;· intro w hSw;(try dsimp only at hSw);go_simp;try with_reducible rfl
 try simp only [Act.put, tkQa, tkQb, tkQc]
 refine tkQ 21 (some 60) (v := ?_) rfl (.inl ⟨by rfl, ?_⟩) hHeld6 ?_;rotate_left;· intro w hSw;(try dsimp only at hSw);go_simp;try with_reducible rfl
 try simp only [Act.put, tkQa, tkQb, tkQc]
 refine tkQ 22 (some 61) (v := ?_) rfl (.inl ⟨by rfl, ?_⟩) hHeld6 ?_;rotate_left;· intro w hSw;(try dsimp only at hSw);go_simp;try with_reducible rfl
 try simp only [Act.put, tkQa, tkQb, tkQc]
 refine tkQ 23 (some 62) (v := ?_) rfl (.inl ⟨by rfl, ?_⟩) hHeld6 ?_;rotate_left;· intro w hSw;(try dsimp only at hSw);go_simp;try with_reducible rfl
 try simp only [Act.put, tkQa, tkQb, tkQc]
 refine tkQ 24 (some 63) (v := ?_) rfl (.inl ⟨by rfl, ?_⟩) hHeld6 ?_;rotate_left;· intro w hSw;(try dsimp only at hSw);go_simp;try with_reducible rfl
 try simp only [Act.put, tkQa, tkQb, tkQc]
 refine tkQ 25 (some 64) (v := ?_) rfl (.inl ⟨by rfl, ?_⟩) hHeld6 ?_;rotate_left;· intro w hSw;(try dsimp only at hSw);go_simp;try with_reducible rfl
 try simp only [Act.put, tkQa, tkQb, tkQc]
 refine tkQ 26 (some 65) (v := ?_) rfl (.inl ⟨by rfl, ?_⟩) hHeld6 ?_;rotate_left;· intro w hSw;(try dsimp only at hSw);go_simp;try with_reducible rfl
 try simp only [Act.put, tkQa, tkQb, tkQc]
 refine tkQ 27 (some 66) (v := ?_) rfl (.inl ⟨by rfl, ?_⟩) hHeld6 ?_;rotate_left;· intro w hSw;(try dsimp only at hSw);go_simp;try with_reducible rfl
 try simp only [Act.put, tkQa, tkQb, tkQc]
 refine tkQ 28 (some 67) (v := ?_) rfl (.inl ⟨by rfl, ?_⟩) hHeld6 ?_;rotate_left;· intro w hSw;(try dsimp only at hSw);go_simp;try with_reducible rfl
 try simp only [Act.put, tkQa, tkQb, tkQc]
 refine tkQ 29 (some 68) (v := ?_) rfl (.inl ⟨by rfl, ?_⟩) hHeld6 ?_;rotate_left;· intro w hSw;(try dsimp only at hSw);go_simp;try with_reducible rfl
 try simp only [Act.put, tkQa, tkQb, tkQc]
 refine tkQ 30 (some 69) (v := ?_) rfl (.inl ⟨by rfl, ?_⟩) hHeld6 ?_;rotate_left;· intro w hSw;(try dsimp only at hSw);go_simp;try with_reducible rfl
 try simp only [Act.put, tkQa, tkQb, tkQc]
 refine tkQ 31 (some 70) (v := ?_) rfl (.inl ⟨by rfl, ?_⟩) hHeld6 ?_;rotate_left;· intro w hSw;(try dsimp only at hSw);go_simp;try with_reducible rfl
 try simp only [Act.put, tkQa, tkQb, tkQc]
 refine tkQ 32 (some 71) (v := ?_) rfl (.inl ⟨by rfl, ?_⟩) hHeld6 ?_;rotate_left;· intro w hSw;(try dsimp only at hSw);go_simp;try with_reducible rfl
 try simp only [Act.put, tkQa, tkQb, tkQc]
 refine tkQ 33 (some 72) (v := ?_) rfl (.inl ⟨by rfl, ?_⟩) hHeld6 ?_;rotate_left;· intro w hSw;(try dsimp only at hSw);go_simp;try with_reducible rfl
 try simp only [Act.put, tkQa, tkQb, tkQc]
 refine tkQ 34 (some 73) (v := ?_) rfl (.inl ⟨by rfl, ?_⟩) hHeld6 ?_;rotate_left;· intro w hSw;(try dsimp only at hSw);go_simp;try with_reducible rfl
 try simp only [Act.put, tkQa, tkQb, tkQc]
 refine tkQ 35 (some 74) (v := ?_) rfl (.inl ⟨by rfl, ?_⟩) hHeld6 ?_;rotate_left;· intro w hSw;(try dsimp only at hSw);go_simp;try with_reducible rfl
 try simp only [Act.put, tkQa, tkQb, tkQc]
 refine tkQ 36 (some 75) (v := undef) rfl (.inr ⟨by rfl, rfl⟩) hHeld6 ?_
 try simp only [Act.put, tkQa, tkQb, tkQc]
 refine tkQ 37 (some 76) (v := undef) rfl (.inr ⟨by rfl, rfl⟩) hHeld6 ?_
 try simp only [Act.put, tkQa, tkQb, tkQc]
 refine tkQ 38 (some 77) (v := undef) rfl (.inr ⟨by rfl, rfl⟩) hHeld6 ?_
 try simp only [Act.put, tkQa, tkQb, tkQc]
 refine tkQ 39 (some 78) (v := undef) rfl (.inr ⟨by rfl, rfl⟩) hHeld6 ?_
 try simp only [Act.put, tkQa, tkQb, tkQc]
 refine tkQ 40 (some 79) (v := ?_) rfl (.inl ⟨by rfl, ?_⟩) hHeld6 ?_;rotate_left;· intro w hSw;(try dsimp only at hSw);go_simp;try with_reducible rfl
 try simp only [Act.put, tkQa, tkQb, tkQc]
 refine tkQ 41 (some 80) (v := ?_) rfl (.inl ⟨by rfl, ?_⟩) hHeld6 ?_;rotate_left;· intro w hSw;(try dsimp only at hSw);go_simp;try with_reducible rfl
 try simp only [Act.put, tkQa, tkQb, tkQc]
 refine tkQ 42 (some 81) (v := ?_) rfl (.inl ⟨by rfl, ?_⟩) hHeld6 ?_;rotate_left;· intro w hSw;(try dsimp only at hSw);go_simp;try with_reducible rfl
 try simp only [Act.put, tkQa, tkQb, tkQc]
 refine tkQ 43 (some 82) (v := ?_) rfl (.inl ⟨by rfl, ?_⟩) hHeld6 ?_;rotate_left;· intro w hSw;(try dsimp only at hSw);go_simp;try with_reducible rfl
 try simp only [Act.put, tkQa, tkQb, tkQc]
 refine tkQ 44 (some 83) (v := ?_) rfl (.inl ⟨by rfl, ?_⟩) hHeld6 ?_;rotate_left;· intro w hSw;(try dsimp only at hSw);go_simp;try with_reducible rfl
 try simp only [Act.put, tkQa, tkQb, tkQc]
 refine tkQ 45 (some 84) (v := undef) rfl (.inr ⟨by rfl, rfl⟩) hHeld6 ?_
 try simp only [Act.put, tkQa, tkQb, tkQc]
 refine tkQ 46 (some 85) (v := undef) rfl (.inr ⟨by rfl, rfl⟩) hHeld6 ?_
 try simp only [Act.put, tkQa, tkQb, tkQc]
 refine tkQ 47 (some 86) (v := undef) rfl (.inr ⟨by rfl, rfl⟩) hHeld6 ?_
 try simp only [Act.put, tkQa, tkQb, tkQc]
 refine tkQ 48 (some 87) (v := undef) rfl (.inr ⟨by rfl, rfl⟩) hHeld6 ?_
 try simp only [Act.put, tkQa, tkQb, tkQc]
 refine tkQ 49 (some 88) (v := undef) rfl (.inr ⟨by rfl, rfl⟩) hHeld6 ?_
 try simp only [Act.put, tkQa, tkQb, tkQc]
 refine tkQ 50 (some 89) (v := ?_) rfl (.inl ⟨by rfl, ?_⟩) hHeld6 ?_;rotate_left;· intro w hSw;(try dsimp only at hSw);go_simp;try with_reducible rfl
 try simp only [Act.put, tkQa, tkQb, tkQc]
 refine tkQ 51 (some 90) (v := ?_) rfl (.inl ⟨by rfl, ?_⟩) hHeld6 ?_;rotate_left;· intro w hSw;(try dsimp only at hSw);go_simp;try with_reducible rfl
 try simp only [Act.put, tkQa, tkQb, tkQc]
 refine tkQ 52 (some 91) (v := ?_) rfl (.inl ⟨by rfl, ?_⟩) hHeld6 ?_;rotate_left;· intro w hSw;(try dsimp only at hSw);go_simp;try with_reducible rfl
 try simp only [Act.put, tkQa, tkQb, tkQc]
 refine tkQ 53 (some 92) (v := ?_) rfl (.inl ⟨by rfl, ?_⟩) hHeld6 ?_;rotate_left;· intro w hSw;(try dsimp only at hSw);go_simp;try with_reducible rfl
 try simp only [Act.put, tkQa, tkQb, tkQc]
 refine tkQ 54 (some 93) (v := ?_) rfl (.inl ⟨by rfl, ?_⟩) hHeld6 ?_;rotate_left;· intro w hSw;(try dsimp only at hSw);go_simp;try with_reducible rfl
 try simp only [Act.put, tkQa, tkQb, tkQc]
 refine tkQ 55 (some 94) (v := ?_) rfl (.inl ⟨by rfl, ?_⟩) hHeld6 ?_;rotate_left;· intro w hSw;(try dsimp only at hSw);go_simp;try with_reducible rfl
 try simp only [Act.put, tkQa, tkQb, tkQc]
 refine tkQ 56 (some 95) (v := ?_) rfl (.inl ⟨by rfl, ?_⟩) hHeld6 ?_;rotate_left;· intro w hSw;(try dsimp only at hSw);go_simp;try with_reducible rfl
 try simp only [Act.put, tkQa, tkQb, tkQc]
 refine tkQ 57 (some 96) (v := ?_) rfl (.inl ⟨by rfl, ?_⟩) hHeld6 ?_;rotate_left;· intro w hSw;(try dsimp only at hSw);go_simp;try with_reducible rfl
 try simp only [Act.put, tkQa, tkQb, tkQc]
 refine tkQ 58 (some 97) (v := ?_) rfl (.inl ⟨by rfl, ?_⟩) hHeld6 ?_;rotate_left;· intro w hSw;(try dsimp only at hSw);go_simp;try with_reducible rfl
 try simp only [Act.put, tkQa, tkQb, tkQc]
 refine tkQ 59 (some 98) (v := ?_) rfl (.inl ⟨by rfl, ?_⟩) hHeld6 ?_;rotate_left;· intro w hSw;(try dsimp only at hSw);go_simp;try with_reducible rfl
 try simp only [Act.put, tkQa, tkQb, tkQc]
 refine wpAnyH_done (by kernel_rfl) ?_ _
 have hq := zaN hc4 hy6
 have HQ : Hid (∀ W, Below z.heap.size z W → W.cell? ⟨g, 0, none⟩ = some (.int .i64 kk) ∧ W.cell? ⟨g, 1, none⟩ = some (.string s) ∧ W.cell? ⟨g, 2, none⟩ = some (.bool b) ∧ W.cell? ⟨g, 3, none⟩ = some (.int .u64 x) ∧ W.cell? ⟨g, 4, none⟩ = some (.int .u64 y)) := HK
 go_wp2_with fail
 refine (HPN.out _).mono ?_
 rintro e v1 ⟨rfl, hv1⟩
 have hz1 := zaN hy6 hv1
 go_wp2_with fail
 refine (HWr.out _ hz1).mono ?_
 rintro e v2 ⟨rfl, hz2⟩
 go_wp2_with fail
 refine (HBK.out _ (zaB HX.out (zaN hc4 hz2))).mono ?_
 rintro e v3 ⟨hb, eb, rfl, hbk, hv3⟩
 have hz3 := zaN hz2 hv3
 have HBQ := Lib.hid hbk
 clear hbk
 obtain ⟨q0, q1, q2, q3, q4⟩ := HQ.out _ hz3
 go_wp2_with fail
 refine (HRr.out _ hz3).mono ?_
 rintro e v4 ⟨rfl, hz4⟩
 cases rb with
 | false =>
  go_wp2
  go_ret
  exact ⟨rfl, zaN hc4 hz4⟩
 | true =>
  obtain ⟨rfl, rfl⟩ := HBQ.out rfl
  obtain ⟨m1, m2, t, v, m3⟩ := HSM.out rfl
  subst m3
  go_wp2
  go_ret
  exact ⟨rfl, zaN hc4 hz4⟩
theorem z9P {n : Int} (h : (Lit.int .u8 n).wf = true) : 0 ≤ n ∧ n ≤ 255 := by
 simp [Lit.wf, IntKind.min, IntKind.max, IntKind.bits, IntKind.signed] at h
 omega
theorem zrY {n : Int} (h : (Lit.int .u64 n).wf = true) : 0 ≤ n ∧ n ≤ 18446744073709551615 := by
 simp [Lit.wf, IntKind.min, IntKind.max, IntKind.bits, IntKind.signed] at h
 omega
theorem hostTells_walk (a0 : Int) (a1 : ByteArray) (a2 : Int) (a3 : Int) (w0 : (Lit.int .u8 a0).wf = true) (_w1 : a1.size ≤ maxLen) (w2 : (Lit.int .u64 a2).wf = true) (w3 : (Lit.int .u64 a3).wf = true) (w : World) (hpow : PowTab w) (hbru : BruTab w) (hmax : MaxVar w) :
  Calls Tryz.prog 7 #[.int .u8 a0, .string a1, .int .u64 a2, .int .u64 a3] w fun e w' => e = .returned (.bool true) ∧ Below w.heap.size w w' := by
 by_cases hbig : 500 < a1.size
 ·have hd : decide (500 < (a1.size : Int)) = true := decide_eq_true (by omega)
  go_enter Tryz.func7, Tryz.ntmps7
  go_wp2_with fail
  refine (zfP _ hbru hmax).mono ?_
  rintro e w1 ⟨rfl, hb1⟩
  go_wp2
  go_ret
  exact ⟨rfl, hb1⟩
 ·obtain ⟨l, rfl⟩ : ∃ l : List UInt8, a1 = ⟨l.toArray⟩ := ⟨a1.data.toList, by cases a1; simp⟩
  have hl : l.length ≤ 500 := by rw [zaD] at hbig; omega
  have hk := z9P w0
  have h2 := zrY w2
  have h3 := zrY w3
  obtain ⟨k, hk4⟩ : ∃ k : Nat, a0 % 4 = (k : Int) := ⟨(a0 % 4).toNat, by omega⟩
  have HMK := Lib.hid (fun W => zzF a0 l a2 a3 k hk4 hk.1 W)
  have hlt : k < 4 := by omega
  rcases (show k = 0 ∨ k = 1 ∨ k = 2 ∨ k = 3 from by omega) with rfl | rfl | rfl | rfl
  ·exact zrU a0 a2 a3 l .none w hl trivial trivial rfl rfl hpow hbru hmax HMK
  ·exact zsT a0 a2 a3 l (.name l) w hl trivial (show l.length ≤ 1073741824 by omega) rfl rfl (fun _ => rfl) hpow hbru hmax HMK
  ·exact zkX a0 a2 a3 l (.addr (.four (a3 % 4294967296))) w hl (show 0 ≤ _ ∧ _ ≤ _ from ⟨by omega, by omega⟩) trivial rfl rfl hpow hbru hmax HMK
  ·exact zkX a0 a2 a3 l (.addr (.six a2 a3)) w hl ⟨h2, h3⟩ trivial rfl rfl hpow hbru hmax HMK
end

end Go.Proofs.YtphapecoimlngaaGreatDoor
