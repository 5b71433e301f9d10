/-
  What the law HostOnce leans on, and its walk (17 of 18).
-/
import Derived.Test.YtphapecoimlngaaGreatDoorHostOncePkD
import Derived.Test.YtphapecoimlngaaGreatDoorHostOncePkP
import Derived.Test.YtphapecoimlngaaGreatDoorHostOncePkG
namespace Go.Proofs.YtphapecoimlngaaGreatDoor
set_option maxRecDepth 100000
set_option maxHeartbeats 16000000
section
open Go.RowKit
theorem zsV (w : World) (hbru : BruTab w) (hmax : MaxVar w) :
  Calls Tryz.prog 35 #[] w fun e w' => e = .returned (.bool true) ∧ Below w.heap.size w w' := by
 go_enter Tryz.func35, Tryz.ntmps35
 go_wp2_with fail
 refine (zpX _ hbru hmax).mono ?_
 rintro e w' ⟨rfl, hb⟩
 go_wp2
 go_ret
 exact ⟨rfl, hb⟩
theorem ex11_a : zbM [69, 88, 65, 77, 80, 76, 69, 46, 99, 111, 109, 46] = ([101, 120, 97, 109, 112, 108, 101, 46, 99, 111, 109, 46], 0) := by decide +kernel
theorem ex11_b : zbM [97, 46, 46, 98] = ([], 6) := by decide +kernel
theorem ex11_c : zbM [88, 78, 45, 45, 97, 46, 98] = ([], 7) := by decide +kernel
theorem zrL (w : World) (hbru : BruTab w) (hmax : MaxVar w) :
  Calls Tryz.prog 10 #[] w fun e w' => e = .returned (.bool true) ∧ Below w.heap.size w w' := by
 have HT := Lib.hid hbru
 have HX := Lib.hid hmax
 clear hbru hmax
 go_enter Tryz.func10, Tryz.ntmps10
 go_wp2_with fail
 refine (zgO ⟨#[69, 88, 65, 77, 80, 76, 69, 46, 99, 111, 109, 46]⟩ _ (by decide)).mono ?_
 rw [ex11_a]
 rintro e w1 ⟨rfl, hb1⟩
 go_wp2_with fail
 refine (zgO ⟨#[97, 46, 46, 98]⟩ _ (by decide)).mono ?_
 rw [ex11_b]
 rintro e w2 ⟨rfl, hb2⟩
 have hc2 := zaA hb1 hb2
 clear hb1 hb2
 go_wp2_with fail
 refine (zgO ⟨#[88, 78, 45, 45, 97, 46, 98]⟩ _ (by decide)).mono ?_
 rw [ex11_c]
 rintro e w3 ⟨rfl, hb3⟩
 have hc3 := zaA hc2 hb3
 clear hc2 hb3
 go_wp2_with fail
 refine (zsV _ (zaU HT.out hc3) (zaB HX.out hc3)).mono ?_
 rintro e w4 ⟨rfl, hb4⟩
 have hc4 := zaA hc3 hb4
 clear hc3 hb4
 go_wp2
 go_ret
 exact ⟨rfl, hc4⟩
theorem zuH (w : World) (hbru : BruTab w) (hmax : MaxVar w) :
  Calls Tryz.prog 50 #[] w fun e w' => e = .returned (.bool true) ∧ Below w.heap.size w w' := by
 go_enter Tryz.func50, Tryz.ntmps50
 go_wp2_with fail
 refine (zrL _ hbru hmax).mono ?_
 rintro e w' ⟨rfl, hb⟩
 go_wp2
 go_ret
 exact ⟨rfl, hb⟩
end

section
open Go.RowKit
theorem zoR (x y : HZ) (h : x ≠ .none) : ∀ (p q : Operand) (W : World), (eqGuard .eql 37 p q x.val y.val).run Tryz.prog W = .ok () W := by
 intro p q W
 match x, y, h with
 | .name _, .none, _ => rfl
 | .name _, .name _, _ => rfl
 | .name _, .addr (.four _), _ => rfl
 | .name _, .addr (.six _ _), _ => rfl
 | .addr (.four _), .none, _ => rfl
 | .addr (.four _), .name _, _ => rfl
 | .addr (.four _), .addr (.four _), _ => rfl
 | .addr (.four _), .addr (.six _ _), _ => rfl
 | .addr (.six _ _), .none, _ => rfl
 | .addr (.six _ _), .name _, _ => rfl
 | .addr (.six _ _), .addr (.four _), _ => rfl
 | .addr (.six _ _), .addr (.six _ _), _ => rfl
theorem sameN (s : ByteArray) (W : World) : (Op.equal 37 (.iface 23 (.string s)) (.iface 23 (.string s))).run Tryz.prog W = .ok (s == s) W := by kernel_rfl
theorem same4 (n : Int) (W : World) : (Op.equal 37 (.iface 70 (.int .u32 n)) (.iface 70 (.int .u32 n))).run Tryz.prog W = .ok (n == n) W := by kernel_rfl
theorem same6' (u v : Value) (W : World) : (Op.equal 37 (.iface 73 u) (.iface 73 v)).run Tryz.prog W = (Op.equalIn 9999 73 u v).run Tryz.prog W := by kernel_rfl
theorem same6 (h l : Int) (W : World) : (Op.equal 37 (.iface 73 (.agg #[.int .u64 h, .int .u64 l])) (.iface 73 (.agg #[.int .u64 h, .int .u64 l]))).run Tryz.prog W = .ok true W := by
 rw [same6', run_equalIn_struct W 9998 73 _ _ (by kernel_rfl) (by kernel_rfl)]
 simp [Program.fieldsOf, Tryz.underlying73, Op.eqFields, go_sem, part, Tryz.sizeOf40, Tryz.isAgg40, Tryz.underlying40]
/-- a host is the same as itself -/
theorem zhL (x : HZ) (h : x ≠ .none) : ∀ W : World, (binOp .eql 37 x.val x.val).run Tryz.prog W = .ok (.bool true) W := by
 intro W
 match x, h with
 | .name l, _ =>
  show ((Op.equal _ _ _ >>= fun b => pure (Value.bool b)) : Sem Value).run _ _ = _
  rw [Sem.run_bind, HZ.val, sameN, show ((ByteArray.mk l.toArray) == (ByteArray.mk l.toArray)) = true by show (l.toArray == l.toArray) = true; simp]
  rfl
 | .addr (.four n), _ =>
  show ((Op.equal _ _ _ >>= fun b => pure (Value.bool b)) : Sem Value).run _ _ = _
  rw [Sem.run_bind, HZ.val, AZ.val, same4]
  simp
 | .addr (.six hi lo), _ =>
  show ((Op.equal _ _ _ >>= fun b => pure (Value.bool b)) : Sem Value).run _ _ = _
  rw [Sem.run_bind, HZ.val, AZ.val, same6]
  rfl
theorem ex12_a : zfJ [48, 88, 55, 70, 46, 49] = (.addr (.four 2130706433), 0) := by
 have h : zfJ [48, 88, 55, 70, 46, 49] = zeK (zbM (decB [48, 88, 55, 70, 46, 49])) := rfl
 rw [h, show zbM (decB [48, 88, 55, 70, 46, 49]) = ([48, 120, 55, 102, 46, 49], 0) by decide +kernel, zoL (b := true) (x := 2130706433) (by decide +kernel) (by decide +kernel)]
 rfl
theorem ex12_b : zfJ [37, 51, 49, 37, 51, 50, 37, 51, 55, 46, 48, 46, 48, 46, 49] = (.addr (.four 2130706433), 0) := by
 have h : zfJ [37, 51, 49, 37, 51, 50, 37, 51, 55, 46, 48, 46, 48, 46, 49] = zeK (zbM (decB [37, 51, 49, 37, 51, 50, 37, 51, 55, 46, 48, 46, 48, 46, 49])) := rfl
 rw [h, show zbM (decB [37, 51, 49, 37, 51, 50, 37, 51, 55, 46, 48, 46, 48, 46, 49]) = ([49, 50, 55, 46, 48, 46, 48, 46, 49], 0) by decide +kernel, zoL (b := true) (x := 2130706433) (by decide +kernel) (by decide +kernel)]
 rfl
theorem ex12_c : zfJ [91, 58, 58, 49, 93] = (.addr (.six 0 1), 0) := by
 have h : zfJ [91, 58, 58, 49, 93] = zgC [58, 58, 49, 93] := rfl
 rw [h, zrF (hi := 0) (lo := 1) (by decide) (by decide +kernel)]
theorem ex12_d : zfJ [49, 46, 50, 46, 51, 46, 52, 46, 53] = (.none, 6) := by
 have h : zfJ [49, 46, 50, 46, 51, 46, 52, 46, 53] = zeK (zbM (decB [49, 46, 50, 46, 51, 46, 52, 46, 53])) := rfl
 rw [h, show zbM (decB [49, 46, 50, 46, 51, 46, 52, 46, 53]) = ([49, 46, 50, 46, 51, 46, 52, 46, 53], 0) by decide +kernel, zoL (b := false) (x := 0) (by decide +kernel) (by decide +kernel)]
 rfl
theorem zqV (w : World) (hbru : BruTab w) (hmax : MaxVar w) :
  Calls Tryz.prog 17 #[] w fun e w' => e = .returned (.bool true) ∧ Below w.heap.size w w' := by
 have HT := Lib.hid hbru
 have HX := Lib.hid hmax
 clear hbru hmax
 have HO : Hid (∀ W, Calls Tryz.prog 51 #[.int .u8 127, .int .u8 0, .int .u8 0, .int .u8 1] W fun e w' => e = .returned (.int .u32 2130706433) ∧ W = w') := fun W => zlA 127 0 0 1 W (by decide) (by decide) (by decide) (by decide)
 have hg4 := zoR (.addr (.four 2130706433)) (.addr (.four 2130706433)) (by simp)
 have hg6 := zoR (.addr (.six 0 1)) (.addr (.six 0 1)) (by simp)
 have he4 := zhL (.addr (.four 2130706433)) (by simp)
 have he6 := zhL (.addr (.six 0 1)) (by simp)
 simp only [HZ.val, AZ.val] at hg4 hg6 he4 he6
 go_enter Tryz.func17, Tryz.ntmps17
 go_wp2_with fail
 refine (zcS ⟨#[48, 88, 55, 70, 46, 49]⟩ _ (by decide) HX.out).mono ?_
 rw [ex12_a]
 rintro e w1 ⟨rfl, hb1⟩
 simp only [HZ.val, AZ.val]
 go_wp2_with fail
 refine (zcS ⟨#[37, 51, 49, 37, 51, 50, 37, 51, 55, 46, 48, 46, 48, 46, 49]⟩ _ (by decide) (zaB HX.out hb1)).mono ?_
 rw [ex12_b]
 rintro e w2 ⟨rfl, hb2⟩
 simp only [HZ.val, AZ.val]
 have hc2 := zcN hb1 hb2
 clear hb1 hb2
 go_wp2_with fail
 refine (zcS ⟨#[91, 58, 58, 49, 93]⟩ _ (by decide) (zaB HX.out hc2)).mono ?_
 rw [ex12_c]
 rintro e w3 ⟨rfl, hb3⟩
 simp only [HZ.val, AZ.val]
 have hc3 := zcN hc2 hb3
 clear hc2 hb3
 go_wp2_with fail
 refine (zcS ⟨#[49, 46, 50, 46, 51, 46, 52, 46, 53]⟩ _ (by decide) (zaB HX.out hc3)).mono ?_
 rw [ex12_d]
 rintro e w4 ⟨rfl, hb4⟩
 simp only [HZ.val]
 have hc4 := zcN hc3 hb4
 clear hc3 hb4
 go_wp2_with fail
 refine (zuH _ (zaU HT.out hc4) (zaB HX.out hc4)).mono ?_
 rintro e w5 ⟨rfl, hb5⟩
 have hc5 := zcN hc4 hb5
 clear hc4 hb5
 go_wp2_with (go_at_call 51; refine (HO.out _).mono ?_; rintro e w' ⟨rfl, rfl⟩)
 go_ret
 exact ⟨rfl, hc5⟩
end

section
open Go.RowKit
theorem hostOnce_walk (a0 : ByteArray) (_w0 : a0.size ≤ maxLen) (w : World) (hpow : PowTab w) (hbru : BruTab w) (hmax : MaxVar w) :
  Calls Tryz.prog 8 #[.string a0] w fun e w' => e = .returned (.bool true) ∧ Below w.heap.size w w' := by
 have HP := Lib.hid hpow
 have HT := Lib.hid hbru
 have HX := Lib.hid hmax
 clear hbru hmax hpow
 obtain ⟨h, er, hh⟩ : ∃ h er, zfJ a0.data.toList = (h, er) := ⟨_, _, rfl⟩
 have hok := z4U (l := a0.data.toList)
 have hno := z5S (l := a0.data.toList)
 rw [hh] at hok hno
 go_enter Tryz.func8, Tryz.ntmps8
 go_wp2_with fail
 refine (zqV _ HT.out HX.out).mono ?_
 rintro e w1 ⟨rfl, hb1⟩
 by_cases hbig : 1000 < a0.size
 ·have hd : decide (1000 < (a0.size : Int)) = true := decide_eq_true (by omega)
  go_wp2
  go_ret
  exact ⟨rfl, hb1⟩
 have hd : decide (1000 < (a0.size : Int)) = false := decide_eq_false (by omega)
 go_wp2_with fail
 refine (zcS a0 _ (by omega) (zaB HX.out hb1)).mono ?_
 rw [hh]
 rintro e w2 ⟨rfl, hb2⟩
 have hc2 := zcN hb1 hb2
 clear hb1 hb2 hd hh
 by_cases h0 : er = 0
 ·have ho := hok h0
  subst h0
  clear hno hok
  have hne := ho.ne
  have hback := z2R ho
  have hwl := zvX ho
  have hrt := zyO ho
  have hsm := ho.sm
  have HWR := Lib.hid (fun W p b => zoF h W ho.inn p b)
  have HRI := Lib.hid (fun W => zoS h W hsm)
  rw [hrt] at HRI
  have hge : ∀ (p q : Operand) (W : World), (eqGuard .eql 37 p q h.val h.val).run Tryz.prog W = .ok () W := zoR h h hne
  have heq := zhL h hne
  generalize zkM h = tx at *
  have HPA : Hid (∀ W, MaxVar W → Calls Tryz.prog 18 #[.string ⟨tx.toArray⟩] W fun e w' => e = .returned (.tuple #[h.val, .int .i64 0]) ∧ Below W.heap.size W w') := fun W m => by
   have := zcS ⟨tx.toArray⟩ W (by rw [zaG]; omega) m
   rwa [zaJ, hback] at this
  obtain ⟨t, v, hv⟩ := HZ.iface hne
  simp only [hv] at HWR HRI HPA hge heq ⊢
  have htt : (tx == tx) = true := by simp
  clear hback hrt hsm hne ho hv
  go_wp2_with fail
  refine (HWR.out _ (zcC HP.out hc2) (zaU HT.out hc2)).mono ?_
  rintro e w3 ⟨rfl, hb3⟩
  have hc3 := zcN hc2 hb3
  clear hc2 hb3
  go_wp2_with fail
  refine (HPA.out _ (zaB HX.out hc3)).mono ?_
  rintro e w4 ⟨rfl, hb4⟩
  have hc4 := zcN hc3 hb4
  clear hc3 hb4
  go_wp2_with fail
  refine (HRI.out _).mono ?_
  rintro e w5 ⟨rfl, hb5⟩
  have hc5 := zcN hc4 hb5
  clear hc4 hb5
  go_wp2_with fail
  refine (HWR.out _ (zcC HP.out hc5) (zaU HT.out hc5)).mono ?_
  rintro e w6 ⟨rfl, hb6⟩
  have hc6 := zcN hc5 hb6
  clear hc5 hb6
  go_wp2_with fail
  refine (HWR.out _ (zcC HP.out hc6) (zaU HT.out hc6)).mono ?_
  rintro e w7 ⟨rfl, hb7⟩
  have hc7 := zcN hc6 hb7
  clear hc6 hb7
  go_wp2
  go_ret
  exact ⟨by first | rfl | exact zaY (by simp), hc7⟩
 ·have hn := hno h0
  subst hn
  have hd : (er != (0 : Int)) = true := by rw [bne_iff_ne]; exact h0
  simp only [HZ.val]
  clear hok hno h0
  go_wp2
  go_ret
  exact ⟨rfl, hc2⟩
end

end Go.Proofs.YtphapecoimlngaaGreatDoor
