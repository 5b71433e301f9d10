/-
  What the law DomainJoins leans on, and its walk (16 of 17).
-/
import Derived.Test.YtphapecoimlngaaGreatDoorDomainJoinsPkD
import Derived.Test.YtphapecoimlngaaGreatDoorDomainJoinsPkO
namespace Go.Proofs.YtphapecoimlngaaGreatDoor
set_option maxRecDepth 100000
set_option maxHeartbeats 16000000
section
open Go.RowKit
theorem zrW (w : World) (hbru : BruTab w) (hmax : MaxVar w) :
  Calls Tryz.prog 35 #[] w fun e w' => e = .returned (.bool true) ∧ Below w.heap.size w w' := by
 go_enter Tryz.func35, Tryz.ntmps35
 go_wp2_with fail
 refine (zoY _ hbru hmax).mono ?_
 rintro e w' ⟨rfl, hb⟩
 go_wp2
 go_ret
 exact ⟨rfl, hb⟩
theorem ex11_a : zbO [69, 88, 65, 77, 80, 76, 69, 46, 99, 111, 109, 46] = ([101, 120, 97, 109, 112, 108, 101, 46, 99, 111, 109, 46], 0) := by decide +kernel
theorem ex11_b : zbO [97, 46, 46, 98] = ([], 6) := by decide +kernel
theorem ex11_c : zbO [88, 78, 45, 45, 97, 46, 98] = ([], 7) := by decide +kernel
theorem zpM (w : World) (hbru : BruTab w) (hmax : MaxVar w) :
  Calls Tryz.prog 10 #[] w fun e w' => e = .returned (.bool true) ∧ Below w.heap.size w w' := by
 have HT := Lib.hid hbru
 have HX := Lib.hid hmax
 clear hbru hmax
 go_enter Tryz.func10, Tryz.ntmps10
 go_wp2_with fail
 refine (zdZ ⟨#[69, 88, 65, 77, 80, 76, 69, 46, 99, 111, 109, 46]⟩ _ (by decide)).mono ?_
 rw [ex11_a]
 rintro e w1 ⟨rfl, hb1⟩
 go_wp2_with fail
 refine (zdZ ⟨#[97, 46, 46, 98]⟩ _ (by decide)).mono ?_
 rw [ex11_b]
 rintro e w2 ⟨rfl, hb2⟩
 have hc2 := zaA hb1 hb2
 clear hb1 hb2
 go_wp2_with fail
 refine (zdZ ⟨#[88, 78, 45, 45, 97, 46, 98]⟩ _ (by decide)).mono ?_
 rw [ex11_c]
 rintro e w3 ⟨rfl, hb3⟩
 have hc3 := zaA hc2 hb3
 clear hc2 hb3
 go_wp2_with fail
 refine (zrW _ (zbI HT.out hc3) (zaB HX.out hc3)).mono ?_
 rintro e w4 ⟨rfl, hb4⟩
 have hc4 := zaA hc3 hb4
 clear hc3 hb4
 go_wp2
 go_ret
 exact ⟨rfl, hc4⟩
end

section
open Go.RowKit
theorem zfU {l n : List UInt8} (h : zbO l = (n, 0)) : zcW l = true ∧ zbM l = n ∧ zcD n := by
 have hi := zkR (l := l) (by rw [h])
 rw [h] at hi
 have e : n = zbM l := by have := hi.1; injection this
 refine ⟨?_, e.symm, by rw [e]; exact hi.2⟩
 cases hp : zcW l with
 | true => rfl
 | false => rw [ztF hp] at h; cases h
theorem low46 (c : UInt8) (h : lowC c = 46) : c = 46 := by
 have := zsS (fun c => !decide (lowC c = 46) || decide (c = 46)) (by decide +kernel) c
 simpa [h] using this
/-- two names with a point between are one -/
theorem joins {a b n m t : List UInt8} (ha : zbO a = (n, 0)) (hb : zbO b = (m, 0)) (hl : a.length + b.length ≤ 250) (hd : a.getLast? ≠ some 46) (ht : t = a ++ [46] ++ b) : ∃ x, zbO t = (x, 0) ∧ zcD x ∧ zgF x m = true ∧ (zaM x).length = (zaM n).length + (zaM m).length := by
 obtain ⟨pa, la, na⟩ := zfU ha
 obtain ⟨pb, lb, nb⟩ := zfU hb
 have hn : n ≠ [] := fun e => na.ne (by rw [e]; rfl)
 have hlast : n.getLast hn ≠ 46 := fun e => by
  apply hd
  have e1 : n.getLast? = some 46 := by rw [List.getLast?_eq_some_getLast hn, e]
  rw [← la, zbM, List.getLast?_map] at e1
  cases h : a.getLast? with
  | none => rw [h] at e1; cases e1
  | some c =>
   rw [h] at e1
   have e2 : lowC c = 46 := Option.some.inj e1
   rw [low46 c e2]
 have hln : n.length + m.length ≤ 250 := by rw [← la, ← lb, zgG, zgG]; exact hl
 obtain ⟨j1, j2⟩ := na.join nb hln hn hlast
 subst ht
 refine ⟨n ++ [46] ++ m, zoS ?_ ?_ j1, j1, nb.more.1, by rw [j2, List.length_append]⟩
 ·unfold zcW at *
  rw [List.all_append, List.all_append, pa, pb]
  rfl
 ·rw [zeH, zeH, la, lb]
  rfl
theorem addJ (a b : ByteArray) (h : a.size + b.size ≤ 1000000000) : ∀ W, (Op.stringOp .add a b).run Tryz.prog W = .ok (.string (a ++ b)) W := fun W => run_string_add_sum W _ _ (by omega)
theorem domainJoins_walk (a0 : ByteArray) (a1 : ByteArray) (w0 : a0.size ≤ maxLen) (w1 : a1.size ≤ maxLen) (w : World) (hbru : BruTab w) (hmax : MaxVar w) :
  Calls Tryz.prog 5 #[.string a0, .string a1] w fun e w' => e = .returned (.bool true) ∧ Below w.heap.size w w' := by
 unfold maxLen at w0 w1
 have HT := Lib.hid hbru
 have HX := Lib.hid hmax
 clear hbru hmax
 obtain ⟨n, e1, hc1⟩ : ∃ n e1, zbO a0.data.toList = (n, e1) := ⟨_, _, rfl⟩
 obtain ⟨m, e2, hc2⟩ : ∃ m e2, zbO a1.data.toList = (m, e2) := ⟨_, _, rfl⟩
 have H1 := Lib.hid hc1
 have H2 := Lib.hid hc2
 have hn1 := ziH hc1
 have hn2 := ziH hc2
 rw [zaK] at hn1 hn2
 clear hc1 hc2
 go_enter Tryz.func5, Tryz.ntmps5
 go_wp2_with fail
 refine (zpM _ HT.out HX.out).mono ?_
 rintro e x1 ⟨rfl, hb1⟩
 go_wp2_with fail
 refine (zdZ a0 _ (by omega)).mono ?_
 rw [H1.out]
 rintro e x2 ⟨rfl, hb2⟩
 have hq2 := zcK hb1 hb2
 go_wp2_with fail
 refine (zdZ a1 _ (by omega)).mono ?_
 rw [H2.out]
 rintro e x3 ⟨rfl, hb3⟩
 have hq3 := zcK hq2 hb3
 clear hb1 hb2 hb3 hq2 HT HX
 by_cases c1 : 300 < a0.size
 ·have d1 : decide (300 < (a0.size : Int)) = true := decide_eq_true (by omega)
  clear c1
  go_wp2
  go_ret
  exact ⟨rfl, hq3⟩
 have d1 : decide (300 < (a0.size : Int)) = false := decide_eq_false (by omega)
 by_cases c2 : 300 < a1.size
 ·have d2 : decide (300 < (a1.size : Int)) = true := decide_eq_true (by omega)
  clear c1 c2
  go_wp2
  go_ret
  exact ⟨rfl, hq3⟩
 have d2 : decide (300 < (a1.size : Int)) = false := decide_eq_false (by omega)
 by_cases c3 : e1 = 0
 ·subst c3
  by_cases c4 : e2 = 0
  ·subst c4
   have d3 : ((0 : Int) != 0) = false := rfl
   have hw : wrap64 ((a0.size : Int) + (a1.size : Int)) = (a0.size : Int) + (a1.size : Int) := by unfold wrap64; omega
   by_cases c5 : 250 < a0.size + a1.size
   ·have d5 : decide (250 < (a0.size : Int) + (a1.size : Int)) = true := decide_eq_true (by omega)
    clear c1 c2 c5
    go_wp2
    go_ret
    exact ⟨rfl, hq3⟩
   have d5 : decide (250 < (a0.size : Int) + (a1.size : Int)) = false := decide_eq_false (by omega)
   have hpos : 0 < a0.size := by
    have h := (zfU H1.out).2.2
    have : n ≠ [] := fun e => h.ne (by rw [e]; rfl)
    have := List.length_pos_iff.2 this
    omega
   obtain ⟨k, hk⟩ : ∃ k, a0.size = k + 1 := ⟨a0.size - 1, by omega⟩
   have hlt : k < a0.size := by omega
   have d1' : decide (300 < (k : Int) + 1) = false := decide_eq_false (by omega)
   have d5' : decide (250 < (k : Int) + 1 + (a1.size : Int)) = false := decide_eq_false (by omega)
   have hw' : wrap64 ((k : Int) + 1 + (a1.size : Int)) = (k : Int) + 1 + (a1.size : Int) := by unfold wrap64; omega
   have hlast : a0.data.toList.getLast? = some (a0[k]'hlt) := by rw [List.getLast?_eq_getElem?, zaK, hk]; exact ziY a0 k hlt
   obtain ⟨c, hc⟩ : ∃ c, (a0[k]'hlt).toNat = c := ⟨_, rfl⟩
   by_cases c6 : c = 46
   ·have d6 : ((c : Int) == 46) = true := by rw [c6]; rfl
    clear c1 c2 c5 c6 hlast
    go_wp2
    go_ret
    exact ⟨rfl, hq3⟩
   have d6 : ((c : Int) == 46) = false := beq_eq_false_iff_ne.2 (by omega)
   have hls : a0.data.toList.getLast? ≠ some 46 := fun e => c6 (by rw [hlast] at e; rw [← hc, Option.some.inj e]; rfl)
   have ha1 := addJ a0 ⟨#[46]⟩ (by show a0.size + 1 ≤ _; omega)
   have ha2 := addJ (a0 ++ ⟨#[46]⟩) a1 (by rw [znE]; show a0.size + 1 + a1.size ≤ _; omega)
   have hs2 : (a0 ++ ⟨#[46]⟩ ++ a1).size ≤ 1000 := by rw [znE, znE]; show a0.size + 1 + a1.size ≤ _; omega
   obtain ⟨x, hx, hxn, hxb, hxl⟩ := joins H1.out H2.out (by rw [zaK, zaK]; omega) hls (show (a0 ++ ⟨#[46]⟩ ++ a1).data.toList = _ by rw [ztD, ztD])
   generalize a0 ++ ⟨#[46]⟩ ++ a1 = t2 at *
   generalize a0 ++ ⟨#[46]⟩ = t1 at *
   have hxs := ziH hx
   rw [zaK] at hxs
   have HCX : Hid (∀ W, Calls Tryz.prog 11 #[.string t2] W fun e w' => e = .returned (.tuple #[.string ⟨x.toArray⟩, .int .i64 0]) ∧ Below W.heap.size W w') := fun W => by
    have := zdZ t2 W (by omega)
    rwa [hx] at this
   have HBE : Hid (∀ W, Calls Tryz.prog 15 #[.string ⟨x.toArray⟩, .string ⟨m.toArray⟩] W (zdK W true)) := fun W => by
    have := z0A ⟨x.toArray⟩ ⟨m.toArray⟩ W (by rw [zaH]; omega) (by rw [zaH]; omega)
    rwa [zaJ, zaJ, hxb] at this
   have HLX : Hid (∀ W, Calls Tryz.prog 16 #[.string ⟨x.toArray⟩] W (zjX W (zaM x))) := fun W => by
    have := zdE ⟨x.toArray⟩ W (by rw [zaH]; omega)
    rwa [zaJ] at this
   have HLN : Hid (∀ W, Calls Tryz.prog 16 #[.string ⟨n.toArray⟩] W (zjX W (zaM n))) := fun W => by
    have := zdE ⟨n.toArray⟩ W (by rw [zaH]; omega)
    rwa [zaJ] at this
   have HLM : Hid (∀ W, Calls Tryz.prog 16 #[.string ⟨m.toArray⟩] W (zjX W (zaM m))) := fun W => by
    have := zdE ⟨m.toArray⟩ W (by rw [zaH]; omega)
    rwa [zaJ] at this
   have HRI : Hid (∀ q, q ∈ zaM x → ∀ W, Calls Tryz.prog 13 #[.string ⟨q.toArray⟩] W (zdK W true)) := fun q hq W => by
    have hl := (hxn.lab q hq).2
    have := zqF ⟨q.toArray⟩ W (by rw [zaH]; omega)
    rwa [zaJ, (ztO q).2 (hxn.label hq)] at this
   have hpl := zdD x
   have hne : (((zaM x).length : Int) != ((zaM n).length : Int) + ((zaM m).length : Int)) = false := by rw [bne_eq_false_iff_eq]; omega
   have hll1 := zdD n
   have hll2 := zdD m
   generalize zaM x = ps at *
   clear c1 c2 c5 c6 hlast hls
   go_wp2_with fail
   refine (HCX.out _).mono ?_
   rintro e x4 ⟨rfl, hb4⟩
   have hq4 := zcK hq3 hb4
   clear hb4 hq3 HCX ha1 ha2
   go_wp2_with fail
   refine (HBE.out _).mono ?_
   rintro e x5 ⟨rfl, hb5⟩
   have hq5 := zcK hq4 hb5
   clear hb5 hq4 HBE
   go_wp2_with fail
   refine (HLX.out _).mono ?_
   rintro e x6 ⟨g6, c6, rfl, -, -, hb6⟩
   have hq6 := zcK hq5 hb6
   clear hb6 hq5
   go_wp2_with fail
   refine (HLN.out _).mono ?_
   rintro e x7 ⟨g7, c7, rfl, -, -, hb7⟩
   have hq7 := zcK hq6 hb7
   clear hb7 hq6 HLN
   go_wp2_with fail
   refine (HLM.out _).mono ?_
   rintro e x8 ⟨g8, c8, rfl, -, -, hb8⟩
   have hq8 := zcK hq7 hb8
   clear hb8 hq7 HLM
   go_wp2_with fail
   refine (HLX.out _).mono ?_
   rintro e x9 ⟨g9, c9, rfl, -, hse, hb9⟩
   have hq9 := zcK hq8 hb9
   have HC := Lib.hid hse
   clear hb9 hq8 HLX hse
   go_wp2
   go_loopw [89] (fun i wr => ∃ k : Nat, k ≤ ps.length ∧ i = .int .i64 k ∧ Below x9.heap.size x9 wr) (fun i _ => ps.length - (intOf i).toNat)
   case atStart => exact ⟨0, Nat.zero_le _, rfl, Below.refl _ _⟩
   case round =>
    obtain ⟨j, hj, rfl, hbw⟩ := hrel
    by_cases hjl : j < ps.length
    ·have hcl := (HC.out.keep hbw).2 j hjl
     obtain ⟨q, hq⟩ : ∃ q, ps.getD j [] = q := ⟨_, rfl⟩
     rw [hq] at hcl
     have HQ := Lib.hid (HRI.out q (by rw [← hq, List.getD, List.getElem?_eq_getElem hjl]; exact List.getElem_mem hjl))
     clear hq
     go_wp2_with fail
     refine (HQ.out _).mono ?_
     rintro e x10 ⟨rfl, hb10⟩
     have hbw2 := zcK hbw hb10
     clear hb10 hcl
     go_wp2
     go_roundw
     case rel => exact ⟨j + 1, by omega, by go_num, hbw2⟩
     case measure => simp [intOf]; omega
    ·go_wp2
     go_ret
     exact ⟨rfl, zcK hq9 hbw⟩
  ·have d4 : (e2 != (0 : Int)) = true := by rw [bne_iff_ne]; exact c4
   have d3 : ((0 : Int) != 0) = false := rfl
   clear c1 c2 c4
   go_wp2
   go_ret
   exact ⟨rfl, hq3⟩
 ·have d3 : (e1 != (0 : Int)) = true := by rw [bne_iff_ne]; exact c3
  clear c1 c2 c3
  go_wp2
  go_ret
  exact ⟨rfl, hq3⟩
end

end Go.Proofs.YtphapecoimlngaaGreatDoor
