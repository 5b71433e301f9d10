/-
  What the law DomainBack leans on, and its walk (16 of 17).
-/
import Derived.Test.YtphapecoimlngaaGreatDoorDomainBackPkD
import Derived.Test.YtphapecoimlngaaGreatDoorDomainBackPkO
namespace Go.Proofs.YtphapecoimlngaaGreatDoor
set_option maxRecDepth 100000
set_option maxHeartbeats 16000000
section
open Go.RowKit
theorem zsA (w : World) (hbru : BruTab w) (hmax : MaxVar w) :
  Calls Tryz.prog 35 #[] w fun e w' => e = .returned (.bool true) ∧ Below w.heap.size w w' := by
 go_enter Tryz.func35, Tryz.ntmps35
 go_wp2_with fail
 refine (zpL _ hbru hmax).mono ?_
 rintro e w' ⟨rfl, hb⟩
 go_wp2
 go_ret
 exact ⟨rfl, hb⟩
theorem ex11_a : zbU [69, 88, 65, 77, 80, 76, 69, 46, 99, 111, 109, 46] = ([101, 120, 97, 109, 112, 108, 101, 46, 99, 111, 109, 46], 0) := by decide +kernel
theorem ex11_b : zbU [97, 46, 46, 98] = ([], 6) := by decide +kernel
theorem ex11_c : zbU [88, 78, 45, 45, 97, 46, 98] = ([], 7) := by decide +kernel
theorem zoP (w : World) (hbru : BruTab w) (hmax : MaxVar w) :
  Calls Tryz.prog 10 #[] w fun e w' => e = .returned (.bool true) ∧ Below w.heap.size w w' := by
 have HT := Lib.hid hbru
 have HX := Lib.hid hmax
 clear hbru hmax
 go_enter Tryz.func10, Tryz.ntmps10
 go_wp2_with fail
 refine (zdI ⟨#[69, 88, 65, 77, 80, 76, 69, 46, 99, 111, 109, 46]⟩ _ (by decide)).mono ?_
 rw [ex11_a]
 rintro e w1 ⟨rfl, hb1⟩
 go_wp2_with fail
 refine (zdI ⟨#[97, 46, 46, 98]⟩ _ (by decide)).mono ?_
 rw [ex11_b]
 rintro e w2 ⟨rfl, hb2⟩
 have hc2 := zaA hb1 hb2
 clear hb1 hb2
 go_wp2_with fail
 refine (zdI ⟨#[88, 78, 45, 45, 97, 46, 98]⟩ _ (by decide)).mono ?_
 rw [ex11_c]
 rintro e w3 ⟨rfl, hb3⟩
 have hc3 := zaA hc2 hb3
 clear hc2 hb3
 go_wp2_with fail
 refine (zsA _ (zbJ HT.out hc3) (zaB HX.out hc3)).mono ?_
 rintro e w4 ⟨rfl, hb4⟩
 have hc4 := zaA hc3 hb4
 clear hc3 hb4
 go_wp2
 go_ret
 exact ⟨rfl, hc4⟩
end

section
open Go.RowKit
theorem upC_up {c : UInt8} (h1 : 97 ≤ c.toNat) (h2 : c.toNat ≤ 122) : (upC c).toNat = c.toNat - 32 := by
 have := zmB (fun c => !decide (97 ≤ c.toNat ∧ c.toNat ≤ 122) || decide ((upC c).toNat = c.toNat - 32)) (by decide +kernel) c
 simpa [h1, h2] using this
theorem upC_id {c : UInt8} (h : c.toNat < 97 ∨ 122 < c.toNat) : upC c = c := by unfold upC; rw [if_neg (by omega)]
theorem z2N (n l s : List UInt8) (hn : zcD n) (hs : zbK s = n) : zfR (zbK (l ++ [46] ++ s)) n = true ∧ zfR n (zbK (l ++ [46] ++ s)) = false := by
 have e : zbK (l ++ [46] ++ s) = zbK l ++ [46] ++ n := by rw [zeI, zeI, hs]; rfl
 rw [e]
 exact ⟨hn.more.1, hn.more.2.1⟩
theorem addB (a b : ByteArray) (h : a.size + b.size ≤ 1000000000) : ∀ W, (Op.stringOp .add a b).run Tryz.prog W = .ok (.string (a ++ b)) W := fun W => run_string_add_sum W _ _ (by omega)
theorem domainBack_walk (a0 : ByteArray) (a1 : ByteArray) (_w0 : a0.size ≤ maxLen) (_w1 : a1.size ≤ maxLen) (w : World) (hbru : BruTab w) (hmax : MaxVar w) :
  Calls Tryz.prog 4 #[.string a0, .string a1] w fun e w' => e = .returned (.bool true) ∧ Below w.heap.size w w' := by
 have HT := Lib.hid hbru
 have HX := Lib.hid hmax
 clear hbru hmax
 go_enter Tryz.func4, Tryz.ntmps4
 go_wp2_with fail
 refine (zoP _ HT.out HX.out).mono ?_
 rintro e w1 ⟨rfl, hb1⟩
 clear HT HX
 by_cases hbig : 500 < a0.size
 ·have hd : decide (500 < (a0.size : Int)) = true := decide_eq_true (by omega)
  go_wp2
  go_ret
  exact ⟨rfl, hb1⟩
 have hd1 : decide (500 < (a0.size : Int)) = false := decide_eq_false (by omega)
 by_cases hbig2 : 100 < a1.size
 ·have hd : decide (100 < (a1.size : Int)) = true := decide_eq_true (by omega)
  go_wp2
  go_ret
  exact ⟨rfl, hb1⟩
 have hd2 : decide (100 < (a1.size : Int)) = false := decide_eq_false (by omega)
 obtain ⟨n, er, hc⟩ : ∃ n er, zbU a0.data.toList = (n, er) := ⟨_, _, rfl⟩
 have hlen := zlE hc
 rw [zaL] at hlen
 have hnm := zlG (l := a0.data.toList)
 have hno := zpC (l := a0.data.toList)
 have his := zhR (l := a0.data.toList)
 have hri : zkN a0.data.toList = (decide (er = 0) && n == a0.data.toList) := by unfold zkN; rw [hc]
 rw [hc] at hnm hno his
 go_wp2_with fail
 refine (zdI a0 _ (by omega)).mono ?_
 rw [hc]
 rintro e w2 ⟨rfl, hb2⟩
 have hc2 := zcQ hb1 hb2
 clear hb1 hb2 hc hd1 hd2
 by_cases h0 : er = 0
 ·have HNM := Lib.hid (hnm h0)
  have HLO : Hid (zbK a0.data.toList = n) := by have := (his h0).1; injection this with h1 _; exact h1.symm
  subst h0
  obtain ⟨nb, hnb⟩ : ∃ nb : ByteArray, nb = ⟨n.toArray⟩ := ⟨_, rfl⟩
  have hnbl : nb.data.toList = n := by rw [hnb]
  have hnbs : nb.size ≤ 500 := by rw [← zaL, hnbl]; omega
  simp only [← hnb]
  clear hno his hnm hri hlen
  have HCN : Hid (∀ W, Calls Tryz.prog 11 #[.string nb] W fun e w' => e = .returned (.tuple #[.string nb, .int .i64 0]) ∧ Below W.heap.size W w') := fun W => by
   have := zdI nb W (by omega)
   rw [hnbl, HNM.out.canon] at this
   exact this.mono fun e w' h => by rw [hnb]; exact h
  have HCG : Hid (∀ W, Calls Tryz.prog 11 #[.string ⟨(nb.data.toList.map upC).toArray⟩] W fun e w' => e = .returned (.tuple #[.string nb, .int .i64 0]) ∧ Below W.heap.size W w') := fun W => by
   have := zdI ⟨(nb.data.toList.map upC).toArray⟩ W (by rw [zaH, List.length_map, zaL]; omega)
   rw [zaJ, hnbl, HNM.out.great] at this
   rw [hnbl]
   exact this.mono fun e w' h => by rw [hnb]; exact h
  have HRI : Hid (∀ W, Calls Tryz.prog 13 #[.string nb] W (zcT W true)) := fun W => by
   have := zjN nb W (by omega)
   rwa [hnbl, (zuL n).2 HNM.out] at this
  have HBE : Hid (∀ W, Calls Tryz.prog 15 #[.string nb, .string nb] W (zcT W false)) := fun W => by
   have := zjO nb nb W (by omega) (by omega)
   rwa [hnbl, zkO (Nat.le_refl _)] at this
  have hcv0 := Lib.run_convert_string_bytes (P := Tryz.prog) w2 9 30 5 nb Tryz.underlying9 Tryz.underlying30 Tryz.underlying5
  have HST := Lib.hid (ziK upC w2 nb)
  have hb0 : Below w2.heap.size w2 (Lib.bytesWorld w2 5 nb) := ⟨rfl, rfl, rfl, by rw [Lib.bytesWorld_size]; omega, fun k hk => Lib.bytesWorld_at_old w2 _ nb k hk⟩
  have hz0 := Lib.bytesWorld_size w2 5 nb
  generalize hcap : grownCap w2 nb.size 0 5 = cap at *
  generalize Lib.bytesWorld w2 5 nb = wb at *
  have HNB := Lib.hid hnb
  have HNL := Lib.hid hnbl
  clear hcap hnb hnbl hz0
  go_wp2_with fail
  refine (zcX _ _).mono ?_
  rintro e w' ⟨rfl, rfl⟩
  go_wp2
  clear hcv0
  go_loopw [45] (fun i wr => ∃ k : Nat, k ≤ nb.size ∧ i = .int .i64 k ∧ zdE upC w2.heap.size nb k cap wr ∧ Below w2.heap.size w2 wr) (fun i _ => nb.size - (intOf i).toNat)
  case atStart => exact ⟨0, Nat.zero_le _, rfl, HST.out, hb0⟩
  case round =>
   obtain ⟨k, hk, rfl, hr, hbw⟩ := hrel
   by_cases hlt : k < nb.size
   ·have hcell := hr.cell hlt
    have hfr := hr.frozen hlt
    obtain ⟨c, hc⟩ : ∃ c, (nb[k]'hlt).toNat = c := ⟨_, rfl⟩
    have hc256 : c < 256 := by rw [← hc]; exact (nb[k]'hlt).toNat_lt
    rw [hc] at hcell
    by_cases hu : 97 ≤ c ∧ c ≤ 122
    ·have hdc : ((upC nb[k]).toNat : Int) = (c : Int) - 32 := by rw [upC_up (by omega) (by omega), hc]; omega
     have HR2 := Lib.hid (hr.put hlt ((c : Int) - 32) hdc.symm)
     have hbw2 := hbw.setCell (p := ⟨w2.heap.size, k, none⟩) (Nat.le_refl _) (.int .u8 ((c : Int) - 32))
     obtain ⟨hu1, hu2⟩ := hu
     clear hdc hc
     go_wp2
     go_roundw
     case rel => exact ⟨k + 1, by omega, by go_num, HR2.out, hbw2⟩
     case measure => simp [intOf]; omega
    ·have HR2 := Lib.hid (hr.same hlt (upC_id (by omega)))
     clear hc
     go_wp2
     all_goals
      go_roundw
      case rel => exact ⟨k + 1, by omega, by go_num, HR2.out, hbw⟩
      case measure => simp [intOf]; omega
   ·have hc3 := hc2.trans (hbw.mono hc2.size)
    have HR := Lib.hid hr
    clear hr hbw hc2 HST hb0
    go_wp2_with fail
    refine (zcX _ _).mono ?_
    rintro e w' ⟨rfl, rfl⟩
    go_wp2_with fail
    refine (HCN.out _).mono ?_
    rintro e w4 ⟨rfl, hb4⟩
    have hcv := (HR.out.keep hb4).conv hlt
    have hc4 := zcQ hc3 hb4
    clear hb4 hc3 HR HCN
    go_wp2_with fail
    refine (HCG.out _).mono ?_
    rintro e w5 ⟨rfl, hb5⟩
    have hc5 := zcQ hc4 hb5
    have hnn : (nb.toList == nb.toList) = true := by simp
    clear hb5 hc4 HCG hcv
    go_wp2_with fail
    refine (zcX _ _).mono ?_
    rintro e w' ⟨rfl, rfl⟩
    go_wp2_with fail
    refine (HRI.out _).mono ?_
    rintro e w6 ⟨rfl, hb6⟩
    have hc6 := zcQ hc5 hb6
    clear hb6 hc5 HRI
    go_wp2_with fail
    refine (HBE.out _).mono ?_
    rintro e w7 ⟨rfl, hb7⟩
    have hc7 := zcQ hc6 hb7
    clear hb7 hc6 HBE
    have ha1 := addB a1 ⟨#[46]⟩ (by show a1.size + 1 ≤ _; omega)
    have ha2 := addB (a1 ++ ⟨#[46]⟩) a0 (by rw [zmV]; show a1.size + 1 + a0.size ≤ _; omega)
    have ht2 : (a1 ++ ⟨#[46]⟩ ++ a0).data.toList = a1.data.toList ++ [46] ++ a0.data.toList := by rw [zsF, zsF]
    have hs2 : (a1 ++ ⟨#[46]⟩ ++ a0).size ≤ 1000 := by rw [zmV, zmV]; show a1.size + 1 + a0.size ≤ _; omega
    generalize a1 ++ ⟨#[46]⟩ ++ a0 = t2 at *
    generalize a1 ++ ⟨#[46]⟩ = t1 at *
    obtain ⟨x, e2, hx⟩ : ∃ x e2, zbU t2.data.toList = (x, e2) := ⟨_, _, rfl⟩
    have hxl := zlE hx
    rw [zaL] at hxl
    have hxi := zhR (l := t2.data.toList)
    have HCX := Lib.hid (fun W => zdI t2 W (by omega))
    rw [hx] at HCX hxi
    have HT2 := Lib.hid ht2
    clear hx ht2
    go_wp2_with fail
    refine (HCX.out _).mono ?_
    rintro e w8 ⟨rfl, hb8⟩
    have hc8 := zcQ hc7 hb8
    clear hb8 hc7 HCX ha1 ha2
    by_cases h2 : e2 = 0
    ·have HXE : Hid (x = zbK t2.data.toList) := by have := (hxi h2).1; injection this
     subst h2
     have hbl := z2N n a1.data.toList a0.data.toList HNM.out HLO.out
     rw [← HT2.out, ← HXE.out] at hbl
     have HB1 : Hid (∀ W, Calls Tryz.prog 15 #[.string ⟨x.toArray⟩, .string nb] W (zcT W true)) := fun W => by
      have := zjO ⟨x.toArray⟩ nb W (by rw [zaH]; omega) (by omega)
      rwa [zaJ, HNL.out, hbl.1] at this
     have HB2 : Hid (∀ W, Calls Tryz.prog 15 #[.string nb, .string ⟨x.toArray⟩] W (zcT W false)) := fun W => by
      have := zjO nb ⟨x.toArray⟩ W (by omega) (by rw [zaH]; omega)
      rwa [zaJ, HNL.out, hbl.2] at this
     clear hxi hbl
     cases he : a1.toList.isEmpty with
     | true =>
      go_wp2
      go_ret
      exact ⟨rfl, hc8⟩
     | false =>
      go_wp2_with fail
      refine (HB1.out _).mono ?_
      rintro e w9 ⟨rfl, hb9⟩
      have hc9 := zcQ hc8 hb9
      clear hb9 hc8
      go_wp2_with fail
      refine (HB2.out _).mono ?_
      rintro e w10 ⟨rfl, hb10⟩
      go_wp2
      go_ret
      exact ⟨rfl, zcQ hc9 hb10⟩
    ·have hd : (e2 != (0 : Int)) = true := by rw [bne_iff_ne]; exact h2
     clear hxi h2
     go_wp2
     go_ret
     exact ⟨rfl, hc8⟩
 ·have hn : n = [] := hno h0
  subst hn
  have HRI : Hid (∀ W, Calls Tryz.prog 13 #[.string a0] W (zcT W false)) := fun W => by
   have := zjN a0 W (by omega)
   rwa [hri, decide_eq_false h0, Bool.false_and] at this
  have hd : (er != (0 : Int)) = true := by rw [bne_iff_ne]; exact h0
  clear hnm hno his hri h0
  go_wp2_with fail
  refine (HRI.out _).mono ?_
  rintro e w3 ⟨rfl, hb3⟩
  go_wp2
  go_ret
  exact ⟨rfl, zcQ hc2 hb3⟩
end

end Go.Proofs.YtphapecoimlngaaGreatDoor
