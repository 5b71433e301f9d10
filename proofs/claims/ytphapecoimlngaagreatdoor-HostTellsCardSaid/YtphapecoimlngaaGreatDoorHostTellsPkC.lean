/-
  What the law HostTells leans on, and its walk (3 of 18).
-/
import Derived.Laws.BitsLemmas
import Derived.Lib.ItoaNum
import Derived.Test.YtphapecoimlngaaGreatDoorHostTellsPkS
import Derived.Lib.AppendIntMem
import Derived.Lib.SmallJoins
import Derived.Test.YtphapecoimlngaaGreatDoorHostTellsPkB
import Derived.Test.YtphapecoimlngaaGreatDoorHostTellsPkA
namespace Go.Proofs.YtphapecoimlngaaGreatDoor
set_option maxRecDepth 100000
set_option maxHeartbeats 16000000
section
section
open Go.RowKit
def limZ (n i : Nat) : Int := if i + 1 = n then 256 ^ (5 - n) else 256
def wtZ (n i : Nat) : Int := if i + 1 = n then 1 else 256 ^ (3 - i)
def goF (n : Nat) : Nat → Int → List (List UInt8) → Int × Bool
 | _, A, [] => (A, true)
 | i, A, p :: r => if (zbP p).2 = true ∧ (zbP p).1 < limZ n i then goF n (i + 1) (A + (zbP p).1 * wtZ n i) r else (0, false)
/-- how many parts count -/
def zgE (ps : List (List UInt8)) : Nat := if 1 < ps.length ∧ ps.getD (ps.length - 1) [] = [] then ps.length - 1 else ps.length
def z9W (ps : List (List UInt8)) : Int × Bool := if 4 < zgE ps then (0, false) else goF (zgE ps) 0 0 (ps.take (zgE ps))
def zeJ (l : List UInt8) : Int × Bool := z9W (zaE l)
theorem zvT (b : Int) (hb : 0 ≤ b) (l : List UInt8) (hd : zbL b l = true) : 0 ≤ numZ b l ∧ numZ b l ≤ 1099511627776 := by
 have key : ∀ (l : List UInt8) (n : Int), 0 ≤ n → n ≤ 1099511627776 → zbL b l = true → 0 ≤ l.foldl (zvR b) n ∧ l.foldl (zvR b) n ≤ 1099511627776 := by
  intro l
  induction l with
  | nil => intro n h0 h1 _; exact ⟨h0, h1⟩
  | cons c l ih =>
   intro n h0 h1 hd
   have h2 : digC b c = true ∧ zbL b l = true := by simpa [zbL] using hd
   have h3 := of_decide_eq_true h2.1
   have hp : 0 ≤ n * b := Int.mul_nonneg h0 hb
   refine ih _ ?_ (ybW _) h2.2
   unfold zvR capZ
   split <;> omega
 exact key l 0 (Int.le_refl _) (by omega) hd
theorem zbN (l : List UInt8) : 0 ≤ (zbP l).1 ∧ (zbP l).1 ≤ 1099511627776 := by
 unfold zbP
 split
 ·exact ⟨Int.le_refl _, by show (0 : Int) ≤ _; omega⟩
 ·split
  ·have hb := zoV l
   exact zvT _ (by omega) _ (by assumption)
  ·exact ⟨Int.le_refl _, by show (0 : Int) ≤ _; omega⟩
theorem zwD (n k : Nat) (A : Int) (ps : List (List UInt8)) (h : n ≤ k) : goF n k A ((ps.take n).drop k) = (A, true) := by
 rw [List.drop_eq_nil_of_le (by simp; omega)]
 rfl
theorem zrK (n k : Nat) (ps : List (List UInt8)) (h : k < n) (hn : n ≤ ps.length) : (ps.take n).drop k = ps.getD k [] :: (ps.take n).drop (k + 1) := by
 rw [List.drop_eq_getElem_cons (by simp; omega)]
 congr 1
 rw [List.getElem_take, List.getD, List.getElem?_eq_getElem (by omega)]
 rfl
theorem zdV (n k : Nat) (A : Int) (ps : List (List UInt8)) (p : List UInt8) (x : Int) (h : k < n) (hn : n ≤ ps.length) (hp : ps.getD k [] = p) (hx : zbP p = (x, true)) (hl : x < limZ n k) :
  goF n k A ((ps.take n).drop k) = goF n (k + 1) (A + x * wtZ n k) ((ps.take n).drop (k + 1)) := by
 rw [zrK n k ps h hn, hp]
 show (if _ then _ else _) = _
 rw [hx, if_pos ⟨rfl, hl⟩]
theorem zfR (n k : Nat) (A : Int) (ps : List (List UInt8)) (p : List UInt8) (x : Int) (b : Bool) (h : k < n) (hn : n ≤ ps.length) (hp : ps.getD k [] = p) (hx : zbP p = (x, b)) (hl : b = false ∨ limZ n k ≤ x) :
  goF n k A ((ps.take n).drop k) = (0, false) := by
 rw [zrK n k ps h hn, hp]
 show (if _ then _ else _) = _
 rw [hx, if_neg]
 rintro ⟨h1, h2⟩
 rcases hl with h3 | h3
 ·rw [h3] at h1; cases h1
 ·exact absurd h2 (by show ¬ x < _; omega)
theorem zdU (n : Nat) (ps : List (List UInt8)) (h : ps.length = n + 1) (hc : n = 0 ∨ ps.getD n [] ≠ []) : zgE ps = n + 1 := by
 unfold zgE
 rw [h, Nat.add_sub_cancel, if_neg]
 rintro ⟨h1, h2⟩
 rcases hc with h3 | h3
 ·omega
 ·exact h3 h2
theorem zhM (n : Nat) (ps : List (List UInt8)) (h : ps.length = n + 2) (hx : ps.getD (n + 1) [] = []) : zgE ps = n + 1 := by
 unfold zgE
 rw [h, show n + 2 - 1 = n + 1 from rfl, hx, if_pos ⟨by omega, rfl⟩]
theorem zpQ {l : List UInt8} {n : Nat} (hk : zgE (zaE l) = n) (h : n ≤ 4) : zeJ l = goF n 0 0 (((zaE l).take n).drop 0) := by
 unfold zeJ z9W
 rw [hk, if_neg (by omega)]
 rfl
theorem zoK {l : List UInt8} {n : Nat} (hk : zgE (zaE l) = n) (h : 4 < n) : zeJ l = (0, false) := by
 unfold zeJ z9W
 rw [hk, if_pos h]
theorem zcI (i : Nat) (x y : Int) (hx0 : 0 ≤ x) (hx : x % 2 ^ i = 0) (hx1 : x < 4294967296) (hy0 : 0 ≤ y) (hy : y < 2 ^ i) (hy1 : y < 4294967296) : bits .or .u32 x y = x + y :=
 bits_join .u32 32 (by decide) (fun n h0 h1 => by rw [IntKind.wrap_u32]; omega) i x y hx0 hx hx1 hy0 hy hy1
theorem zbZ.form2 {B : Nat} {w : World} {v : Value} {ps : List (List UInt8)} (h : zbZ B w v ps) (hn : 0 < ps.length) :
  ∃ g cap, v = .slice (some ⟨g, 0, none⟩) ps.length cap ∧ ps.length ≤ cap ∧ g < w.heap.size ∧ ∀ j, j < ps.length → w.cell? ⟨g, j, none⟩ = some (.string ⟨(ps.getD j []).toArray⟩) := by
 obtain ⟨g, c, rfl, hg, hc⟩ := h.form hn
 refine ⟨g, c, rfl, ?_, hg, hc⟩
 unfold zbZ at h
 rcases h.2 with ⟨h0, _⟩ | ⟨g', cap, cur, hv, _, _, hle, _⟩
 ·cases h0
 ·cases hv; exact hle
def zhL (w : World) (x : Int × Bool) (e : Ending) (w' : World) : Prop := e = .returned (.tuple #[.int .u32 x.1, .bool x.2]) ∧ Below w.heap.size w w'
theorem zaP {w w' : World} {x : Int × Bool} {n : Int} {b : Bool} (h : x = (n, b)) (hb : Below w.heap.size w w') : zhL w x (.returned (.tuple #[.int .u32 n, .bool b])) w' := by
 subst h; exact ⟨rfl, hb⟩
end
section
open Go.RowKit
theorem z1S (s : ByteArray) (w : World) (hs : s.size ≤ 1073741824) (hl : (zaE s.data.toList).length = 1) :
  Calls Tryz.prog 56 #[.string s] w (zhL w (zeJ s.data.toList)) := by
 have HK := Lib.hid (zdU 0 _ hl (.inl rfl))
 have HL := Lib.hid hl
 clear hl
 have HZ := Lib.hid (zpQ HK.out (by omega))
 go_enter Tryz.func56, Tryz.ntmps56
 go_wp2_with fail
 refine (zcX s _ _ hs).mono ?_
 rintro e w1 ⟨v, rfl, hp, hb1⟩
 have hp' : zbZ w.heap.size w1 v (zaE s.data.toList) := hp
 obtain ⟨g, cap, rfl, hcap, hg, hcell⟩ := hp'.form2 (by rw [HL.out]; omega)
 rw [HL.out] at hcap hcell ⊢
 have HCELL := Lib.hid hcell
 clear hp hp' hcell
 go_wp2
 go_loopw [6, 36] (fun v i wr => ∃ (k : Nat) (A : Int), k ≤ 1 ∧ i = .int .i64 k ∧ v = .int .u32 A ∧ 0 ≤ A ∧ A < 4294967296 ∧ Hid (k ≤ 0 → A % 2 ^ (32 - 8 * k) = 0) ∧ Hid (goF 1 k A (((zaE s.data.toList).take 1).drop k) = zeJ s.data.toList) ∧ Below w1.heap.size w1 wr) (fun _ i _ => 1 - (intOf i).toNat)
 case atStart => exact ⟨0, 0, by omega, rfl, rfl, by omega, by omega, fun _ => rfl, HZ.out.symm, Below.refl _ _⟩
 case round =>
  obtain ⟨k, A, hk, rfl, rfl, hA0, hA1, HM, HG, hbw⟩ := hrel
  by_cases hkL : k ≤ 0
  ·obtain ⟨p, hpk⟩ : ∃ p, (zaE s.data.toList).getD k [] = p := ⟨_, rfl⟩
   by_cases hLk : k = 0
   ·obtain rfl : k = 0 := by omega
    have hp : (zaE s.data.toList).getD 0 [] = p := hpk
    have hcx := HCELL.out 0 (by omega)
    rw [hp] at hcx
    have hcx2 : wr.cell? ⟨g, 0, none⟩ = some (.string ⟨p.toArray⟩) := (hbw.cell (p := ⟨g, 0, none⟩) hg).trans hcx
    obtain ⟨x, b, hpz⟩ : ∃ x b, zbP p = (x, b) := ⟨_, _, rfl⟩
    have hx0 : 0 ≤ x ∧ x ≤ 1099511627776 := by have h9 := zbN p; rw [hpz] at h9; exact h9
    obtain ⟨hx0, hx1⟩ := hx0
    have hpl : p.length ≤ s.size := by rw [← hp, ← zaJ]; exact zbY _ _ _
    have hlim : limZ 1 0 = 4294967296 := by first | rfl | (subst hLk; rfl)
    have hwt : wtZ 1 0 = 1 := by first | rfl | (subst hLk; rfl)
    have hA : A % 2 ^ 32 = 0 := HM.out (by omega)
    have HP := Lib.hid hp
    have HPZ := Lib.hid hpz
    have HLIM := Lib.hid hlim
    have HWT := Lib.hid hwt
    have hLk1 : 0 ≤ 0 := by omega
    clear hp hpz hlim hwt hcx hpk hLk
    try rw [show ((0 : Nat) : Int) = 0 from rfl]
    by_cases hok : b = true ∧ x < 4294967296
    ·obtain ⟨rfl, hxl⟩ := hok
     have hor : bits .or .u32 A x = A + x := zcI 32 A _ hA0 hA hA1 (by omega) (by omega) (by omega)
     have hgo := HG.out
     rw [zdV 1 0 A _ p x (by omega) (by rw [HL.out]; omega) HP.out HPZ.out (by rw [HLIM.out]; exact hxl), HWT.out] at hgo
     have HG2 := Lib.hid hgo
     have HA := Lib.hid hA
     clear hgo hA
     go_wp2_with fail
     refine (zaL ⟨p.toArray⟩ _ (by rw [zaD]; omega)).mono ?_
     rw [zaG, HPZ.out]
     rintro e w2 ⟨rfl, hb2⟩
     have hc2 : Below w1.heap.size w1 w2 := hbw.trans (hb2.mono hbw.size)
     clear hb2

     go_wp2
     go_roundw
     case rel =>
      refine ⟨1, A + x, by omega, (by first | rfl | go_num), rfl, by omega, ?_, ?_, ?_, hc2⟩
      ·have := HA.out; omega
      ·exact Lib.hid (fun h => by omega)
      ·rw [Int.mul_one] at HG2; exact HG2
     case measure => first | (simp [intOf]; done) | (simp [intOf]; omega)
    ·have HN := Lib.hid (HG.out.symm.trans (zfR 1 0 A _ p x b (by omega) (by rw [HL.out]; omega) HP.out HPZ.out (by rw [HLIM.out]; cases b with | false => exact .inl rfl | true => exact .inr (by have h8 : ¬ x < 4294967296 := fun h => hok ⟨rfl, h⟩; omega))))
     have HOK := Lib.hid hok
     clear hok
     cases b with
     | false =>
      go_wp2_with fail
      refine (zaL ⟨p.toArray⟩ _ (by rw [zaD]; omega)).mono ?_
      rw [zaG, HPZ.out]
      rintro e w2 ⟨rfl, hb2⟩
      have hc2 : Below w1.heap.size w1 w2 := hbw.trans (hb2.mono hbw.size)
      clear hb2

      go_wp2
      go_ret2
      exact zaP HN.out (hb1.trans (hc2.mono hb1.size))
     | true =>
      have hxl : 4294967296 ≤ x := by have h8 : ¬ x < 4294967296 := fun h => HOK.out ⟨rfl, h⟩; omega
      go_wp2_with fail
      refine (zaL ⟨p.toArray⟩ _ (by rw [zaD]; omega)).mono ?_
      rw [zaG, HPZ.out]
      rintro e w2 ⟨rfl, hb2⟩
      have hc2 : Below w1.heap.size w1 w2 := hbw.trans (hb2.mono hbw.size)
      clear hb2

      go_wp2
      go_ret2
      exact zaP HN.out (hb1.trans (hc2.mono hb1.size))
   ·omega
  ·obtain rfl : k = 1 := by omega
   have hfin := HG.out
   rw [zwD 1 1 A _ (Nat.le_refl _)] at hfin
   have HF := Lib.hid hfin.symm
   clear hfin
   go_wp2
   go_ret2
   exact zaP HF.out (hb1.trans (hbw.mono hb1.size))
theorem zuJ (s : ByteArray) (w : World) (hs : s.size ≤ 1073741824) (L : Nat) (hL0 : 1 ≤ L) (hl : (zaE s.data.toList).length = L + 1) (x : List UInt8) (hx : (zaE s.data.toList).getD L [] = x) (hne : x ≠ []) (hL3 : L ≤ 3) :
  Calls Tryz.prog 56 #[.string s] w (zhL w (zeJ s.data.toList)) := by
 have HK := Lib.hid (zdU L _ hl (.inr (by rw [hx]; exact hne)))
 have HX := Lib.hid hx
 have hxe : x.isEmpty = false := zcD hne
 clear hx hne
 have HL := Lib.hid hl
 clear hl
 have HZ := Lib.hid (zpQ HK.out (by omega))
 go_enter Tryz.func56, Tryz.ntmps56
 go_wp2_with fail
 refine (zcX s _ _ hs).mono ?_
 rintro e w1 ⟨v, rfl, hp, hb1⟩
 have hp' : zbZ w.heap.size w1 v (zaE s.data.toList) := hp
 obtain ⟨g, cap, rfl, hcap, hg, hcell⟩ := hp'.form2 (by rw [HL.out]; omega)
 rw [HL.out] at hcap hcell ⊢
 have hcy := hcell L (by omega)
 rw [HX.out] at hcy
 have HCELL := Lib.hid hcell
 clear hp hp' hcell
 go_wp2
 go_loopw [6, 36] (fun v i wr => ∃ (k : Nat) (A : Int), k ≤ L + 1 ∧ i = .int .i64 k ∧ v = .int .u32 A ∧ 0 ≤ A ∧ A < 4294967296 ∧ Hid (k ≤ L → A % 2 ^ (32 - 8 * k) = 0) ∧ Hid (goF (L + 1) k A (((zaE s.data.toList).take (L + 1)).drop k) = zeJ s.data.toList) ∧ Below w1.heap.size w1 wr) (fun _ i _ => L + 1 - (intOf i).toNat)
 case atStart => exact ⟨0, 0, by omega, rfl, rfl, by omega, by omega, fun _ => rfl, HZ.out.symm, Below.refl _ _⟩
 case round =>
  obtain ⟨k, A, hk, rfl, rfl, hA0, hA1, HM, HG, hbw⟩ := hrel
  by_cases hkL : k ≤ L
  ·obtain ⟨p, hpk⟩ : ∃ p, (zaE s.data.toList).getD k [] = p := ⟨_, rfl⟩
   by_cases hLk : k = L
   ·rcases (show k = 0 ∨ k = 1 ∨ k = 2 ∨ k = 3 from by omega) with rfl | rfl | rfl | rfl
    ·omega
    ·have hp : (zaE s.data.toList).getD 1 [] = p := hpk
     have hcx := HCELL.out 1 (by omega)
     rw [hp] at hcx
     have hcx2 : wr.cell? ⟨g, 1, none⟩ = some (.string ⟨p.toArray⟩) := (hbw.cell (p := ⟨g, 1, none⟩) hg).trans hcx
     obtain ⟨x, b, hpz⟩ : ∃ x b, zbP p = (x, b) := ⟨_, _, rfl⟩
     have hx0 : 0 ≤ x ∧ x ≤ 1099511627776 := by have h9 := zbN p; rw [hpz] at h9; exact h9
     obtain ⟨hx0, hx1⟩ := hx0
     have hpl : p.length ≤ s.size := by rw [← hp, ← zaJ]; exact zbY _ _ _
     have hlim : limZ (L + 1) 1 = 16777216 := by first | rfl | (subst hLk; rfl)
     have hwt : wtZ (L + 1) 1 = 1 := by first | rfl | (subst hLk; rfl)
     have hA : A % 2 ^ 24 = 0 := HM.out (by omega)
     have HP := Lib.hid hp
     have HPZ := Lib.hid hpz
     have HLIM := Lib.hid hlim
     have HWT := Lib.hid hwt
     have hLk1 : L ≤ 1 := by omega
     clear hp hpz hlim hwt hcx hpk hLk
     try rw [show ((1 : Nat) : Int) = 1 from rfl]
     by_cases hok : b = true ∧ x < 16777216
     ·obtain ⟨rfl, hxl⟩ := hok
      have hor : bits .or .u32 A x = A + x := zcI 24 A _ hA0 hA hA1 (by omega) (by omega) (by omega)
      have hgo := HG.out
      rw [zdV (L + 1) 1 A _ p x (by omega) (by rw [HL.out]; omega) HP.out HPZ.out (by rw [HLIM.out]; exact hxl), HWT.out] at hgo
      have HG2 := Lib.hid hgo
      have HA := Lib.hid hA
      clear hgo hA
      go_wp2_with fail
      refine (zaL ⟨p.toArray⟩ _ (by rw [zaD]; omega)).mono ?_
      rw [zaG, HPZ.out]
      rintro e w2 ⟨rfl, hb2⟩
      have hc2 : Below w1.heap.size w1 w2 := hbw.trans (hb2.mono hbw.size)
      clear hb2

      go_wp2
      go_roundw
      case rel =>
       refine ⟨2, A + x, by omega, (by first | rfl | go_num), rfl, by omega, ?_, ?_, ?_, hc2⟩
       ·have := HA.out; omega
       ·exact Lib.hid (fun h => by omega)
       ·rw [Int.mul_one] at HG2; exact HG2
      case measure => first | (simp [intOf]; done) | (simp [intOf]; omega)
     ·have HN := Lib.hid (HG.out.symm.trans (zfR (L + 1) 1 A _ p x b (by omega) (by rw [HL.out]; omega) HP.out HPZ.out (by rw [HLIM.out]; cases b with | false => exact .inl rfl | true => exact .inr (by have h8 : ¬ x < 16777216 := fun h => hok ⟨rfl, h⟩; omega))))
      have HOK := Lib.hid hok
      clear hok
      cases b with
      | false =>
       go_wp2_with fail
       refine (zaL ⟨p.toArray⟩ _ (by rw [zaD]; omega)).mono ?_
       rw [zaG, HPZ.out]
       rintro e w2 ⟨rfl, hb2⟩
       have hc2 : Below w1.heap.size w1 w2 := hbw.trans (hb2.mono hbw.size)
       clear hb2

       go_wp2
       go_ret2
       exact zaP HN.out (hb1.trans (hc2.mono hb1.size))
      | true =>
       have hxl : 16777216 ≤ x := by have h8 : ¬ x < 16777216 := fun h => HOK.out ⟨rfl, h⟩; omega
       go_wp2_with fail
       refine (zaL ⟨p.toArray⟩ _ (by rw [zaD]; omega)).mono ?_
       rw [zaG, HPZ.out]
       rintro e w2 ⟨rfl, hb2⟩
       have hc2 : Below w1.heap.size w1 w2 := hbw.trans (hb2.mono hbw.size)
       clear hb2

       go_wp2
       go_ret2
       exact zaP HN.out (hb1.trans (hc2.mono hb1.size))
    ·have hp : (zaE s.data.toList).getD 2 [] = p := hpk
     have hcx := HCELL.out 2 (by omega)
     rw [hp] at hcx
     have hcx2 : wr.cell? ⟨g, 2, none⟩ = some (.string ⟨p.toArray⟩) := (hbw.cell (p := ⟨g, 2, none⟩) hg).trans hcx
     obtain ⟨x, b, hpz⟩ : ∃ x b, zbP p = (x, b) := ⟨_, _, rfl⟩
     have hx0 : 0 ≤ x ∧ x ≤ 1099511627776 := by have h9 := zbN p; rw [hpz] at h9; exact h9
     obtain ⟨hx0, hx1⟩ := hx0
     have hpl : p.length ≤ s.size := by rw [← hp, ← zaJ]; exact zbY _ _ _
     have hlim : limZ (L + 1) 2 = 65536 := by first | rfl | (subst hLk; rfl)
     have hwt : wtZ (L + 1) 2 = 1 := by first | rfl | (subst hLk; rfl)
     have hA : A % 2 ^ 16 = 0 := HM.out (by omega)
     have HP := Lib.hid hp
     have HPZ := Lib.hid hpz
     have HLIM := Lib.hid hlim
     have HWT := Lib.hid hwt
     have hLk1 : L ≤ 2 := by omega
     clear hp hpz hlim hwt hcx hpk hLk
     try rw [show ((2 : Nat) : Int) = 2 from rfl]
     by_cases hok : b = true ∧ x < 65536
     ·obtain ⟨rfl, hxl⟩ := hok
      have hor : bits .or .u32 A x = A + x := zcI 16 A _ hA0 hA hA1 (by omega) (by omega) (by omega)
      have hgo := HG.out
      rw [zdV (L + 1) 2 A _ p x (by omega) (by rw [HL.out]; omega) HP.out HPZ.out (by rw [HLIM.out]; exact hxl), HWT.out] at hgo
      have HG2 := Lib.hid hgo
      have HA := Lib.hid hA
      clear hgo hA
      go_wp2_with fail
      refine (zaL ⟨p.toArray⟩ _ (by rw [zaD]; omega)).mono ?_
      rw [zaG, HPZ.out]
      rintro e w2 ⟨rfl, hb2⟩
      have hc2 : Below w1.heap.size w1 w2 := hbw.trans (hb2.mono hbw.size)
      clear hb2

      go_wp2
      go_roundw
      case rel =>
       refine ⟨3, A + x, by omega, (by first | rfl | go_num), rfl, by omega, ?_, ?_, ?_, hc2⟩
       ·have := HA.out; omega
       ·exact Lib.hid (fun h => by omega)
       ·rw [Int.mul_one] at HG2; exact HG2
      case measure => first | (simp [intOf]; done) | (simp [intOf]; omega)
     ·have HN := Lib.hid (HG.out.symm.trans (zfR (L + 1) 2 A _ p x b (by omega) (by rw [HL.out]; omega) HP.out HPZ.out (by rw [HLIM.out]; cases b with | false => exact .inl rfl | true => exact .inr (by have h8 : ¬ x < 65536 := fun h => hok ⟨rfl, h⟩; omega))))
      have HOK := Lib.hid hok
      clear hok
      cases b with
      | false =>
       go_wp2_with fail
       refine (zaL ⟨p.toArray⟩ _ (by rw [zaD]; omega)).mono ?_
       rw [zaG, HPZ.out]
       rintro e w2 ⟨rfl, hb2⟩
       have hc2 : Below w1.heap.size w1 w2 := hbw.trans (hb2.mono hbw.size)
       clear hb2

       go_wp2
       go_ret2
       exact zaP HN.out (hb1.trans (hc2.mono hb1.size))
      | true =>
       have hxl : 65536 ≤ x := by have h8 : ¬ x < 65536 := fun h => HOK.out ⟨rfl, h⟩; omega
       go_wp2_with fail
       refine (zaL ⟨p.toArray⟩ _ (by rw [zaD]; omega)).mono ?_
       rw [zaG, HPZ.out]
       rintro e w2 ⟨rfl, hb2⟩
       have hc2 : Below w1.heap.size w1 w2 := hbw.trans (hb2.mono hbw.size)
       clear hb2

       go_wp2
       go_ret2
       exact zaP HN.out (hb1.trans (hc2.mono hb1.size))
    ·have hp : (zaE s.data.toList).getD 3 [] = p := hpk
     have hcx := HCELL.out 3 (by omega)
     rw [hp] at hcx
     have hcx2 : wr.cell? ⟨g, 3, none⟩ = some (.string ⟨p.toArray⟩) := (hbw.cell (p := ⟨g, 3, none⟩) hg).trans hcx
     obtain ⟨x, b, hpz⟩ : ∃ x b, zbP p = (x, b) := ⟨_, _, rfl⟩
     have hx0 : 0 ≤ x ∧ x ≤ 1099511627776 := by have h9 := zbN p; rw [hpz] at h9; exact h9
     obtain ⟨hx0, hx1⟩ := hx0
     have hpl : p.length ≤ s.size := by rw [← hp, ← zaJ]; exact zbY _ _ _
     have hlim : limZ (L + 1) 3 = 256 := by first | rfl | (subst hLk; rfl)
     have hwt : wtZ (L + 1) 3 = 1 := by first | rfl | (subst hLk; rfl)
     have hA : A % 2 ^ 8 = 0 := HM.out (by omega)
     have HP := Lib.hid hp
     have HPZ := Lib.hid hpz
     have HLIM := Lib.hid hlim
     have HWT := Lib.hid hwt
     have hLk1 : L ≤ 3 := by omega
     clear hp hpz hlim hwt hcx hpk hLk
     try rw [show ((3 : Nat) : Int) = 3 from rfl]
     by_cases hok : b = true ∧ x < 256
     ·obtain ⟨rfl, hxl⟩ := hok
      have hor : bits .or .u32 A x = A + x := zcI 8 A _ hA0 hA hA1 (by omega) (by omega) (by omega)
      have hgo := HG.out
      rw [zdV (L + 1) 3 A _ p x (by omega) (by rw [HL.out]; omega) HP.out HPZ.out (by rw [HLIM.out]; exact hxl), HWT.out] at hgo
      have HG2 := Lib.hid hgo
      have HA := Lib.hid hA
      clear hgo hA
      go_wp2_with fail
      refine (zaL ⟨p.toArray⟩ _ (by rw [zaD]; omega)).mono ?_
      rw [zaG, HPZ.out]
      rintro e w2 ⟨rfl, hb2⟩
      have hc2 : Below w1.heap.size w1 w2 := hbw.trans (hb2.mono hbw.size)
      clear hb2

      go_wp2
      go_roundw
      case rel =>
       refine ⟨4, A + x, by omega, (by first | rfl | go_num), rfl, by omega, ?_, ?_, ?_, hc2⟩
       ·have := HA.out; omega
       ·exact Lib.hid (fun h => by omega)
       ·rw [Int.mul_one] at HG2; exact HG2
      case measure => first | (simp [intOf]; done) | (simp [intOf]; omega)
     ·have HN := Lib.hid (HG.out.symm.trans (zfR (L + 1) 3 A _ p x b (by omega) (by rw [HL.out]; omega) HP.out HPZ.out (by rw [HLIM.out]; cases b with | false => exact .inl rfl | true => exact .inr (by have h8 : ¬ x < 256 := fun h => hok ⟨rfl, h⟩; omega))))
      have HOK := Lib.hid hok
      clear hok
      cases b with
      | false =>
       go_wp2_with fail
       refine (zaL ⟨p.toArray⟩ _ (by rw [zaD]; omega)).mono ?_
       rw [zaG, HPZ.out]
       rintro e w2 ⟨rfl, hb2⟩
       have hc2 : Below w1.heap.size w1 w2 := hbw.trans (hb2.mono hbw.size)
       clear hb2

       go_wp2
       go_ret2
       exact zaP HN.out (hb1.trans (hc2.mono hb1.size))
      | true =>
       have hxl : 256 ≤ x := by have h8 : ¬ x < 256 := fun h => HOK.out ⟨rfl, h⟩; omega
       go_wp2_with fail
       refine (zaL ⟨p.toArray⟩ _ (by rw [zaD]; omega)).mono ?_
       rw [zaG, HPZ.out]
       rintro e w2 ⟨rfl, hb2⟩
       have hc2 : Below w1.heap.size w1 w2 := hbw.trans (hb2.mono hbw.size)
       clear hb2

       go_wp2
       go_ret2
       exact zaP HN.out (hb1.trans (hc2.mono hb1.size))
   ·rcases (show k = 0 ∨ k = 1 ∨ k = 2 from by omega) with rfl | rfl | rfl
    ·have hp : (zaE s.data.toList).getD 0 [] = p := hpk
     have hcx := HCELL.out 0 (by omega)
     rw [hp] at hcx
     have hcx2 : wr.cell? ⟨g, 0, none⟩ = some (.string ⟨p.toArray⟩) := (hbw.cell (p := ⟨g, 0, none⟩) hg).trans hcx
     obtain ⟨x, b, hpz⟩ : ∃ x b, zbP p = (x, b) := ⟨_, _, rfl⟩
     have hx0 : 0 ≤ x ∧ x ≤ 1099511627776 := by have h9 := zbN p; rw [hpz] at h9; exact h9
     obtain ⟨hx0, hx1⟩ := hx0
     have hpl : p.length ≤ s.size := by rw [← hp, ← zaJ]; exact zbY _ _ _
     have hlim : limZ (L + 1) 0 = 256 := by unfold limZ; rw [if_neg (by omega)]
     have hwt : wtZ (L + 1) 0 = 16777216 := by unfold wtZ; rw [if_neg (by omega)]; rfl
     have hA : A % 2 ^ 32 = 0 := HM.out (by omega)
     have HP := Lib.hid hp
     have HPZ := Lib.hid hpz
     have HLIM := Lib.hid hlim
     have HWT := Lib.hid hwt
     have hLk1 : 1 ≤ L := by omega
     clear hp hpz hlim hwt hcx hpk hLk
     try rw [show ((0 : Nat) : Int) = 0 from rfl]
     by_cases hok : b = true ∧ x < 256
     ·obtain ⟨rfl, hxl⟩ := hok
      have hor : bits .or .u32 A (x * 16777216) = A + x * 16777216 := zcI 32 A _ hA0 hA hA1 (by omega) (by omega) (by omega)
      have hgo := HG.out
      rw [zdV (L + 1) 0 A _ p x (by omega) (by rw [HL.out]; omega) HP.out HPZ.out (by rw [HLIM.out]; exact hxl), HWT.out] at hgo
      have HG2 := Lib.hid hgo
      have HA := Lib.hid hA
      clear hgo hA
      go_wp2_with fail
      refine (zaL ⟨p.toArray⟩ _ (by rw [zaD]; omega)).mono ?_
      rw [zaG, HPZ.out]
      rintro e w2 ⟨rfl, hb2⟩
      have hc2 : Below w1.heap.size w1 w2 := hbw.trans (hb2.mono hbw.size)
      clear hb2

      go_wp2
      go_roundw
      case rel =>
       refine ⟨1, A + x * 16777216, by omega, (by first | rfl | go_num), rfl, by omega, ?_, ?_, ?_, hc2⟩
       ·have := HA.out; omega
       ·refine Lib.hid (fun _ => ?_); have := HA.out; omega
       ·exact HG2
      case measure => first | (simp [intOf]; done) | (simp [intOf]; omega)
     ·have HN := Lib.hid (HG.out.symm.trans (zfR (L + 1) 0 A _ p x b (by omega) (by rw [HL.out]; omega) HP.out HPZ.out (by rw [HLIM.out]; cases b with | false => exact .inl rfl | true => exact .inr (by have h8 : ¬ x < 256 := fun h => hok ⟨rfl, h⟩; omega))))
      have HOK := Lib.hid hok
      clear hok
      cases b with
      | false =>
       go_wp2_with fail
       refine (zaL ⟨p.toArray⟩ _ (by rw [zaD]; omega)).mono ?_
       rw [zaG, HPZ.out]
       rintro e w2 ⟨rfl, hb2⟩
       have hc2 : Below w1.heap.size w1 w2 := hbw.trans (hb2.mono hbw.size)
       clear hb2

       go_wp2
       go_ret2
       exact zaP HN.out (hb1.trans (hc2.mono hb1.size))
      | true =>
       have hxl : 256 ≤ x := by have h8 : ¬ x < 256 := fun h => HOK.out ⟨rfl, h⟩; omega
       go_wp2_with fail
       refine (zaL ⟨p.toArray⟩ _ (by rw [zaD]; omega)).mono ?_
       rw [zaG, HPZ.out]
       rintro e w2 ⟨rfl, hb2⟩
       have hc2 : Below w1.heap.size w1 w2 := hbw.trans (hb2.mono hbw.size)
       clear hb2

       go_wp2
       go_ret2
       exact zaP HN.out (hb1.trans (hc2.mono hb1.size))
    ·have hp : (zaE s.data.toList).getD 1 [] = p := hpk
     have hcx := HCELL.out 1 (by omega)
     rw [hp] at hcx
     have hcx2 : wr.cell? ⟨g, 1, none⟩ = some (.string ⟨p.toArray⟩) := (hbw.cell (p := ⟨g, 1, none⟩) hg).trans hcx
     obtain ⟨x, b, hpz⟩ : ∃ x b, zbP p = (x, b) := ⟨_, _, rfl⟩
     have hx0 : 0 ≤ x ∧ x ≤ 1099511627776 := by have h9 := zbN p; rw [hpz] at h9; exact h9
     obtain ⟨hx0, hx1⟩ := hx0
     have hpl : p.length ≤ s.size := by rw [← hp, ← zaJ]; exact zbY _ _ _
     have hlim : limZ (L + 1) 1 = 256 := by unfold limZ; rw [if_neg (by omega)]
     have hwt : wtZ (L + 1) 1 = 65536 := by unfold wtZ; rw [if_neg (by omega)]; rfl
     have hA : A % 2 ^ 24 = 0 := HM.out (by omega)
     have HP := Lib.hid hp
     have HPZ := Lib.hid hpz
     have HLIM := Lib.hid hlim
     have HWT := Lib.hid hwt
     have hLk1 : 2 ≤ L := by omega
     clear hp hpz hlim hwt hcx hpk hLk
     try rw [show ((1 : Nat) : Int) = 1 from rfl]
     by_cases hok : b = true ∧ x < 256
     ·obtain ⟨rfl, hxl⟩ := hok
      have hor : bits .or .u32 A (x * 65536) = A + x * 65536 := zcI 24 A _ hA0 hA hA1 (by omega) (by omega) (by omega)
      have hgo := HG.out
      rw [zdV (L + 1) 1 A _ p x (by omega) (by rw [HL.out]; omega) HP.out HPZ.out (by rw [HLIM.out]; exact hxl), HWT.out] at hgo
      have HG2 := Lib.hid hgo
      have HA := Lib.hid hA
      clear hgo hA
      go_wp2_with fail
      refine (zaL ⟨p.toArray⟩ _ (by rw [zaD]; omega)).mono ?_
      rw [zaG, HPZ.out]
      rintro e w2 ⟨rfl, hb2⟩
      have hc2 : Below w1.heap.size w1 w2 := hbw.trans (hb2.mono hbw.size)
      clear hb2

      go_wp2
      go_roundw
      case rel =>
       refine ⟨2, A + x * 65536, by omega, (by first | rfl | go_num), rfl, by omega, ?_, ?_, ?_, hc2⟩
       ·have := HA.out; omega
       ·refine Lib.hid (fun _ => ?_); have := HA.out; omega
       ·exact HG2
      case measure => first | (simp [intOf]; done) | (simp [intOf]; omega)
     ·have HN := Lib.hid (HG.out.symm.trans (zfR (L + 1) 1 A _ p x b (by omega) (by rw [HL.out]; omega) HP.out HPZ.out (by rw [HLIM.out]; cases b with | false => exact .inl rfl | true => exact .inr (by have h8 : ¬ x < 256 := fun h => hok ⟨rfl, h⟩; omega))))
      have HOK := Lib.hid hok
      clear hok
      cases b with
      | false =>
       go_wp2_with fail
       refine (zaL ⟨p.toArray⟩ _ (by rw [zaD]; omega)).mono ?_
       rw [zaG, HPZ.out]
       rintro e w2 ⟨rfl, hb2⟩
       have hc2 : Below w1.heap.size w1 w2 := hbw.trans (hb2.mono hbw.size)
       clear hb2

       go_wp2
       go_ret2
       exact zaP HN.out (hb1.trans (hc2.mono hb1.size))
      | true =>
       have hxl : 256 ≤ x := by have h8 : ¬ x < 256 := fun h => HOK.out ⟨rfl, h⟩; omega
       go_wp2_with fail
       refine (zaL ⟨p.toArray⟩ _ (by rw [zaD]; omega)).mono ?_
       rw [zaG, HPZ.out]
       rintro e w2 ⟨rfl, hb2⟩
       have hc2 : Below w1.heap.size w1 w2 := hbw.trans (hb2.mono hbw.size)
       clear hb2

       go_wp2
       go_ret2
       exact zaP HN.out (hb1.trans (hc2.mono hb1.size))
    ·have hp : (zaE s.data.toList).getD 2 [] = p := hpk
     have hcx := HCELL.out 2 (by omega)
     rw [hp] at hcx
     have hcx2 : wr.cell? ⟨g, 2, none⟩ = some (.string ⟨p.toArray⟩) := (hbw.cell (p := ⟨g, 2, none⟩) hg).trans hcx
     obtain ⟨x, b, hpz⟩ : ∃ x b, zbP p = (x, b) := ⟨_, _, rfl⟩
     have hx0 : 0 ≤ x ∧ x ≤ 1099511627776 := by have h9 := zbN p; rw [hpz] at h9; exact h9
     obtain ⟨hx0, hx1⟩ := hx0
     have hpl : p.length ≤ s.size := by rw [← hp, ← zaJ]; exact zbY _ _ _
     have hlim : limZ (L + 1) 2 = 256 := by unfold limZ; rw [if_neg (by omega)]
     have hwt : wtZ (L + 1) 2 = 256 := by unfold wtZ; rw [if_neg (by omega)]; rfl
     have hA : A % 2 ^ 16 = 0 := HM.out (by omega)
     have HP := Lib.hid hp
     have HPZ := Lib.hid hpz
     have HLIM := Lib.hid hlim
     have HWT := Lib.hid hwt
     have hLk1 : 3 ≤ L := by omega
     clear hp hpz hlim hwt hcx hpk hLk
     try rw [show ((2 : Nat) : Int) = 2 from rfl]
     by_cases hok : b = true ∧ x < 256
     ·obtain ⟨rfl, hxl⟩ := hok
      have hor : bits .or .u32 A (x * 256) = A + x * 256 := zcI 16 A _ hA0 hA hA1 (by omega) (by omega) (by omega)
      have hgo := HG.out
      rw [zdV (L + 1) 2 A _ p x (by omega) (by rw [HL.out]; omega) HP.out HPZ.out (by rw [HLIM.out]; exact hxl), HWT.out] at hgo
      have HG2 := Lib.hid hgo
      have HA := Lib.hid hA
      clear hgo hA
      go_wp2_with fail
      refine (zaL ⟨p.toArray⟩ _ (by rw [zaD]; omega)).mono ?_
      rw [zaG, HPZ.out]
      rintro e w2 ⟨rfl, hb2⟩
      have hc2 : Below w1.heap.size w1 w2 := hbw.trans (hb2.mono hbw.size)
      clear hb2

      go_wp2
      go_roundw
      case rel =>
       refine ⟨3, A + x * 256, by omega, (by first | rfl | go_num), rfl, by omega, ?_, ?_, ?_, hc2⟩
       ·have := HA.out; omega
       ·refine Lib.hid (fun _ => ?_); have := HA.out; omega
       ·exact HG2
      case measure => first | (simp [intOf]; done) | (simp [intOf]; omega)
     ·have HN := Lib.hid (HG.out.symm.trans (zfR (L + 1) 2 A _ p x b (by omega) (by rw [HL.out]; omega) HP.out HPZ.out (by rw [HLIM.out]; cases b with | false => exact .inl rfl | true => exact .inr (by have h8 : ¬ x < 256 := fun h => hok ⟨rfl, h⟩; omega))))
      have HOK := Lib.hid hok
      clear hok
      cases b with
      | false =>
       go_wp2_with fail
       refine (zaL ⟨p.toArray⟩ _ (by rw [zaD]; omega)).mono ?_
       rw [zaG, HPZ.out]
       rintro e w2 ⟨rfl, hb2⟩
       have hc2 : Below w1.heap.size w1 w2 := hbw.trans (hb2.mono hbw.size)
       clear hb2

       go_wp2
       go_ret2
       exact zaP HN.out (hb1.trans (hc2.mono hb1.size))
      | true =>
       have hxl : 256 ≤ x := by have h8 : ¬ x < 256 := fun h => HOK.out ⟨rfl, h⟩; omega
       go_wp2_with fail
       refine (zaL ⟨p.toArray⟩ _ (by rw [zaD]; omega)).mono ?_
       rw [zaG, HPZ.out]
       rintro e w2 ⟨rfl, hb2⟩
       have hc2 : Below w1.heap.size w1 w2 := hbw.trans (hb2.mono hbw.size)
       clear hb2

       go_wp2
       go_ret2
       exact zaP HN.out (hb1.trans (hc2.mono hb1.size))
  ·obtain rfl : k = L + 1 := by omega
   have hfin := HG.out
   rw [zwD (L + 1) (L + 1) A _ (Nat.le_refl _)] at hfin
   have HF := Lib.hid hfin.symm
   clear hfin
   go_wp2
   go_ret2
   exact zaP HF.out (hb1.trans (hbw.mono hb1.size))
theorem zkF (s : ByteArray) (w : World) (hs : s.size ≤ 1073741824) (L : Nat) (hL0 : 1 ≤ L) (hl : (zaE s.data.toList).length = L + 1) (x : List UInt8) (hx : (zaE s.data.toList).getD L [] = x) (hne : x ≠ []) (hL3 : 3 < L) :
  Calls Tryz.prog 56 #[.string s] w (zhL w (zeJ s.data.toList)) := by
 have HK := Lib.hid (zdU L _ hl (.inr (by rw [hx]; exact hne)))
 have HX := Lib.hid hx
 have hxe : x.isEmpty = false := zcD hne
 clear hx hne
 have HL := Lib.hid hl
 clear hl
 have HZ := Lib.hid (zoK HK.out (by omega))
 have hnb : L ≤ 1073741824 := by
  have h1 := zcR (hasB [46]) s.data.toList
  rw [zaJ] at h1
  have h2 := HL.out
  unfold zaE at h2
  omega
 go_enter Tryz.func56, Tryz.ntmps56
 go_wp2_with fail
 refine (zcX s _ _ hs).mono ?_
 rintro e w1 ⟨v, rfl, hp, hb1⟩
 have hp' : zbZ w.heap.size w1 v (zaE s.data.toList) := hp
 obtain ⟨g, cap, rfl, hcap, hg, hcell⟩ := hp'.form2 (by rw [HL.out]; omega)
 rw [HL.out] at hcap hcell ⊢
 have hcy := hcell L (by omega)
 rw [HX.out] at hcy
 have HCELL := Lib.hid hcell
 clear hp hp' hcell
 go_wp2
 go_ret2
 exact zaP HZ.out hb1
end
section
open Go.RowKit
theorem znY (s : ByteArray) (w : World) (hs : s.size ≤ 1073741824) (L : Nat) (hl : (zaE s.data.toList).length = L + 2) (hx : (zaE s.data.toList).getD (L + 1) [] = []) (hL3 : L ≤ 3) :
  Calls Tryz.prog 56 #[.string s] w (zhL w (zeJ s.data.toList)) := by
 have HK := Lib.hid (zhM L _ hl hx)
 have HX := Lib.hid hx
 clear hx
 have HL := Lib.hid hl
 clear hl
 have HZ := Lib.hid (zpQ HK.out (by omega))
 go_enter Tryz.func56, Tryz.ntmps56
 go_wp2_with fail
 refine (zcX s _ _ hs).mono ?_
 rintro e w1 ⟨v, rfl, hp, hb1⟩
 have hp' : zbZ w.heap.size w1 v (zaE s.data.toList) := hp
 obtain ⟨g, cap, rfl, hcap, hg, hcell⟩ := hp'.form2 (by rw [HL.out]; omega)
 rw [HL.out] at hcap hcell ⊢
 have hcy := hcell (L + 1) (by omega)
 rw [HX.out] at hcy
 have HCELL := Lib.hid hcell
 clear hp hp' hcell
 go_wp2
 have hd3 : decide ((3 : Int) < (L : Int)) = false := decide_eq_false (by omega)
 simp only [show (L : Int) + 2 - 1 = L + 1 from by omega, show (L : Int) + 1 - 1 = L from by omega, hd3]
 rw [show L + 2 - 1 = L + 1 from rfl]
 clear hd3
 go_loopw [6, 36] (fun v i wr => ∃ (k : Nat) (A : Int), k ≤ L + 1 ∧ i = .int .i64 k ∧ v = .int .u32 A ∧ 0 ≤ A ∧ A < 4294967296 ∧ Hid (k ≤ L → A % 2 ^ (32 - 8 * k) = 0) ∧ Hid (goF (L + 1) k A (((zaE s.data.toList).take (L + 1)).drop k) = zeJ s.data.toList) ∧ Below w1.heap.size w1 wr) (fun _ i _ => L + 1 - (intOf i).toNat)
 case atStart => exact ⟨0, 0, by omega, rfl, rfl, by omega, by omega, fun _ => rfl, HZ.out.symm, Below.refl _ _⟩
 case round =>
  obtain ⟨k, A, hk, rfl, rfl, hA0, hA1, HM, HG, hbw⟩ := hrel
  by_cases hkL : k ≤ L
  ·obtain ⟨p, hpk⟩ : ∃ p, (zaE s.data.toList).getD k [] = p := ⟨_, rfl⟩
   by_cases hLk : k = L
   ·rcases (show k = 0 ∨ k = 1 ∨ k = 2 ∨ k = 3 from by omega) with rfl | rfl | rfl | rfl
    ·have hp : (zaE s.data.toList).getD 0 [] = p := hpk
     have hcx := HCELL.out 0 (by omega)
     rw [hp] at hcx
     have hcx2 : wr.cell? ⟨g, 0, none⟩ = some (.string ⟨p.toArray⟩) := (hbw.cell (p := ⟨g, 0, none⟩) hg).trans hcx
     obtain ⟨x, b, hpz⟩ : ∃ x b, zbP p = (x, b) := ⟨_, _, rfl⟩
     have hx0 : 0 ≤ x ∧ x ≤ 1099511627776 := by have h9 := zbN p; rw [hpz] at h9; exact h9
     obtain ⟨hx0, hx1⟩ := hx0
     have hpl : p.length ≤ s.size := by rw [← hp, ← zaJ]; exact zbY _ _ _
     have hlim : limZ (L + 1) 0 = 4294967296 := by first | rfl | (subst hLk; rfl)
     have hwt : wtZ (L + 1) 0 = 1 := by first | rfl | (subst hLk; rfl)
     have hA : A % 2 ^ 32 = 0 := HM.out (by omega)
     have HP := Lib.hid hp
     have HPZ := Lib.hid hpz
     have HLIM := Lib.hid hlim
     have HWT := Lib.hid hwt
     have hLk1 : L ≤ 0 := by omega
     clear hp hpz hlim hwt hcx hpk hLk
     try rw [show ((0 : Nat) : Int) = 0 from rfl]
     by_cases hok : b = true ∧ x < 4294967296
     ·obtain ⟨rfl, hxl⟩ := hok
      have hor : bits .or .u32 A x = A + x := zcI 32 A _ hA0 hA hA1 (by omega) (by omega) (by omega)
      have hgo := HG.out
      rw [zdV (L + 1) 0 A _ p x (by omega) (by rw [HL.out]; omega) HP.out HPZ.out (by rw [HLIM.out]; exact hxl), HWT.out] at hgo
      have HG2 := Lib.hid hgo
      have HA := Lib.hid hA
      clear hgo hA
      go_wp2_with fail
      refine (zaL ⟨p.toArray⟩ _ (by rw [zaD]; omega)).mono ?_
      rw [zaG, HPZ.out]
      rintro e w2 ⟨rfl, hb2⟩
      have hc2 : Below w1.heap.size w1 w2 := hbw.trans (hb2.mono hbw.size)
      clear hb2

      go_wp2
      go_roundw
      case rel =>
       refine ⟨1, A + x, by omega, (by first | rfl | go_num), rfl, by omega, ?_, ?_, ?_, hc2⟩
       ·have := HA.out; omega
       ·exact Lib.hid (fun h => by omega)
       ·rw [Int.mul_one] at HG2; exact HG2
      case measure => first | (simp [intOf]; done) | (simp [intOf]; omega)
     ·have HN := Lib.hid (HG.out.symm.trans (zfR (L + 1) 0 A _ p x b (by omega) (by rw [HL.out]; omega) HP.out HPZ.out (by rw [HLIM.out]; cases b with | false => exact .inl rfl | true => exact .inr (by have h8 : ¬ x < 4294967296 := fun h => hok ⟨rfl, h⟩; omega))))
      have HOK := Lib.hid hok
      clear hok
      cases b with
      | false =>
       go_wp2_with fail
       refine (zaL ⟨p.toArray⟩ _ (by rw [zaD]; omega)).mono ?_
       rw [zaG, HPZ.out]
       rintro e w2 ⟨rfl, hb2⟩
       have hc2 : Below w1.heap.size w1 w2 := hbw.trans (hb2.mono hbw.size)
       clear hb2

       go_wp2
       go_ret2
       exact zaP HN.out (hb1.trans (hc2.mono hb1.size))
      | true =>
       have hxl : 4294967296 ≤ x := by have h8 : ¬ x < 4294967296 := fun h => HOK.out ⟨rfl, h⟩; omega
       go_wp2_with fail
       refine (zaL ⟨p.toArray⟩ _ (by rw [zaD]; omega)).mono ?_
       rw [zaG, HPZ.out]
       rintro e w2 ⟨rfl, hb2⟩
       have hc2 : Below w1.heap.size w1 w2 := hbw.trans (hb2.mono hbw.size)
       clear hb2

       go_wp2
       go_ret2
       exact zaP HN.out (hb1.trans (hc2.mono hb1.size))
    ·have hp : (zaE s.data.toList).getD 1 [] = p := hpk
     have hcx := HCELL.out 1 (by omega)
     rw [hp] at hcx
     have hcx2 : wr.cell? ⟨g, 1, none⟩ = some (.string ⟨p.toArray⟩) := (hbw.cell (p := ⟨g, 1, none⟩) hg).trans hcx
     obtain ⟨x, b, hpz⟩ : ∃ x b, zbP p = (x, b) := ⟨_, _, rfl⟩
     have hx0 : 0 ≤ x ∧ x ≤ 1099511627776 := by have h9 := zbN p; rw [hpz] at h9; exact h9
     obtain ⟨hx0, hx1⟩ := hx0
     have hpl : p.length ≤ s.size := by rw [← hp, ← zaJ]; exact zbY _ _ _
     have hlim : limZ (L + 1) 1 = 16777216 := by first | rfl | (subst hLk; rfl)
     have hwt : wtZ (L + 1) 1 = 1 := by first | rfl | (subst hLk; rfl)
     have hA : A % 2 ^ 24 = 0 := HM.out (by omega)
     have HP := Lib.hid hp
     have HPZ := Lib.hid hpz
     have HLIM := Lib.hid hlim
     have HWT := Lib.hid hwt
     have hLk1 : L ≤ 1 := by omega
     clear hp hpz hlim hwt hcx hpk hLk
     try rw [show ((1 : Nat) : Int) = 1 from rfl]
     by_cases hok : b = true ∧ x < 16777216
     ·obtain ⟨rfl, hxl⟩ := hok
      have hor : bits .or .u32 A x = A + x := zcI 24 A _ hA0 hA hA1 (by omega) (by omega) (by omega)
      have hgo := HG.out
      rw [zdV (L + 1) 1 A _ p x (by omega) (by rw [HL.out]; omega) HP.out HPZ.out (by rw [HLIM.out]; exact hxl), HWT.out] at hgo
      have HG2 := Lib.hid hgo
      have HA := Lib.hid hA
      clear hgo hA
      go_wp2_with fail
      refine (zaL ⟨p.toArray⟩ _ (by rw [zaD]; omega)).mono ?_
      rw [zaG, HPZ.out]
      rintro e w2 ⟨rfl, hb2⟩
      have hc2 : Below w1.heap.size w1 w2 := hbw.trans (hb2.mono hbw.size)
      clear hb2

      go_wp2
      go_roundw
      case rel =>
       refine ⟨2, A + x, by omega, (by first | rfl | go_num), rfl, by omega, ?_, ?_, ?_, hc2⟩
       ·have := HA.out; omega
       ·exact Lib.hid (fun h => by omega)
       ·rw [Int.mul_one] at HG2; exact HG2
      case measure => first | (simp [intOf]; done) | (simp [intOf]; omega)
     ·have HN := Lib.hid (HG.out.symm.trans (zfR (L + 1) 1 A _ p x b (by omega) (by rw [HL.out]; omega) HP.out HPZ.out (by rw [HLIM.out]; cases b with | false => exact .inl rfl | true => exact .inr (by have h8 : ¬ x < 16777216 := fun h => hok ⟨rfl, h⟩; omega))))
      have HOK := Lib.hid hok
      clear hok
      cases b with
      | false =>
       go_wp2_with fail
       refine (zaL ⟨p.toArray⟩ _ (by rw [zaD]; omega)).mono ?_
       rw [zaG, HPZ.out]
       rintro e w2 ⟨rfl, hb2⟩
       have hc2 : Below w1.heap.size w1 w2 := hbw.trans (hb2.mono hbw.size)
       clear hb2

       go_wp2
       go_ret2
       exact zaP HN.out (hb1.trans (hc2.mono hb1.size))
      | true =>
       have hxl : 16777216 ≤ x := by have h8 : ¬ x < 16777216 := fun h => HOK.out ⟨rfl, h⟩; omega
       go_wp2_with fail
       refine (zaL ⟨p.toArray⟩ _ (by rw [zaD]; omega)).mono ?_
       rw [zaG, HPZ.out]
       rintro e w2 ⟨rfl, hb2⟩
       have hc2 : Below w1.heap.size w1 w2 := hbw.trans (hb2.mono hbw.size)
       clear hb2

       go_wp2
       go_ret2
       exact zaP HN.out (hb1.trans (hc2.mono hb1.size))
    ·have hp : (zaE s.data.toList).getD 2 [] = p := hpk
     have hcx := HCELL.out 2 (by omega)
     rw [hp] at hcx
     have hcx2 : wr.cell? ⟨g, 2, none⟩ = some (.string ⟨p.toArray⟩) := (hbw.cell (p := ⟨g, 2, none⟩) hg).trans hcx
     obtain ⟨x, b, hpz⟩ : ∃ x b, zbP p = (x, b) := ⟨_, _, rfl⟩
     have hx0 : 0 ≤ x ∧ x ≤ 1099511627776 := by have h9 := zbN p; rw [hpz] at h9; exact h9
     obtain ⟨hx0, hx1⟩ := hx0
     have hpl : p.length ≤ s.size := by rw [← hp, ← zaJ]; exact zbY _ _ _
     have hlim : limZ (L + 1) 2 = 65536 := by first | rfl | (subst hLk; rfl)
     have hwt : wtZ (L + 1) 2 = 1 := by first | rfl | (subst hLk; rfl)
     have hA : A % 2 ^ 16 = 0 := HM.out (by omega)
     have HP := Lib.hid hp
     have HPZ := Lib.hid hpz
     have HLIM := Lib.hid hlim
     have HWT := Lib.hid hwt
     have hLk1 : L ≤ 2 := by omega
     clear hp hpz hlim hwt hcx hpk hLk
     try rw [show ((2 : Nat) : Int) = 2 from rfl]
     by_cases hok : b = true ∧ x < 65536
     ·obtain ⟨rfl, hxl⟩ := hok
      have hor : bits .or .u32 A x = A + x := zcI 16 A _ hA0 hA hA1 (by omega) (by omega) (by omega)
      have hgo := HG.out
      rw [zdV (L + 1) 2 A _ p x (by omega) (by rw [HL.out]; omega) HP.out HPZ.out (by rw [HLIM.out]; exact hxl), HWT.out] at hgo
      have HG2 := Lib.hid hgo
      have HA := Lib.hid hA
      clear hgo hA
      go_wp2_with fail
      refine (zaL ⟨p.toArray⟩ _ (by rw [zaD]; omega)).mono ?_
      rw [zaG, HPZ.out]
      rintro e w2 ⟨rfl, hb2⟩
      have hc2 : Below w1.heap.size w1 w2 := hbw.trans (hb2.mono hbw.size)
      clear hb2

      go_wp2
      go_roundw
      case rel =>
       refine ⟨3, A + x, by omega, (by first | rfl | go_num), rfl, by omega, ?_, ?_, ?_, hc2⟩
       ·have := HA.out; omega
       ·exact Lib.hid (fun h => by omega)
       ·rw [Int.mul_one] at HG2; exact HG2
      case measure => first | (simp [intOf]; done) | (simp [intOf]; omega)
     ·have HN := Lib.hid (HG.out.symm.trans (zfR (L + 1) 2 A _ p x b (by omega) (by rw [HL.out]; omega) HP.out HPZ.out (by rw [HLIM.out]; cases b with | false => exact .inl rfl | true => exact .inr (by have h8 : ¬ x < 65536 := fun h => hok ⟨rfl, h⟩; omega))))
      have HOK := Lib.hid hok
      clear hok
      cases b with
      | false =>
       go_wp2_with fail
       refine (zaL ⟨p.toArray⟩ _ (by rw [zaD]; omega)).mono ?_
       rw [zaG, HPZ.out]
       rintro e w2 ⟨rfl, hb2⟩
       have hc2 : Below w1.heap.size w1 w2 := hbw.trans (hb2.mono hbw.size)
       clear hb2

       go_wp2
       go_ret2
       exact zaP HN.out (hb1.trans (hc2.mono hb1.size))
      | true =>
       have hxl : 65536 ≤ x := by have h8 : ¬ x < 65536 := fun h => HOK.out ⟨rfl, h⟩; omega
       go_wp2_with fail
       refine (zaL ⟨p.toArray⟩ _ (by rw [zaD]; omega)).mono ?_
       rw [zaG, HPZ.out]
       rintro e w2 ⟨rfl, hb2⟩
       have hc2 : Below w1.heap.size w1 w2 := hbw.trans (hb2.mono hbw.size)
       clear hb2

       go_wp2
       go_ret2
       exact zaP HN.out (hb1.trans (hc2.mono hb1.size))
    ·have hp : (zaE s.data.toList).getD 3 [] = p := hpk
     have hcx := HCELL.out 3 (by omega)
     rw [hp] at hcx
     have hcx2 : wr.cell? ⟨g, 3, none⟩ = some (.string ⟨p.toArray⟩) := (hbw.cell (p := ⟨g, 3, none⟩) hg).trans hcx
     obtain ⟨x, b, hpz⟩ : ∃ x b, zbP p = (x, b) := ⟨_, _, rfl⟩
     have hx0 : 0 ≤ x ∧ x ≤ 1099511627776 := by have h9 := zbN p; rw [hpz] at h9; exact h9
     obtain ⟨hx0, hx1⟩ := hx0
     have hpl : p.length ≤ s.size := by rw [← hp, ← zaJ]; exact zbY _ _ _
     have hlim : limZ (L + 1) 3 = 256 := by first | rfl | (subst hLk; rfl)
     have hwt : wtZ (L + 1) 3 = 1 := by first | rfl | (subst hLk; rfl)
     have hA : A % 2 ^ 8 = 0 := HM.out (by omega)
     have HP := Lib.hid hp
     have HPZ := Lib.hid hpz
     have HLIM := Lib.hid hlim
     have HWT := Lib.hid hwt
     have hLk1 : L ≤ 3 := by omega
     clear hp hpz hlim hwt hcx hpk hLk
     try rw [show ((3 : Nat) : Int) = 3 from rfl]
     by_cases hok : b = true ∧ x < 256
     ·obtain ⟨rfl, hxl⟩ := hok
      have hor : bits .or .u32 A x = A + x := zcI 8 A _ hA0 hA hA1 (by omega) (by omega) (by omega)
      have hgo := HG.out
      rw [zdV (L + 1) 3 A _ p x (by omega) (by rw [HL.out]; omega) HP.out HPZ.out (by rw [HLIM.out]; exact hxl), HWT.out] at hgo
      have HG2 := Lib.hid hgo
      have HA := Lib.hid hA
      clear hgo hA
      go_wp2_with fail
      refine (zaL ⟨p.toArray⟩ _ (by rw [zaD]; omega)).mono ?_
      rw [zaG, HPZ.out]
      rintro e w2 ⟨rfl, hb2⟩
      have hc2 : Below w1.heap.size w1 w2 := hbw.trans (hb2.mono hbw.size)
      clear hb2

      go_wp2
      go_roundw
      case rel =>
       refine ⟨4, A + x, by omega, (by first | rfl | go_num), rfl, by omega, ?_, ?_, ?_, hc2⟩
       ·have := HA.out; omega
       ·exact Lib.hid (fun h => by omega)
       ·rw [Int.mul_one] at HG2; exact HG2
      case measure => first | (simp [intOf]; done) | (simp [intOf]; omega)
     ·have HN := Lib.hid (HG.out.symm.trans (zfR (L + 1) 3 A _ p x b (by omega) (by rw [HL.out]; omega) HP.out HPZ.out (by rw [HLIM.out]; cases b with | false => exact .inl rfl | true => exact .inr (by have h8 : ¬ x < 256 := fun h => hok ⟨rfl, h⟩; omega))))
      have HOK := Lib.hid hok
      clear hok
      cases b with
      | false =>
       go_wp2_with fail
       refine (zaL ⟨p.toArray⟩ _ (by rw [zaD]; omega)).mono ?_
       rw [zaG, HPZ.out]
       rintro e w2 ⟨rfl, hb2⟩
       have hc2 : Below w1.heap.size w1 w2 := hbw.trans (hb2.mono hbw.size)
       clear hb2

       go_wp2
       go_ret2
       exact zaP HN.out (hb1.trans (hc2.mono hb1.size))
      | true =>
       have hxl : 256 ≤ x := by have h8 : ¬ x < 256 := fun h => HOK.out ⟨rfl, h⟩; omega
       go_wp2_with fail
       refine (zaL ⟨p.toArray⟩ _ (by rw [zaD]; omega)).mono ?_
       rw [zaG, HPZ.out]
       rintro e w2 ⟨rfl, hb2⟩
       have hc2 : Below w1.heap.size w1 w2 := hbw.trans (hb2.mono hbw.size)
       clear hb2

       go_wp2
       go_ret2
       exact zaP HN.out (hb1.trans (hc2.mono hb1.size))
   ·rcases (show k = 0 ∨ k = 1 ∨ k = 2 from by omega) with rfl | rfl | rfl
    ·have hp : (zaE s.data.toList).getD 0 [] = p := hpk
     have hcx := HCELL.out 0 (by omega)
     rw [hp] at hcx
     have hcx2 : wr.cell? ⟨g, 0, none⟩ = some (.string ⟨p.toArray⟩) := (hbw.cell (p := ⟨g, 0, none⟩) hg).trans hcx
     obtain ⟨x, b, hpz⟩ : ∃ x b, zbP p = (x, b) := ⟨_, _, rfl⟩
     have hx0 : 0 ≤ x ∧ x ≤ 1099511627776 := by have h9 := zbN p; rw [hpz] at h9; exact h9
     obtain ⟨hx0, hx1⟩ := hx0
     have hpl : p.length ≤ s.size := by rw [← hp, ← zaJ]; exact zbY _ _ _
     have hlim : limZ (L + 1) 0 = 256 := by unfold limZ; rw [if_neg (by omega)]
     have hwt : wtZ (L + 1) 0 = 16777216 := by unfold wtZ; rw [if_neg (by omega)]; rfl
     have hA : A % 2 ^ 32 = 0 := HM.out (by omega)
     have HP := Lib.hid hp
     have HPZ := Lib.hid hpz
     have HLIM := Lib.hid hlim
     have HWT := Lib.hid hwt
     have hLk1 : 1 ≤ L := by omega
     clear hp hpz hlim hwt hcx hpk hLk
     try rw [show ((0 : Nat) : Int) = 0 from rfl]
     by_cases hok : b = true ∧ x < 256
     ·obtain ⟨rfl, hxl⟩ := hok
      have hor : bits .or .u32 A (x * 16777216) = A + x * 16777216 := zcI 32 A _ hA0 hA hA1 (by omega) (by omega) (by omega)
      have hgo := HG.out
      rw [zdV (L + 1) 0 A _ p x (by omega) (by rw [HL.out]; omega) HP.out HPZ.out (by rw [HLIM.out]; exact hxl), HWT.out] at hgo
      have HG2 := Lib.hid hgo
      have HA := Lib.hid hA
      clear hgo hA
      go_wp2_with fail
      refine (zaL ⟨p.toArray⟩ _ (by rw [zaD]; omega)).mono ?_
      rw [zaG, HPZ.out]
      rintro e w2 ⟨rfl, hb2⟩
      have hc2 : Below w1.heap.size w1 w2 := hbw.trans (hb2.mono hbw.size)
      clear hb2

      go_wp2
      go_roundw
      case rel =>
       refine ⟨1, A + x * 16777216, by omega, (by first | rfl | go_num), rfl, by omega, ?_, ?_, ?_, hc2⟩
       ·have := HA.out; omega
       ·refine Lib.hid (fun _ => ?_); have := HA.out; omega
       ·exact HG2
      case measure => first | (simp [intOf]; done) | (simp [intOf]; omega)
     ·have HN := Lib.hid (HG.out.symm.trans (zfR (L + 1) 0 A _ p x b (by omega) (by rw [HL.out]; omega) HP.out HPZ.out (by rw [HLIM.out]; cases b with | false => exact .inl rfl | true => exact .inr (by have h8 : ¬ x < 256 := fun h => hok ⟨rfl, h⟩; omega))))
      have HOK := Lib.hid hok
      clear hok
      cases b with
      | false =>
       go_wp2_with fail
       refine (zaL ⟨p.toArray⟩ _ (by rw [zaD]; omega)).mono ?_
       rw [zaG, HPZ.out]
       rintro e w2 ⟨rfl, hb2⟩
       have hc2 : Below w1.heap.size w1 w2 := hbw.trans (hb2.mono hbw.size)
       clear hb2

       go_wp2
       go_ret2
       exact zaP HN.out (hb1.trans (hc2.mono hb1.size))
      | true =>
       have hxl : 256 ≤ x := by have h8 : ¬ x < 256 := fun h => HOK.out ⟨rfl, h⟩; omega
       go_wp2_with fail
       refine (zaL ⟨p.toArray⟩ _ (by rw [zaD]; omega)).mono ?_
       rw [zaG, HPZ.out]
       rintro e w2 ⟨rfl, hb2⟩
       have hc2 : Below w1.heap.size w1 w2 := hbw.trans (hb2.mono hbw.size)
       clear hb2

       go_wp2
       go_ret2
       exact zaP HN.out (hb1.trans (hc2.mono hb1.size))
    ·have hp : (zaE s.data.toList).getD 1 [] = p := hpk
     have hcx := HCELL.out 1 (by omega)
     rw [hp] at hcx
     have hcx2 : wr.cell? ⟨g, 1, none⟩ = some (.string ⟨p.toArray⟩) := (hbw.cell (p := ⟨g, 1, none⟩) hg).trans hcx
     obtain ⟨x, b, hpz⟩ : ∃ x b, zbP p = (x, b) := ⟨_, _, rfl⟩
     have hx0 : 0 ≤ x ∧ x ≤ 1099511627776 := by have h9 := zbN p; rw [hpz] at h9; exact h9
     obtain ⟨hx0, hx1⟩ := hx0
     have hpl : p.length ≤ s.size := by rw [← hp, ← zaJ]; exact zbY _ _ _
     have hlim : limZ (L + 1) 1 = 256 := by unfold limZ; rw [if_neg (by omega)]
     have hwt : wtZ (L + 1) 1 = 65536 := by unfold wtZ; rw [if_neg (by omega)]; rfl
     have hA : A % 2 ^ 24 = 0 := HM.out (by omega)
     have HP := Lib.hid hp
     have HPZ := Lib.hid hpz
     have HLIM := Lib.hid hlim
     have HWT := Lib.hid hwt
     have hLk1 : 2 ≤ L := by omega
     clear hp hpz hlim hwt hcx hpk hLk
     try rw [show ((1 : Nat) : Int) = 1 from rfl]
     by_cases hok : b = true ∧ x < 256
     ·obtain ⟨rfl, hxl⟩ := hok
      have hor : bits .or .u32 A (x * 65536) = A + x * 65536 := zcI 24 A _ hA0 hA hA1 (by omega) (by omega) (by omega)
      have hgo := HG.out
      rw [zdV (L + 1) 1 A _ p x (by omega) (by rw [HL.out]; omega) HP.out HPZ.out (by rw [HLIM.out]; exact hxl), HWT.out] at hgo
      have HG2 := Lib.hid hgo
      have HA := Lib.hid hA
      clear hgo hA
      go_wp2_with fail
      refine (zaL ⟨p.toArray⟩ _ (by rw [zaD]; omega)).mono ?_
      rw [zaG, HPZ.out]
      rintro e w2 ⟨rfl, hb2⟩
      have hc2 : Below w1.heap.size w1 w2 := hbw.trans (hb2.mono hbw.size)
      clear hb2

      go_wp2
      go_roundw
      case rel =>
       refine ⟨2, A + x * 65536, by omega, (by first | rfl | go_num), rfl, by omega, ?_, ?_, ?_, hc2⟩
       ·have := HA.out; omega
       ·refine Lib.hid (fun _ => ?_); have := HA.out; omega
       ·exact HG2
      case measure => first | (simp [intOf]; done) | (simp [intOf]; omega)
     ·have HN := Lib.hid (HG.out.symm.trans (zfR (L + 1) 1 A _ p x b (by omega) (by rw [HL.out]; omega) HP.out HPZ.out (by rw [HLIM.out]; cases b with | false => exact .inl rfl | true => exact .inr (by have h8 : ¬ x < 256 := fun h => hok ⟨rfl, h⟩; omega))))
      have HOK := Lib.hid hok
      clear hok
      cases b with
      | false =>
       go_wp2_with fail
       refine (zaL ⟨p.toArray⟩ _ (by rw [zaD]; omega)).mono ?_
       rw [zaG, HPZ.out]
       rintro e w2 ⟨rfl, hb2⟩
       have hc2 : Below w1.heap.size w1 w2 := hbw.trans (hb2.mono hbw.size)
       clear hb2

       go_wp2
       go_ret2
       exact zaP HN.out (hb1.trans (hc2.mono hb1.size))
      | true =>
       have hxl : 256 ≤ x := by have h8 : ¬ x < 256 := fun h => HOK.out ⟨rfl, h⟩; omega
       go_wp2_with fail
       refine (zaL ⟨p.toArray⟩ _ (by rw [zaD]; omega)).mono ?_
       rw [zaG, HPZ.out]
       rintro e w2 ⟨rfl, hb2⟩
       have hc2 : Below w1.heap.size w1 w2 := hbw.trans (hb2.mono hbw.size)
       clear hb2

       go_wp2
       go_ret2
       exact zaP HN.out (hb1.trans (hc2.mono hb1.size))
    ·have hp : (zaE s.data.toList).getD 2 [] = p := hpk
     have hcx := HCELL.out 2 (by omega)
     rw [hp] at hcx
     have hcx2 : wr.cell? ⟨g, 2, none⟩ = some (.string ⟨p.toArray⟩) := (hbw.cell (p := ⟨g, 2, none⟩) hg).trans hcx
     obtain ⟨x, b, hpz⟩ : ∃ x b, zbP p = (x, b) := ⟨_, _, rfl⟩
     have hx0 : 0 ≤ x ∧ x ≤ 1099511627776 := by have h9 := zbN p; rw [hpz] at h9; exact h9
     obtain ⟨hx0, hx1⟩ := hx0
     have hpl : p.length ≤ s.size := by rw [← hp, ← zaJ]; exact zbY _ _ _
     have hlim : limZ (L + 1) 2 = 256 := by unfold limZ; rw [if_neg (by omega)]
     have hwt : wtZ (L + 1) 2 = 256 := by unfold wtZ; rw [if_neg (by omega)]; rfl
     have hA : A % 2 ^ 16 = 0 := HM.out (by omega)
     have HP := Lib.hid hp
     have HPZ := Lib.hid hpz
     have HLIM := Lib.hid hlim
     have HWT := Lib.hid hwt
     have hLk1 : 3 ≤ L := by omega
     clear hp hpz hlim hwt hcx hpk hLk
     try rw [show ((2 : Nat) : Int) = 2 from rfl]
     by_cases hok : b = true ∧ x < 256
     ·obtain ⟨rfl, hxl⟩ := hok
      have hor : bits .or .u32 A (x * 256) = A + x * 256 := zcI 16 A _ hA0 hA hA1 (by omega) (by omega) (by omega)
      have hgo := HG.out
      rw [zdV (L + 1) 2 A _ p x (by omega) (by rw [HL.out]; omega) HP.out HPZ.out (by rw [HLIM.out]; exact hxl), HWT.out] at hgo
      have HG2 := Lib.hid hgo
      have HA := Lib.hid hA
      clear hgo hA
      go_wp2_with fail
      refine (zaL ⟨p.toArray⟩ _ (by rw [zaD]; omega)).mono ?_
      rw [zaG, HPZ.out]
      rintro e w2 ⟨rfl, hb2⟩
      have hc2 : Below w1.heap.size w1 w2 := hbw.trans (hb2.mono hbw.size)
      clear hb2

      go_wp2
      go_roundw
      case rel =>
       refine ⟨3, A + x * 256, by omega, (by first | rfl | go_num), rfl, by omega, ?_, ?_, ?_, hc2⟩
       ·have := HA.out; omega
       ·refine Lib.hid (fun _ => ?_); have := HA.out; omega
       ·exact HG2
      case measure => first | (simp [intOf]; done) | (simp [intOf]; omega)
     ·have HN := Lib.hid (HG.out.symm.trans (zfR (L + 1) 2 A _ p x b (by omega) (by rw [HL.out]; omega) HP.out HPZ.out (by rw [HLIM.out]; cases b with | false => exact .inl rfl | true => exact .inr (by have h8 : ¬ x < 256 := fun h => hok ⟨rfl, h⟩; omega))))
      have HOK := Lib.hid hok
      clear hok
      cases b with
      | false =>
       go_wp2_with fail
       refine (zaL ⟨p.toArray⟩ _ (by rw [zaD]; omega)).mono ?_
       rw [zaG, HPZ.out]
       rintro e w2 ⟨rfl, hb2⟩
       have hc2 : Below w1.heap.size w1 w2 := hbw.trans (hb2.mono hbw.size)
       clear hb2

       go_wp2
       go_ret2
       exact zaP HN.out (hb1.trans (hc2.mono hb1.size))
      | true =>
       have hxl : 256 ≤ x := by have h8 : ¬ x < 256 := fun h => HOK.out ⟨rfl, h⟩; omega
       go_wp2_with fail
       refine (zaL ⟨p.toArray⟩ _ (by rw [zaD]; omega)).mono ?_
       rw [zaG, HPZ.out]
       rintro e w2 ⟨rfl, hb2⟩
       have hc2 : Below w1.heap.size w1 w2 := hbw.trans (hb2.mono hbw.size)
       clear hb2

       go_wp2
       go_ret2
       exact zaP HN.out (hb1.trans (hc2.mono hb1.size))
  ·obtain rfl : k = L + 1 := by omega
   have hfin := HG.out
   rw [zwD (L + 1) (L + 1) A _ (Nat.le_refl _)] at hfin
   have HF := Lib.hid hfin.symm
   clear hfin
   go_wp2
   go_ret2
   exact zaP HF.out (hb1.trans (hbw.mono hb1.size))
theorem ziN (s : ByteArray) (w : World) (hs : s.size ≤ 1073741824) (L : Nat) (hl : (zaE s.data.toList).length = L + 2) (hx : (zaE s.data.toList).getD (L + 1) [] = []) (hL3 : 3 < L) :
  Calls Tryz.prog 56 #[.string s] w (zhL w (zeJ s.data.toList)) := by
 have HK := Lib.hid (zhM L _ hl hx)
 have HX := Lib.hid hx
 clear hx
 have HL := Lib.hid hl
 clear hl
 have HZ := Lib.hid (zoK HK.out (by omega))
 have hnb : L ≤ 1073741824 := by
  have h1 := zcR (hasB [46]) s.data.toList
  rw [zaJ] at h1
  have h2 := HL.out
  unfold zaE at h2
  omega
 go_enter Tryz.func56, Tryz.ntmps56
 go_wp2_with fail
 refine (zcX s _ _ hs).mono ?_
 rintro e w1 ⟨v, rfl, hp, hb1⟩
 have hp' : zbZ w.heap.size w1 v (zaE s.data.toList) := hp
 obtain ⟨g, cap, rfl, hcap, hg, hcell⟩ := hp'.form2 (by rw [HL.out]; omega)
 rw [HL.out] at hcap hcell ⊢
 have hcy := hcell (L + 1) (by omega)
 rw [HX.out] at hcy
 have HCELL := Lib.hid hcell
 clear hp hp' hcell
 go_wp2
 go_ret2
 exact zaP HZ.out hb1
theorem zhY (s : ByteArray) (w : World) (hs : s.size ≤ 1073741824) :
  Calls Tryz.prog 56 #[.string s] w (zhL w (zeJ s.data.toList)) := by
 have h0 : 0 < (zaE s.data.toList).length := zhT _ _
 by_cases h1 : (zaE s.data.toList).length = 1
 ·exact z1S s w hs h1
 ·obtain ⟨n, hn⟩ : ∃ n, (zaE s.data.toList).length = n + 2 := ⟨(zaE s.data.toList).length - 2, by omega⟩
  by_cases he : (zaE s.data.toList).getD (n + 1) [] = []
  ·by_cases hm : 3 < n
   ·exact ziN s w hs n hn he hm
   ·exact znY s w hs n hn he (by omega)
  ·by_cases hm : 3 < n + 1
   ·exact zkF s w hs (n + 1) (by omega) hn _ rfl he hm
   ·exact zuJ s w hs (n + 1) (by omega) hn _ rfl he (by omega)
end
section
open Go.RowKit
end
section
open Go.RowKit
end
section
open Go.RowKit
end
section
open Go.RowKit
/-- four decimal parts of at most 255 each -/
def goS : Int → List (List UInt8) → Int × Bool
 | A, [] => (A, true)
 | A, p :: r => if (decZ p 255).2 = true then goS (A * 256 + (decZ p 255).1) r else (0, false)
def zaO (l : List UInt8) : Int × Bool := if (zaE l).length = 4 then goS 0 (zaE l) else (0, false)
theorem zgZ (l : List UInt8) (m : Int) (hm : 0 ≤ m) : 0 ≤ (decZ l m).1 ∧ (decZ l m).1 ≤ m := by
 unfold decZ
 split
 ·exact ⟨Int.le_refl _, hm⟩
 ·rename_i h
  split
  ·exact ⟨Int.le_refl _, hm⟩
  ·refine ⟨zmL l ?_, by show decN l ≤ m; omega⟩
   cases hd : zbL 10 l with
   | true => rfl
   | false => rw [hd] at h; simp at h
theorem zxQ (k : Nat) (ps : List (List UInt8)) (h : k < ps.length) : ps.drop k = ps.getD k [] :: ps.drop (k + 1) := by
 rw [List.drop_eq_getElem_cons h, List.getD, List.getElem?_eq_getElem h]
 rfl
theorem ycS (k : Nat) (A : Int) (ps : List (List UInt8)) (p : List UInt8) (x : Int) (h : k < ps.length) (hp : ps.getD k [] = p) (hx : decZ p 255 = (x, true)) : goS A (ps.drop k) = goS (A * 256 + x) (ps.drop (k + 1)) := by
 rw [zxQ k ps h, hp]
 show (if _ then _ else _) = _
 rw [hx, if_pos rfl]
theorem goS_no (k : Nat) (A : Int) (ps : List (List UInt8)) (p : List UInt8) (x : Int) (h : k < ps.length) (hp : ps.getD k [] = p) (hx : decZ p 255 = (x, false)) : goS A (ps.drop k) = (0, false) := by
 rw [zxQ k ps h, hp]
 show (if _ then _ else _) = _
 rw [hx]
 rfl
theorem yaW (k : Nat) (A : Int) (ps : List (List UInt8)) (h : ps.length ≤ k) : goS A (ps.drop k) = (A, true) := by
 rw [List.drop_eq_nil_of_le h]
 rfl
theorem zsG {l : List UInt8} (h : (zaE l).length = 4) : zaO l = goS 0 ((zaE l).drop 0) := by
 unfold zaO; rw [if_pos h]; rfl
theorem zpK {l : List UInt8} (h : (zaE l).length ≠ 4) : zaO l = (0, false) := by
 unfold zaO; rw [if_neg h]
theorem zgD (s : ByteArray) (w : World) (hs : s.size ≤ 1073741824) :
  Calls Tryz.prog 142 #[.string s] w (zhL w (zaO s.data.toList)) := by
 by_cases hl : (zaE s.data.toList).length = 4
 ·have HL := Lib.hid hl
  have HZ := Lib.hid (zsG hl)
  clear hl
  go_enter Tryz.func142, Tryz.ntmps142
  go_wp2_with fail
  refine (zcX s _ _ hs).mono ?_
  rintro e w1 ⟨v, rfl, hp, hb1⟩
  have hp' : zbZ w.heap.size w1 v (zaE s.data.toList) := hp
  obtain ⟨g, cap, rfl, hcap, hg, hcell⟩ := hp'.form2 (by rw [HL.out]; omega)
  rw [HL.out] at hcap hcell ⊢
  have HCELL := Lib.hid hcell
  clear hp hp' hcell
  go_wp2
  go_loopw [5, 17] (fun v i wr => ∃ (k : Nat) (A : Int), k ≤ 4 ∧ i = .int .i64 k ∧ v = .int .u32 A ∧ 0 ≤ A ∧ Hid (A < 256 ^ k) ∧ Hid (goS A ((zaE s.data.toList).drop k) = zaO s.data.toList) ∧ Below w1.heap.size w1 wr) (fun _ i _ => 4 - (intOf i).toNat)
  case atStart => exact ⟨0, 0, by omega, rfl, rfl, by omega, (by show (0 : Int) < 256 ^ 0; decide), HZ.out.symm, Below.refl _ _⟩
  case round =>
   obtain ⟨k, A, hk, rfl, rfl, hA0, HM, HG, hbw⟩ := hrel
   by_cases hk4 : k < 4
   ·obtain ⟨p, hpk⟩ : ∃ p, (zaE s.data.toList).getD k [] = p := ⟨_, rfl⟩
    have hcx := HCELL.out k hk4
    rw [hpk] at hcx
    have hcx2 : wr.cell? ⟨g, k, none⟩ = some (.string ⟨p.toArray⟩) := (hbw.cell (p := ⟨g, k, none⟩) hg).trans hcx
    have hpl : p.length ≤ s.size := by rw [← hpk, ← zaJ]; exact zbY _ _ _
    obtain ⟨x, b, hpz⟩ : ∃ x b, decZ p 255 = (x, b) := ⟨_, _, rfl⟩
    have hx : 0 ≤ x ∧ x ≤ 255 := by have h9 := zgZ p 255 (by decide); rw [hpz] at h9; exact h9
    obtain ⟨hx0, hx1⟩ := hx
    have hA1 : A < 16777216 := by
     have h1 := HM.out
     rcases (show k = 0 ∨ k = 1 ∨ k = 2 ∨ k = 3 from by omega) with rfl | rfl | rfl | rfl
     all_goals
      simp at h1
      omega
    have hA2 : A * 256 + x < 256 ^ (k + 1) := by
     have h1 := HM.out
     rcases (show k = 0 ∨ k = 1 ∨ k = 2 ∨ k = 3 from by omega) with rfl | rfl | rfl | rfl
     all_goals
      simp at h1 ⊢
      omega
    have HA2 := Lib.hid hA2
    have hor : bits .or .u32 (A * 256) x = A * 256 + x := zcI 8 _ _ (by omega) (by omega) (by omega) (by omega) (by omega) (by omega)
    have HP := Lib.hid hpk
    have HPZ := Lib.hid hpz
    clear hpk hpz hcx hA2
    cases b with
    | true =>
     have hgo := HG.out
     rw [ycS k A _ p x (by rw [HL.out]; exact hk4) HP.out HPZ.out] at hgo
     have HG2 := Lib.hid hgo
     clear hgo
     go_wp2_with fail
     refine (zcO ⟨p.toArray⟩ 255 _ (by rw [zaD]; omega) (by decide) (by decide)).mono ?_
     rw [zaG, HPZ.out]
     rintro e w2 ⟨rfl, hb2⟩
     have hc2 : Below w1.heap.size w1 w2 := hbw.trans (hb2.mono hbw.size)
     clear hb2
     go_wp2
     go_roundw
     case rel => exact ⟨k + 1, A * 256 + x, by omega, by go_num, rfl, by omega, HA2, HG2, hc2⟩
     case measure => simp [intOf]; omega
    | false =>
     have HN := Lib.hid (HG.out.symm.trans (goS_no k A _ p x (by rw [HL.out]; exact hk4) HP.out HPZ.out))
     go_wp2_with fail
     refine (zcO ⟨p.toArray⟩ 255 _ (by rw [zaD]; omega) (by decide) (by decide)).mono ?_
     rw [zaG, HPZ.out]
     rintro e w2 ⟨rfl, hb2⟩
     have hc2 : Below w1.heap.size w1 w2 := hbw.trans (hb2.mono hbw.size)
     clear hb2
     go_wp2
     go_ret2
     exact zaP HN.out (hb1.trans (hc2.mono hb1.size))
   ·have hfin := HG.out
    rw [yaW k A _ (by rw [HL.out]; omega)] at hfin
    have HF := Lib.hid hfin.symm
    clear hfin
    go_wp2
    go_ret2
    exact zaP HF.out (hb1.trans (hbw.mono hb1.size))
 ·obtain ⟨m, hm⟩ : ∃ m, (zaE s.data.toList).length = m := ⟨_, rfl⟩
  have HZ := Lib.hid (zpK hl)
  have h0 : 0 < (zaE s.data.toList).length := zhT _ _
  rw [hm] at hl h0
  have hmb : m ≤ 1073741825 := by
   have h1 := zcR (hasB [46]) s.data.toList
   rw [zaJ] at h1
   have h2 := hm
   unfold zaE at h2
   omega
  have hne : ((m : Int) != 4) = true := by rw [bne_iff_ne]; omega
  have HM := Lib.hid hm
  clear hm hl
  go_enter Tryz.func142, Tryz.ntmps142
  go_wp2_with fail
  refine (zcX s _ _ hs).mono ?_
  rintro e w1 ⟨v, rfl, hp, hb1⟩
  have hp' : zbZ w.heap.size w1 v (zaE s.data.toList) := hp
  obtain ⟨g, cap, rfl, hcap, hg, hcell⟩ := hp'.form2 (by rw [HM.out]; omega)
  rw [HM.out]
  clear hp hp' hcell hcap
  go_wp2
  go_ret2
  exact zaP HZ.out hb1
theorem zmD (a b c d : Int) (w : World) (ha : 0 ≤ a ∧ a ≤ 255) (hb : 0 ≤ b ∧ b ≤ 255) (hc : 0 ≤ c ∧ c ≤ 255) (hd : 0 ≤ d ∧ d ≤ 255) :
  Calls Tryz.prog 51 #[.int .u8 a, .int .u8 b, .int .u8 c, .int .u8 d] w fun e w' => e = .returned (.int .u32 (a * 16777216 + b * 65536 + c * 256 + d)) ∧ w = w' := by
 obtain ⟨ha0, ha1⟩ := ha
 obtain ⟨hb0, hb1⟩ := hb
 obtain ⟨hc0, hc1⟩ := hc
 obtain ⟨hd0, hd1⟩ := hd
 have h1 : bits .or .u32 (a * 16777216) (b * 65536) = a * 16777216 + b * 65536 := zcI 24 _ _ (by omega) (by omega) (by omega) (by omega) (by omega) (by omega)
 have h2 : bits .or .u32 (a * 16777216 + b * 65536) (c * 256) = a * 16777216 + b * 65536 + c * 256 := zcI 16 _ _ (by omega) (by omega) (by omega) (by omega) (by omega) (by omega)
 have h3 : bits .or .u32 (a * 16777216 + b * 65536 + c * 256) d = a * 16777216 + b * 65536 + c * 256 + d := zcI 8 _ _ (by omega) (by omega) (by omega) (by omega) (by omega) (by omega)
 go_enter Tryz.func51, Tryz.ntmps51
 go_wp2
 go_ret
 exact ⟨zcH (by omega), rfl⟩
end
section
open Go.RowKit
end
section
open Go.RowKit
theorem p4_a : zeJ [48, 120, 55, 102, 46, 49] = (2130706433, true) := by decide +kernel
theorem p4_b : zeJ [49, 46, 50, 46, 51, 46, 50, 53, 54] = (0, false) := by decide +kernel
theorem p4_c : zeJ [50, 53, 54] = (256, true) := by decide +kernel
theorem zvL (w : World) :
  Calls Tryz.prog 206 #[] w fun e w' => e = .returned (.bool true) ∧ Below w.heap.size w w' := by
 go_enter Tryz.func206, Tryz.ntmps206
 go_wp2_with fail
 refine (zhY _ _ (by decide)).mono ?_
 rw [show zeJ (ByteArray.mk #[48, 120, 55, 102, 46, 49]).data.toList = (2130706433, true) from p4_a]
 rintro e w1 ⟨rfl, hb1⟩
 go_wp2_with fail
 refine (zhY _ _ (by decide)).mono ?_
 rw [show zeJ (ByteArray.mk #[49, 46, 50, 46, 51, 46, 50, 53, 54]).data.toList = (0, false) from p4_b]
 rintro e w2 ⟨rfl, hb2⟩
 have hc2 : Below w.heap.size w w2 := hb1.trans (hb2.mono hb1.size)
 clear hb1 hb2
 go_wp2_with fail
 refine (zhY _ _ (by decide)).mono ?_
 rw [show zeJ (ByteArray.mk #[50, 53, 54]).data.toList = (256, true) from p4_c]
 rintro e w3 ⟨rfl, hb3⟩
 have hc3 : Below w.heap.size w w3 := hc2.trans (hb3.mono hc2.size)
 clear hc2 hb3
 go_wp2_with fail
 refine (z0Z _).mono ?_
 rintro e w4 ⟨rfl, hb4⟩
 have hc4 : Below w.heap.size w w4 := hc3.trans (hb4.mono hc3.size)
 clear hc3 hb4
 go_wp2_with fail
 refine (zmD 127 0 0 1 _ (by decide) (by decide) (by decide) (by decide)).mono ?_
 rintro e w' ⟨rfl, rfl⟩
 go_wp2_with fail
 refine (zmD 0 0 1 0 _ (by decide) (by decide) (by decide) (by decide)).mono ?_
 rintro e w' ⟨rfl, rfl⟩
 go_wp2
 go_ret
 exact ⟨by first | rfl | exact zaQ (by decide), hc4⟩
end
section
open Go.RowKit
def dec3 (u : Nat) : List UInt8 :=
 if u < 10 then [UInt8.ofNat (48 + u)] else if u < 100 then [UInt8.ofNat (48 + u / 10), UInt8.ofNat (48 + u % 10)] else [UInt8.ofNat (48 + u / 100), UInt8.ofNat (48 + u / 10 % 10), UInt8.ofNat (48 + u % 10)]
theorem zoC (u : Nat) (h : u < 1000) : Lib.decDigits u = dec3 u := by
 unfold dec3
 by_cases h1 : u < 10
 ·rw [if_pos h1, Lib.decDigits, dif_pos h1]
 ·rw [if_neg h1, Lib.decDigits, dif_neg h1, Lib.decDigits]
  by_cases h2 : u < 100
  ·rw [if_pos h2, dif_pos (by omega)]; rfl
  ·rw [if_neg h2, dif_neg (by omega), Lib.decDigits, dif_pos (by omega), show u / 10 / 10 = u / 100 from by omega]; rfl
theorem z2W (n : Int) (h0 : 0 ≤ n) (h1 : n < 1000) : Lib.itoa n = dec3 n.toNat := by
 unfold Lib.itoa
 rw [if_neg (by omega), zoC _ (by omega)]
theorem z5N : ∀ u : Fin 256, zbP (dec3 u.val) = ((u.val : Int), true) := by decide +kernel
theorem z6O : ∀ u : Fin 256, (dec3 u.val).all (fun c => !hasB [46] c) = true := by decide +kernel
theorem z9B : ∀ u : Fin 256, (dec3 u.val).isEmpty = false := by decide +kernel
theorem zlL (u : Nat) (h : u < 256) : zbP (dec3 u) = ((u : Int), true) := z5N ⟨u, h⟩
theorem zlB (u : Nat) (h : u < 256) : ∀ c ∈ dec3 u, hasB [46] c = false := by
 intro c hc
 have := List.all_eq_true.1 (z6O ⟨u, h⟩) c hc
 simpa using this
theorem zvX (u : Nat) (h : u < 256) : dec3 u ≠ [] := by
 intro e
 have := z9B ⟨u, h⟩
 simp only at this
 rw [e] at this
 cases this
theorem zbT (u : Nat) : (dec3 u).length ≤ 3 := by
 unfold dec3
 repeat' split
 all_goals simp
theorem zmB (p : UInt8 → Bool) (l : List UInt8) : ∀ (xs : List (List UInt8)) (t : List UInt8), l.foldl (zaW p) (xs, t) = (xs ++ (l.foldl (zaW p) ([], t)).1, (l.foldl (zaW p) ([], t)).2) := by
 induction l with
 | nil => intro xs t; simp
 | cons c l ih =>
  intro xs t
  simp only [List.foldl_cons, zaW]
  by_cases hp : p c = true
  ·simp only [hp, if_true]
   rw [ih (xs ++ [t]) [], ih ([] ++ [t]) []]
   simp
  ·have hf : p c = false := by simpa using hp
   simp only [hf]
   rw [show (if false = true then (xs ++ [t], ([] : List UInt8)) else (xs, t ++ [c])) = (xs, t ++ [c]) from rfl, ih xs (t ++ [c])]
   rfl
theorem ziP (a r : List UInt8) (h : ∀ c ∈ a, hasB [46] c = false) : zaE (a ++ [46] ++ r) = a :: zaE r := by
 unfold zaE splitB spl
 rw [List.foldl_append, List.foldl_append, zlG _ a [] [] h]
 have e : [46].foldl (zaW (hasB [46])) (([] : List (List UInt8)), ([] : List UInt8) ++ a) = ([a], []) := by simp [zaW, yaX]
 rw [e, zmB _ r [a] []]
 simp
theorem zkB (a : List UInt8) (h : ∀ c ∈ a, hasB [46] c = false) : zaE a = [a] := by
 unfold zaE splitB spl
 rw [zlG _ a [] [] h]
 simp
def txt (a b c d : Nat) : List UInt8 := dec3 a ++ [46] ++ (dec3 b ++ [46] ++ (dec3 c ++ [46] ++ dec3 d))
theorem zpE (a b c d : Nat) (ha : a < 256) (hb : b < 256) (hc : c < 256) (hd : d < 256) : zaE (txt a b c d) = [dec3 a, dec3 b, dec3 c, dec3 d] := by
 unfold txt
 rw [ziP _ _ (zlB a ha), ziP _ _ (zlB b hb), ziP _ _ (zlB c hc), zkB _ (zlB d hd)]
theorem z8T (a b c d : Nat) (ha : a < 256) (hb : b < 256) (hc : c < 256) (hd : d < 256) : zeJ (txt a b c d) = ((a : Int) * 16777216 + b * 65536 + c * 256 + d, true) := by
 unfold zeJ z9W
 rw [zpE a b c d ha hb hc hd]
 have hk : zgE [dec3 a, dec3 b, dec3 c, dec3 d] = 4 := zdU 3 _ rfl (.inr (zvX d hd))
 rw [hk]
 have l0 : limZ 4 0 = 256 := rfl
 have l1 : limZ 4 (0 + 1) = 256 := rfl
 have l2 : limZ 4 (0 + 1 + 1) = 256 := rfl
 have l3 : limZ 4 (0 + 1 + 1 + 1) = 256 := rfl
 have v0 : wtZ 4 0 = 16777216 := rfl
 have v1 : wtZ 4 (0 + 1) = 65536 := rfl
 have v2 : wtZ 4 (0 + 1 + 1) = 256 := rfl
 have v3 : wtZ 4 (0 + 1 + 1 + 1) = 1 := rfl
 show (if 4 < 4 then _ else goF 4 0 0 [dec3 a, dec3 b, dec3 c, dec3 d]) = _
 rw [if_neg (by omega)]
 unfold goF
 rw [zlL a ha, l0, v0, if_pos ⟨rfl, by show (a : Int) < 256; omega⟩]
 unfold goF
 rw [zlL b hb, l1, v1, if_pos ⟨rfl, by show (b : Int) < 256; omega⟩]
 unfold goF
 rw [zlL c hc, l2, v2, if_pos ⟨rfl, by show (c : Int) < 256; omega⟩]
 unfold goF
 rw [zlL d hd, l3, v3, if_pos ⟨rfl, by show (d : Int) < 256; omega⟩]
 unfold goF
 congr 1
 show (0 : Int) + (a : Int) * 16777216 + (b : Int) * 65536 + (c : Int) * 256 + (d : Int) * 1 = _
 omega
/-- the text of a number of 32 bits -/
def txtZ (n : Int) : List UInt8 := txt (n / 16777216).toNat (n / 65536 % 256).toNat (n / 256 % 256).toNat (n % 256).toNat
theorem z9D (n : Int) : (txtZ n).length ≤ 15 := by
 unfold txtZ txt
 have h1 := zbT (n / 16777216).toNat
 have h2 := zbT (n / 65536 % 256).toNat
 have h3 := zbT (n / 256 % 256).toNat
 have h4 := zbT (n % 256).toNat
 simp only [List.length_append, List.length_cons, List.length_nil]
 omega
theorem z6M (n : Int) (h0 : 0 ≤ n) (h1 : n ≤ 4294967295) : zeJ (txtZ n) = (n, true) := by
 unfold txtZ
 rw [z8T _ _ _ _ (by omega) (by omega) (by omega) (by omega)]
 congr 1
 omega
end
section
open Go.RowKit
abbrev PowTab (w : World) : Prop := Lib.TabIs Tryz.prog w "internal/strconv.uint64pow10" .u64 Lib.pow10Tab
theorem zbF {w w' : World} (h : PowTab w) (hb : Below w.heap.size w w') : PowTab w' :=
 Lib.tabBelow_of_tabIs h w' hb
theorem zfK (n : Int) (w : World) (h0 : 0 ≤ n) (h1 : n ≤ 255) (htab : PowTab w) :
  Calls Tryz.prog 121 #[.int .i64 n] w fun e w' => e = .returned (.string ⟨(dec3 n.toNat).toArray⟩) ∧ Below w.heap.size w w' := by
 refine (Tryz.strconv_Itoa n (by omega) (by omega) w htab).mono ?_
 rintro e w' ⟨rfl, k, os, rfl⟩
 rw [z2W n h0 (by omega)]
 exact ⟨rfl, Lib.below_grow _ _ (Nat.le_refl _) _ _⟩
theorem zqC (x : Int) (_h : 0 ≤ x) : IntKind.u8.wrap x = x % 256 := by rw [IntKind.wrap_u8]
theorem z0Y (n : Int) (w : World) (h0 : 0 ≤ n) (h1 : n ≤ 4294967295) :
  Calls Tryz.prog 239 #[.int .u32 n] w fun e w' => e = .returned (.agg #[.int .u8 (n / 16777216), .int .u8 (n / 65536 % 256), .int .u8 (n / 256 % 256), .int .u8 (n % 256)]) ∧ Below w.heap.size w w' := by
 have e1 : IntKind.u8.wrap (n / 16777216) = n / 16777216 := by rw [zqC _ (by omega)]; omega
 have e2 : IntKind.u8.wrap (n / 65536) = n / 65536 % 256 := zqC _ (by omega)
 have e3 : IntKind.u8.wrap (n / 256) = n / 256 % 256 := zqC _ (by omega)
 have e4 : IntKind.u8.wrap n = n % 256 := zqC _ (by omega)
 go_enter Tryz.func239, Tryz.ntmps239
 go_wp2
 exact bodyPost_ret (v := .agg #[.int .u8 (n / 16777216), .int .u8 (n / 65536 % 256), .int .u8 (n / 256 % 256), .int .u8 (n % 256)]) (by simp [results, Tryz.results239, go_sem]) rfl ⟨rfl, (Below.refl _ _).alloc (Nat.le_refl _) _⟩
theorem zyO (i : Nat) (x y : Int) (hx0 : 0 ≤ x) (hx : x % 2 ^ i = 0) (hx1 : x < 18446744073709551616) (hy0 : 0 ≤ y) (hy : y < 2 ^ i) (hy1 : y < 18446744073709551616) : bits .or .u64 x y = x + y :=
 bits_join .u64 64 (by decide) (fun n h0 h1 => by rw [IntKind.wrap_u64]; omega) i x y hx0 hx hx1 hy0 hy hy1
theorem zqS (n : Int) (w : World) (h0 : 0 ≤ n) (h1 : n ≤ 4294967295) :
  Calls Tryz.prog 238 #[.int .u32 n] w fun e w' => e = .returned (.tuple #[.int .u64 0, .int .u64 (281470681743360 + n)]) ∧ w = w' := by
 have hor : bits .or .u64 281470681743360 n = 281470681743360 + n := zyO 32 _ _ (by omega) (by decide) (by omega) h0 (by omega) (by omega)
 go_enter Tryz.func238, Tryz.ntmps238
 go_wp2
 go_ret2
 exact ⟨rfl, rfl⟩
end
section
open Go.RowKit
theorem cat2 (x y : List UInt8) : ByteArray.mk x.toArray ++ ByteArray.mk y.toArray = ByteArray.mk (x ++ y).toArray := zhN x y
theorem cat3 (x y : List UInt8) : ByteArray.mk x.toArray ++ ByteArray.mk #[46] ++ ByteArray.mk y.toArray = ByteArray.mk (x ++ [46] ++ y).toArray := by
 rw [show (ByteArray.mk #[46]) = ByteArray.mk [46].toArray from rfl, zhN, zhN]
theorem z7V (W : World) (a b c d : Int) : (Instr.index 249 (.agg #[.int .u8 a, .int .u8 b, .int .u8 c, .int .u8 d]) (.int .i64 0)).run Tryz.prog W = .ok (.int .u8 a) W := by
 simp [Instr.index, run_underlying Tryz.underlying249, asIntOf, go_sem, Tryz.sizeOf5, Tryz.isAgg5]
theorem z7O (W : World) (a b c d : Int) : (Instr.index 249 (.agg #[.int .u8 a, .int .u8 b, .int .u8 c, .int .u8 d]) (.int .i64 1)).run Tryz.prog W = .ok (.int .u8 b) W := by
 simp [Instr.index, run_underlying Tryz.underlying249, asIntOf, go_sem, Tryz.sizeOf5, Tryz.isAgg5]
theorem z9Q (W : World) (a b c d : Int) : (Instr.index 249 (.agg #[.int .u8 a, .int .u8 b, .int .u8 c, .int .u8 d]) (.int .i64 2)).run Tryz.prog W = .ok (.int .u8 c) W := by
 simp [Instr.index, run_underlying Tryz.underlying249, asIntOf, go_sem, Tryz.sizeOf5, Tryz.isAgg5]
theorem z8N (W : World) (a b c d : Int) : (Instr.index 249 (.agg #[.int .u8 a, .int .u8 b, .int .u8 c, .int .u8 d]) (.int .i64 3)).run Tryz.prog W = .ok (.int .u8 d) W := by
 simp [Instr.index, run_underlying Tryz.underlying249, asIntOf, go_sem, Tryz.sizeOf5, Tryz.isAgg5]
def z2E (b0 b1 b2 b3 : Int) : Nat → List UInt8
 | 0 => []
 | 1 => dec3 b0.toNat
 | 2 => dec3 b0.toNat ++ [46] ++ dec3 b1.toNat
 | 3 => dec3 b0.toNat ++ [46] ++ dec3 b1.toNat ++ [46] ++ dec3 b2.toNat
 | _ => dec3 b0.toNat ++ [46] ++ dec3 b1.toNat ++ [46] ++ dec3 b2.toNat ++ [46] ++ dec3 b3.toNat
theorem zjR (b0 b1 b2 b3 : Int) (k : Nat) : (z2E b0 b1 b2 b3 k).length ≤ 15 := by
 have h1 := zbT b0.toNat
 have h2 := zbT b1.toNat
 have h3 := zbT b2.toNat
 have h4 := zbT b3.toNat
 unfold z2E
 split
 all_goals first | (simp; done) | (simp; omega) | omega
theorem zsM (n : Int) : z2E (n / 16777216) (n / 65536 % 256) (n / 256 % 256) (n % 256) 4 = txtZ n := by
 simp [z2E, txtZ, txt]
def zgN (w : World) (l : List UInt8) (e : Ending) (w' : World) : Prop := e = .returned (.string ⟨l.toArray⟩) ∧ Below w.heap.size w w'
theorem z4G (n : Int) (w : World) (h0 : 0 ≤ n) (h1 : n ≤ 4294967295) (htab : PowTab w) :
  Calls Tryz.prog 237 #[.int .u32 n] w (zgN w (txtZ n)) := by
 have HT0 := Lib.hid htab
 have HE := Lib.hid (zsM n)
 clear htab
 go_enter Tryz.func237, Tryz.ntmps237
 go_wp2_with fail
 refine (z0Y n _ h0 h1).mono ?_
 rintro e w1 ⟨rfl, hb1⟩
 obtain ⟨b0, hb0⟩ : ∃ b, n / 16777216 = b := ⟨_, rfl⟩
 obtain ⟨b1, hb1'⟩ : ∃ b, n / 65536 % 256 = b := ⟨_, rfl⟩
 obtain ⟨b2, hb2'⟩ : ∃ b, n / 256 % 256 = b := ⟨_, rfl⟩
 obtain ⟨b3, hb3'⟩ : ∃ b, n % 256 = b := ⟨_, rfl⟩
 have l0 : 0 ≤ b0 := by omega
 have l1 : 0 ≤ b1 := by omega
 have l2 : 0 ≤ b2 := by omega
 have l3 : 0 ≤ b3 := by omega
 have m0 : b0 ≤ 255 := by omega
 have m1 : b1 ≤ 255 := by omega
 have m2 : b2 ≤ 255 := by omega
 have m3 : b3 ≤ 255 := by omega
 rw [hb0, hb1', hb2', hb3']
 have he := HE.out
 rw [hb0, hb1', hb2', hb3'] at he
 have HE2 := Lib.hid he
 clear he hb0 hb1' hb2' hb3'
 have HT1 := Lib.hid (zbF HT0.out hb1)
 go_wp2
 go_loopw [3, 8] (fun v i wr => ∃ (k : Nat), k ≤ 4 ∧ i = .int .i64 k ∧ v = .string ⟨(z2E b0 b1 b2 b3 k).toArray⟩ ∧ Hid (PowTab wr) ∧ Below w.heap.size w wr) (fun _ i _ => 4 - (intOf i).toNat)
 case atStart => exact ⟨0, by omega, rfl, rfl, HT1, hb1⟩
 case round =>
  obtain ⟨k, hk, rfl, rfl, HT, hbw⟩ := hrel
  rcases (show k = 0 ∨ k = 1 ∨ k = 2 ∨ k = 3 ∨ k = 4 from by omega) with rfl | rfl | rfl | rfl | rfl
  ·try rw [show ((0 : Nat) : Int) = 0 from rfl]
   have hix := fun W => z7V W b0 b1 b2 b3
   have q1 := zbT b0.toNat
   have q2 := zjR b0 b1 b2 b3 0
   go_wp2_with fail
   refine (zfK b0 _ (by omega) (by omega) HT.out).mono ?_
   rintro e w2 ⟨rfl, hb2⟩
   have hc2 : Below w.heap.size w w2 := hbw.trans (hb2.mono hbw.size)
   have HT2 := Lib.hid (zbF HT.out hb2)
   clear hb2
   go_wp2
   go_roundw
   case rel => exact ⟨1, by omega, (by first | rfl | go_num), (by first | rfl | exact congrArg Value.string (cat3 _ _) | exact congrArg Value.string (cat2 _ _)), HT2, hc2⟩
   case measure => first | (simp [intOf]; done) | (simp [intOf]; omega)
  ·try rw [show ((1 : Nat) : Int) = 1 from rfl]
   have hix := fun W => z7O W b0 b1 b2 b3
   have q1 := zbT b1.toNat
   have q2 := zjR b0 b1 b2 b3 1
   go_wp2_with fail
   refine (zfK b1 _ (by omega) (by omega) HT.out).mono ?_
   rintro e w2 ⟨rfl, hb2⟩
   have hc2 : Below w.heap.size w w2 := hbw.trans (hb2.mono hbw.size)
   have HT2 := Lib.hid (zbF HT.out hb2)
   clear hb2
   go_wp2
   go_roundw
   case rel => exact ⟨2, by omega, (by first | rfl | go_num), (by first | rfl | exact congrArg Value.string (cat3 _ _) | exact congrArg Value.string (cat2 _ _)), HT2, hc2⟩
   case measure => first | (simp [intOf]; done) | (simp [intOf]; omega)
  ·try rw [show ((2 : Nat) : Int) = 2 from rfl]
   have hix := fun W => z9Q W b0 b1 b2 b3
   have q1 := zbT b2.toNat
   have q2 := zjR b0 b1 b2 b3 2
   go_wp2_with fail
   refine (zfK b2 _ (by omega) (by omega) HT.out).mono ?_
   rintro e w2 ⟨rfl, hb2⟩
   have hc2 : Below w.heap.size w w2 := hbw.trans (hb2.mono hbw.size)
   have HT2 := Lib.hid (zbF HT.out hb2)
   clear hb2
   go_wp2
   go_roundw
   case rel => exact ⟨3, by omega, (by first | rfl | go_num), (by first | rfl | exact congrArg Value.string (cat3 _ _) | exact congrArg Value.string (cat2 _ _)), HT2, hc2⟩
   case measure => first | (simp [intOf]; done) | (simp [intOf]; omega)
  ·try rw [show ((3 : Nat) : Int) = 3 from rfl]
   have hix := fun W => z8N W b0 b1 b2 b3
   have q1 := zbT b3.toNat
   have q2 := zjR b0 b1 b2 b3 3
   go_wp2_with fail
   refine (zfK b3 _ (by omega) (by omega) HT.out).mono ?_
   rintro e w2 ⟨rfl, hb2⟩
   have hc2 : Below w.heap.size w w2 := hbw.trans (hb2.mono hbw.size)
   have HT2 := Lib.hid (zbF HT.out hb2)
   clear hb2
   go_wp2
   go_roundw
   case rel => exact ⟨4, by omega, (by first | rfl | go_num), (by first | rfl | exact congrArg Value.string (cat3 _ _) | exact congrArg Value.string (cat2 _ _)), HT2, hc2⟩
   case measure => first | (simp [intOf]; done) | (simp [intOf]; omega)
  ·try rw [show ((4 : Nat) : Int) = 4 from rfl]
   go_wp2
   go_ret
   exact ⟨congrArg (fun l : List UInt8 => Ending.returned (.string ⟨l.toArray⟩)) HE2.out, hbw⟩
theorem zsW (n : Int) (w : World) (h0 : 0 ≤ n) (h1 : n ≤ 4294967295) (htab : PowTab w) :
  Calls Tryz.prog 93 #[.int .u32 n] w (zgN w (txtZ n)) := by
 have HT0 := Lib.hid htab
 have HE := Lib.hid (zsM n)
 clear htab
 have q1 := zbT (n / 16777216).toNat
 have q2 := zbT (n / 65536 % 256).toNat
 have q3 := zbT (n / 256 % 256).toNat
 have q4 := zbT (n % 256).toNat
 go_enter Tryz.func93, Tryz.ntmps93
 go_wp2_with fail
 refine (zfK _ _ (by omega) (by omega) HT0.out).mono ?_
 rintro e w1 ⟨rfl, hb1⟩
 have HT1 := Lib.hid (zbF HT0.out hb1)
 go_wp2_with fail
 refine (zfK _ _ (by omega) (by omega) HT1.out).mono ?_
 rintro e w2 ⟨rfl, hb2⟩
 have HT2 := Lib.hid (zbF HT1.out hb2)
 have hc2 : Below w.heap.size w w2 := hb1.trans (hb2.mono hb1.size)
 clear hb1 hb2
 go_wp2_with fail
 refine (zfK _ _ (by omega) (by omega) HT2.out).mono ?_
 rintro e w3 ⟨rfl, hb3⟩
 have HT3 := Lib.hid (zbF HT2.out hb3)
 have hc3 : Below w.heap.size w w3 := hc2.trans (hb3.mono hc2.size)
 clear hc2 hb3
 go_wp2_with fail
 refine (zfK _ _ (by omega) (by omega) HT3.out).mono ?_
 rintro e w4 ⟨rfl, hb4⟩
 have hc4 : Below w.heap.size w w4 := hc3.trans (hb4.mono hc3.size)
 clear hc3 hb4
 go_wp2
 go_ret
 have hcat : ByteArray.mk (dec3 (n / 16777216).toNat).toArray ++ ByteArray.mk #[46] ++ ByteArray.mk (dec3 (n / 65536 % 256).toNat).toArray ++ ByteArray.mk #[46] ++ ByteArray.mk (dec3 (n / 256 % 256).toNat).toArray ++ ByteArray.mk #[46] ++ ByteArray.mk (dec3 (n % 256).toNat).toArray = ⟨(txtZ n).toArray⟩ := by
  rw [cat3, cat3, cat3, ← HE.out]
  rfl
 exact ⟨congrArg (fun b : ByteArray => Ending.returned (.string b)) hcat, hc4⟩
end
section
open Go.RowKit
theorem dec3_1 : ∀ i : Fin 10, dec3 i.val = [UInt8.ofNat (48 + i.val)] := by decide +kernel
theorem dec3_2 : ∀ i j : Fin 10, i.val ≠ 0 → dec3 (i.val * 10 + j.val) = [UInt8.ofNat (48 + i.val), UInt8.ofNat (48 + j.val)] := by decide +kernel
theorem dec3_3 : ∀ i j k : Fin 10, i.val ≠ 0 → dec3 ((i.val * 10 + j.val) * 10 + k.val) = [UInt8.ofNat (48 + i.val), UInt8.ofNat (48 + j.val), UInt8.ofNat (48 + k.val)] := by decide +kernel
theorem zeG (c : UInt8) (h : digC 10 c = true) : ∃ i : Nat, i < 10 ∧ c = UInt8.ofNat (48 + i) ∧ c.toNat = 48 + i ∧ valZ (c.toNat : Int) = (i : Int) := by
 rw [ziH] at h
 obtain ⟨h1, h2⟩ := ztV h
 refine ⟨c.toNat - 48, by omega, ?_, by omega, ?_⟩
 ·apply UInt8.toNat_inj.1
  rw [show 48 + (c.toNat - 48) = c.toNat from by omega]
  simp
 ·rw [zoM h1 h2]; omega
theorem zjF (p : List UInt8) (x : Int) (h : decZ p 255 = (x, true)) : 0 ≤ x ∧ x ≤ 255 ∧ p = dec3 x.toNat := by
 have hb := zgZ p 255 (by decide)
 rw [h] at hb
 refine ⟨hb.1, hb.2, ?_⟩
 unfold decZ at h
 split at h
 ·exact absurd (congrArg Prod.snd h) (by simp)
 ·rename_i hc
  split at h
  ·exact absurd (congrArg Prod.snd h) (by simp)
  ·rename_i hm
   have hx : decN p = x := congrArg Prod.fst h
   have hd : zbL 10 p = true := by
    cases hd : zbL 10 p with
    | true => rfl
    | false => rw [hd] at hc; simp at hc
   rw [hd] at hc
   have hall : ∀ c ∈ p, digC 10 c = true := List.all_eq_true.1 hd
   match p, hx, hc, hall, hm, hd with
   | [], _, hc, _, _, _ => simp at hc
   | [a], hx, _, hall, _, _ =>
    obtain ⟨i, hi, ha, _, hv⟩ := zeG a (hall a (by simp))
    have : x = (i : Int) := by rw [← hx]; simp [decN, hv]
    rw [this, ha]
    exact (dec3_1 ⟨i, hi⟩).symm
   | [a, b], hx, hc, hall, _, _ =>
    obtain ⟨i, hi, ha, hna, hva⟩ := zeG a (hall a (by simp))
    obtain ⟨j, hj, hb', _, hvb⟩ := zeG b (hall b (by simp))
    have hi0 : i ≠ 0 := by
     intro e
     apply hc
     simp [hna, e]
    have : x = ((i * 10 + j : Nat) : Int) := by rw [← hx]; simp [decN, hva, hvb]
    rw [this, ha, hb']
    exact (dec3_2 ⟨i, hi⟩ ⟨j, hj⟩ hi0).symm
   | [a, b, c], hx, hc, hall, _, _ =>
    obtain ⟨i, hi, ha, hna, hva⟩ := zeG a (hall a (by simp))
    obtain ⟨j, hj, hb', _, hvb⟩ := zeG b (hall b (by simp))
    obtain ⟨k, hk, hc', _, hvc⟩ := zeG c (hall c (by simp))
    have hi0 : i ≠ 0 := by
     intro e
     apply hc
     simp [hna, e]
    have : x = (((i * 10 + j) * 10 + k : Nat) : Int) := by rw [← hx]; simp [decN, hva, hvb, hvc]
    rw [this, ha, hb', hc']
    exact (dec3_3 ⟨i, hi⟩ ⟨j, hj⟩ ⟨k, hk⟩ hi0).symm
   | a :: b :: c :: d :: r, hx, hc, hall, hm, hd =>
    exfalso
    obtain ⟨i, hi, ha, hna, hva⟩ := zeG a (hall a (by simp))
    obtain ⟨j, hj, _, _, hvb⟩ := zeG b (hall b (by simp))
    obtain ⟨k, hk, _, _, hvc⟩ := zeG c (hall c (by simp))
    obtain ⟨l, hl, _, _, hvd⟩ := zeG d (hall d (by simp))
    have hi0 : i ≠ 0 := by
     intro e
     apply hc
     simp [hna, e]
    have h4 := zkY (a :: b :: c :: d :: r) 4 hd
    have e4 : decN ((a :: b :: c :: d :: r).take 4) = (((i : Int) * 10 + j) * 10 + k) * 10 + l := by simp [decN, hva, hvb, hvc, hvd]
    omega
theorem z6S (l : List (List UInt8)) : ∀ (A x : Int), goS A l = (x, false) → x = 0 := by
 induction l with
 | nil => intro A x h; exact absurd (congrArg Prod.snd h) (by simp [goS])
 | cons p r ih =>
  intro A x h
  unfold goS at h
  split at h
  ·exact ih _ _ h
  ·exact (congrArg Prod.fst h).symm
theorem zrZ (l : List UInt8) (x : Int) (h : zaO l = (x, false)) : x = 0 := by
 unfold zaO at h
 split at h
 ·exact z6S _ _ _ h
 ·exact (congrArg Prod.fst h).symm
theorem zlI {A x : Int} {p : List UInt8} {r : List (List UInt8)} (h : goS A (p :: r) = (x, true)) : ∃ y, decZ p 255 = (y, true) ∧ goS (A * 256 + y) r = (x, true) := by
 unfold goS at h
 split at h
 ·rename_i hp
  refine ⟨(decZ p 255).1, ?_, h⟩
  rw [← hp]
 ·exact absurd (congrArg Prod.snd h) (by simp)
theorem zxG (l : List UInt8) (x : Int) (h : zaO l = (x, true)) : 0 ≤ x ∧ x ≤ 4294967295 ∧ l = txtZ x := by
 unfold zaO at h
 split at h
 ·rename_i hl
  have hj : Lib.join (zaE l) [46] = l := z0X l 46
  match hd : zaE l, hl, h, hj with
  | [p0, p1, p2, p3], _, h, hj =>
   obtain ⟨x0, d0, h⟩ := zlI h
   obtain ⟨x1, d1, h⟩ := zlI h
   obtain ⟨x2, d2, h⟩ := zlI h
   obtain ⟨x3, d3, h⟩ := zlI h
   have hx : (((0 * 256 + x0) * 256 + x1) * 256 + x2) * 256 + x3 = x := congrArg Prod.fst h
   obtain ⟨a0, b0, rfl⟩ := zjF p0 x0 d0
   obtain ⟨a1, b1, rfl⟩ := zjF p1 x1 d1
   obtain ⟨a2, b2, rfl⟩ := zjF p2 x2 d2
   obtain ⟨a3, b3, rfl⟩ := zjF p3 x3 d3
   refine ⟨by omega, by omega, ?_⟩
   rw [← hj]
   have e0 : x / 16777216 = x0 := by omega
   have e1 : x / 65536 % 256 = x1 := by omega
   have e2 : x / 256 % 256 = x2 := by omega
   have e3 : x % 256 = x3 := by omega
   unfold txtZ
   rw [e0, e1, e2, e3]
   simp [Lib.join, txt, List.intercalate]
 ·exact absurd (congrArg Prod.snd h) (by simp)
end
section
open Go.RowKit
def valP (b : Int) (L : List UInt8) : Int := L.foldl (fun n c => n * b + valZ (c.toNat : Int)) 0
def dgt (d : Nat) : UInt8 := if d < 10 then UInt8.ofNat (48 + d) else UInt8.ofNat (87 + d)
theorem z9U : ∀ d : Fin 16, valZ ((dgt d.val).toNat : Int) = (d.val : Int) := by decide +kernel
theorem zqQ (d : Nat) (h : d < 16) : valZ ((dgt d).toNat : Int) = (d : Int) := z9U ⟨d, h⟩
theorem z3A (b : Int) (d : Nat) (h : d < 16) (hb : (d : Int) < b) : digC b (dgt d) = true := ziX (zqQ d h) (by omega) hb
theorem z6K (b : Int) (L : List UInt8) : ∀ a : Int, L.foldl (fun n c => n * b + valZ (c.toNat : Int)) a = a * b ^ L.length + valP b L := by
 unfold valP
 induction L with
 | nil => intro a; simp
 | cons c L ih =>
  intro a
  simp only [List.foldl_cons, List.length_cons]
  rw [ih, ih (0 * b + _), Int.pow_succ]
  rw [Int.zero_mul, Int.zero_add, Int.add_mul, Int.mul_assoc, Int.mul_comm b (b ^ L.length), Int.add_assoc]
theorem zsE (b : Int) (c : UInt8) (L : List UInt8) : valP b (c :: L) = valZ (c.toNat : Int) * b ^ L.length + valP b L := by
 show (c :: L).foldl _ 0 = _
 rw [List.foldl_cons, z6K, Int.zero_mul, Int.zero_add]
theorem z3E (b : Nat) (v : Nat) (T : List UInt8) (u : Int) (hd : v % b < 16) (h : (v : Int) * (b : Int) ^ T.length + valP b T = u) :
  ((v / b : Nat) : Int) * (b : Int) ^ (dgt (v % b) :: T).length + valP b (dgt (v % b) :: T) = u := by
 rw [zsE, zqQ _ hd, ← h, List.length_cons, Int.pow_succ]
 have e : (v : Int) = ((v / b : Nat) : Int) * b + ((v % b : Nat) : Int) := by
  have := Nat.div_add_mod v b
  have h2 : v = (v / b) * b + v % b := by rw [Nat.mul_comm]; exact this.symm
  exact_mod_cast h2
 conv => rhs; rw [e]
 rw [Int.add_mul, Int.mul_assoc, Int.mul_comm (b : Int) ((b : Int) ^ T.length)]
 omega
theorem zmO (b : Int) (hb : 0 ≤ b) (L : List UInt8) (hd : zbL b L = true) : 0 ≤ valP b L := by
 have key : ∀ (L : List UInt8) (n : Int), 0 ≤ n → zbL b L = true → 0 ≤ L.foldl (fun n c => n * b + valZ (c.toNat : Int)) n := by
  intro L
  induction L with
  | nil => intro n h _; exact h
  | cons c L ih =>
   intro n h hd
   have h2 : digC b c = true ∧ zbL b L = true := by simpa [zbL] using hd
   have h3 := of_decide_eq_true h2.1
   have hp : 0 ≤ n * b := Int.mul_nonneg h hb
   exact ih (n * b + valZ (c.toNat : Int)) (by omega) h2.2
 exact key L 0 (Int.le_refl _) hd
end
section
open Go.RowKit Go.Sort Go.Lib
end
section
open Go.RowKit Go.Sort Go.Lib
def bruTab : List Int := [0, 1, 56, 2, 57, 49, 28, 3, 61, 58, 42, 50, 38, 29, 17, 4, 62, 47, 59, 36, 45, 43, 51, 22, 53, 39, 33, 30, 24, 18, 12, 5, 63, 55, 48, 27, 60, 41, 37, 16, 46, 35, 44, 21, 52, 32, 23, 11, 54, 26, 40, 15, 34, 20, 31, 10, 25, 14, 19, 9, 13, 8, 7, 6]
abbrev BruTab (w : World) : Prop := Lib.TabIs Tryz.prog w "math/bits.deBruijn64tab" .u8 bruTab
theorem zaY {w w' : World} (h : BruTab w) (hb : Below w.heap.size w w') : BruTab w' :=
 Lib.tabBelow_of_tabIs h w' hb
theorem bru_at (w : World) (h : BruTab w) (i : Nat) (hi : i < 64) : w.cell? ⟨3, i, none⟩ = some (.int .u8 (bruTab.getD i 0)) :=
 Lib.TabIs.cell h (by kernel_rfl) i (by simpa [bruTab] using hi)
theorem ycJ (w : World) (h : BruTab w) : Calls Tryz.prog 197 #[.int .u64 16] w fun e w' => e = .returned (.int .i64 4) ∧ w = w' := by
 have hc : w.cell? ⟨3, 15, none⟩ = some (.int .u8 4) := bru_at w h 15 (by decide)
 have e1 : IntKind.u64.wrap (-16) = 18446744073709551600 := by decide
 have e2 : bits .and .u64 16 18446744073709551600 = 16 := by decide
 clear h
 go_enter Tryz.func197, Tryz.ntmps197
 go_wp2
 go_ret
 exact ⟨rfl, rfl⟩
theorem tz_16 (w : World) (h : BruTab w) : Calls Tryz.prog 186 #[.int .u64 16] w fun e w' => e = .returned (.int .i64 4) ∧ w = w' := by
 have HT := Lib.hid h
 clear h
 go_enter Tryz.func186, Tryz.ntmps186
 go_wp2_with (go_at_call 197; refine (ycJ _ HT.out).mono ?_; rintro e w' ⟨rfl, rfl⟩)
 go_ret
 exact ⟨rfl, rfl⟩
theorem ycN (w : World) : Calls Tryz.prog 185 #[.int .i64 16] w fun e w' => e = .returned (.bool true) ∧ w = w' := by
 have e1 : bits .and .i64 16 15 = 0 := by decide
 go_enter Tryz.func185, Tryz.ntmps185
 go_wp2
 go_ret
 exact ⟨rfl, rfl⟩
def z3S : Array Value := #[.int .u8 0, .int .u8 0, .int .u8 0, .int .u8 0, .int .u8 0, .int .u8 0, .int .u8 0, .int .u8 0, .int .u8 0, .int .u8 0, .int .u8 0, .int .u8 0, .int .u8 0, .int .u8 0, .int .u8 0, .int .u8 0, .int .u8 0, .int .u8 0, .int .u8 0, .int .u8 0, .int .u8 0, .int .u8 0, .int .u8 0, .int .u8 0, .int .u8 0, .int .u8 0, .int .u8 0, .int .u8 0, .int .u8 0, .int .u8 0, .int .u8 0, .int .u8 0, .int .u8 0, .int .u8 0, .int .u8 0, .int .u8 0, .int .u8 0, .int .u8 0, .int .u8 0, .int .u8 0, .int .u8 0, .int .u8 0, .int .u8 0, .int .u8 0, .int .u8 0, .int .u8 0, .int .u8 0, .int .u8 0, .int .u8 0, .int .u8 0, .int .u8 0, .int .u8 0, .int .u8 0, .int .u8 0, .int .u8 0, .int .u8 0, .int .u8 0, .int .u8 0, .int .u8 0, .int .u8 0, .int .u8 0, .int .u8 0, .int .u8 0, .int .u8 0, .int .u8 0]
/-- the array's bytes from i on are T -/
def zeY (B i : Nat) (T : List UInt8) (w : World) : Prop :=
 ∃ cur : Array Value, w.heap[B]? = some (.cells cur 211 (0, 0)) ∧ cur.size = 65 ∧ i + T.length = 65 ∧ ∀ j x, T[j]? = some x → cur[i + j]? = some (.int .u8 (x.toNat : Int))
theorem zqH (w : World) : zeY w.heap.size 65 [] (w.alloc (.cells z3S 211)) :=
 ⟨z3S, heap_alloc_new w _, rfl, rfl, fun j x h => by simp at h⟩
theorem zeY.cell {B i : Nat} {T : List UInt8} {w : World} (h : zeY B i T w) (k : Nat) (hk : k < 65) : ∃ u, w.cell? ⟨B, k, none⟩ = some u := by
 obtain ⟨cur, h1, h2, _, _⟩ := h
 rw [cell_of_row w B k cur _ _ h1]
 exact ⟨_, Array.getElem?_eq_getElem (by omega)⟩
theorem zeY.frozen {B i : Nat} {T : List UInt8} {w : World} (h : zeY B i T w) (k : Nat) : w.frozen? ⟨B, k, none⟩ = false := by
 obtain ⟨cur, h1, _, _, _⟩ := h
 simp [World.frozen?, h1]
theorem zeY.put {B i : Nat} {T : List UInt8} {w : World} (h : zeY B (i + 1) T w) (c : UInt8) : zeY B i (c :: T) (w.setCell ⟨B, i, none⟩ (.int .u8 (c.toNat : Int))) := by
 obtain ⟨cur, h1, h2, h3, h4⟩ := h
 refine ⟨cur.setIfInBounds i (.int .u8 (c.toNat : Int)), ?_, by simpa using h2, by simp; omega, fun j x hj => ?_⟩
 ·simp [World.setCell, Array.getElem?_modify, h1]
 ·rw [Array.getElem?_setIfInBounds]
  cases j with
  | zero =>
   simp at hj
   subst hj
   rw [if_pos (by omega), if_pos (by omega)]
  | succ j =>
   rw [if_neg (by omega), show i + (j + 1) = i + 1 + j from by omega]
   exact h4 j x (by simpa using hj)
theorem zeY.conv {B i : Nat} {T : List UInt8} {w : World} (h : zeY B i T w) :
  (convert 30 9 (.slice (some ⟨B, i, none⟩) (65 - i) (65 - i))).run Tryz.prog w = .ok (.string ⟨T.toArray⟩) w := by
 refine zeU w _ _ 5 _ _ ?_ Tryz.underlying30 Tryz.underlying5 Tryz.underlying9
 obtain ⟨cur, h1, h2, h3, h4⟩ := h
 refine ⟨_, 65 - i, by rw [Lib.byteCells_length, show 65 - i = T.length from by omega], fun j u hj => ⟨_, rfl, ?_⟩⟩
 rw [Lib.add_plain, cell_of_row w B (i + j) cur _ _ h1]
 have hx : ∃ x, T[j]? = some x ∧ u = .int .u8 (x.toNat : Int) := by
  simp only [Lib.byteCells, List.getElem?_map, Option.map_eq_some_iff] at hj
  obtain ⟨x, hx, rfl⟩ := hj
  exact ⟨x, hx, rfl⟩
 obtain ⟨x, hx, rfl⟩ := hx
 exact h4 j x hx
theorem dig36' : ∀ d : Fin 16, (ByteArray.mk #[48, 49, 50, 51, 52, 53, 54, 55, 56, 57, 97, 98, 99, 100, 101, 102, 103, 104, 105, 106, 107, 108, 109, 110, 111, 112, 113, 114, 115, 116, 117, 118, 119, 120, 121, 122])[d.val]? = some (dgt d.val) := by decide +kernel
theorem dig36 (W : World) (d : Nat) (h : d < 16) : (Instr.index 9 (.string ⟨#[48, 49, 50, 51, 52, 53, 54, 55, 56, 57, 97, 98, 99, 100, 101, 102, 103, 104, 105, 106, 107, 108, 109, 110, 111, 112, 113, 114, 115, 116, 117, 118, 119, 120, 121, 122]⟩) (.int .u64 (d : Int))).run Tryz.prog W = .ok (.int .u8 ((dgt d).toNat : Int)) W := by
 rw [run_index_string W 9 _ .u64 (d : Int) Tryz.underlying9, dif_pos ⟨by omega, by show (d : Int) < 36; omega⟩]
 have e := dig36' ⟨d, h⟩
 have e2 : (ByteArray.mk #[48, 49, 50, 51, 52, 53, 54, 55, 56, 57, 97, 98, 99, 100, 101, 102, 103, 104, 105, 106, 107, 108, 109, 110, 111, 112, 113, 114, 115, 116, 117, 118, 119, 120, 121, 122])[((d : Int)).toNat]'(by show _ < 36; omega) = dgt d := by
  rw [ByteArray.getElem?_lt' _ _ (by show d < 36; omega)] at e
  exact Option.some.inj e
 rw [e2]
theorem z5I (v l : Nat) (h : v < 2 ^ (64 - l)) (h8 : 8 ≤ v) : l ≤ 60 := by
 by_cases hl : l ≤ 60
 ·exact hl
 ·exfalso
  have : 2 ^ (64 - l) ≤ 2 ^ 3 := Nat.pow_le_pow_right (by decide) (by omega)
  omega
theorem z8O (v l b : Nat) (h : v < 2 ^ (64 - l)) (hl : l ≤ 60) (hb : 2 ≤ b) : v / b < 2 ^ (64 - (l + 1)) := by
 have e : 64 - l = (64 - (l + 1)) + 1 := by omega
 rw [e, Nat.pow_succ] at h
 rw [Nat.div_lt_iff_lt_mul (by omega)]
 exact Nat.lt_of_lt_of_le h (Nat.mul_le_mul_left _ hb)
end
end

end Go.Proofs.YtphapecoimlngaaGreatDoor
