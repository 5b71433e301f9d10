/-
  What the law DomainJoins leans on, and its walk (3 of 17).
-/
import Derived.Laws.BitsLemmas
import Derived.Lib.ItoaNum
import Derived.Test.YtphapecoimlngaaGreatDoorShelf
import Derived.Lib.AppendIntMem
import Derived.Lib.SmallJoins
import Derived.Test.YtphapecoimlngaaGreatDoorDomainJoinsPkB
import Derived.Test.YtphapecoimlngaaGreatDoorDomainJoinsPkA
namespace Go.Proofs.YtphapecoimlngaaGreatDoor
set_option maxRecDepth 100000
set_option maxHeartbeats 16000000
section
section
open Go.RowKit
def limZ (n i : Nat) : Int := if i + 1 = n then 256 ^ (5 - n) else 256
def wtZ (n i : Nat) : Int := if i + 1 = n then 1 else 256 ^ (3 - i)
def goF (n : Nat) : Nat → Int → List (List UInt8) → Int × Bool
 | _, A, [] => (A, true)
 | i, A, p :: r => if (zbN p).2 = true ∧ (zbN p).1 < limZ n i then goF n (i + 1) (A + (zbN p).1 * wtZ n i) r else (0, false)
/-- how many parts count -/
def zfJ (ps : List (List UInt8)) : Nat := if 1 < ps.length ∧ ps.getD (ps.length - 1) [] = [] then ps.length - 1 else ps.length
def z5Q (ps : List (List UInt8)) : Int × Bool := if 4 < zfJ ps then (0, false) else goF (zfJ ps) 0 0 (ps.take (zfJ ps))
def zfN (l : List UInt8) : Int × Bool := z5Q (zaF l)
theorem zrJ (b : Int) (hb : 0 ≤ b) (l : List UInt8) (hd : zbQ b l = true) : 0 ≤ numZ b l ∧ numZ b l ≤ 1099511627776 := by
 have key : ∀ (l : List UInt8) (n : Int), 0 ≤ n → n ≤ 1099511627776 → zbQ b l = true → 0 ≤ l.foldl (zrZ b) n ∧ l.foldl (zrZ b) n ≤ 1099511627776 := by
  intro l
  induction l with
  | nil => intro n h0 h1 _; exact ⟨h0, h1⟩
  | cons c l ih =>
   intro n h0 h1 hd
   have h2 : digC b c = true ∧ zbQ b l = true := by simpa [zbQ] using hd
   have h3 := of_decide_eq_true h2.1
   have hp : 0 ≤ n * b := Int.mul_nonneg h0 hb
   refine ih _ ?_ (z3Z _) h2.2
   unfold zrZ capZ
   split <;> omega
 exact key l 0 (Int.le_refl _) (by omega) hd
theorem zbG (l : List UInt8) : 0 ≤ (zbN l).1 ∧ (zbN l).1 ≤ 1099511627776 := by
 unfold zbN
 split
 ·exact ⟨Int.le_refl _, by show (0 : Int) ≤ _; omega⟩
 ·split
  ·have hb := zlZ l
   exact zrJ _ (by omega) _ (by assumption)
  ·exact ⟨Int.le_refl _, by show (0 : Int) ≤ _; omega⟩
theorem zrF (n k : Nat) (A : Int) (ps : List (List UInt8)) (h : n ≤ k) : goF n k A ((ps.take n).drop k) = (A, true) := by
 rw [List.drop_eq_nil_of_le (by simp; omega)]
 rfl
theorem zoK (n k : Nat) (ps : List (List UInt8)) (h : k < n) (hn : n ≤ ps.length) : (ps.take n).drop k = ps.getD k [] :: (ps.take n).drop (k + 1) := by
 rw [List.drop_eq_getElem_cons (by simp; omega)]
 congr 1
 rw [List.getElem_take, List.getD, List.getElem?_eq_getElem (by omega)]
 rfl
theorem zdB (n k : Nat) (A : Int) (ps : List (List UInt8)) (p : List UInt8) (x : Int) (h : k < n) (hn : n ≤ ps.length) (hp : ps.getD k [] = p) (hx : zbN p = (x, true)) (hl : x < limZ n k) :
  goF n k A ((ps.take n).drop k) = goF n (k + 1) (A + x * wtZ n k) ((ps.take n).drop (k + 1)) := by
 rw [zoK n k ps h hn, hp]
 show (if _ then _ else _) = _
 rw [hx, if_pos ⟨rfl, hl⟩]
theorem zeO (n k : Nat) (A : Int) (ps : List (List UInt8)) (p : List UInt8) (x : Int) (b : Bool) (h : k < n) (hn : n ≤ ps.length) (hp : ps.getD k [] = p) (hx : zbN p = (x, b)) (hl : b = false ∨ limZ n k ≤ x) :
  goF n k A ((ps.take n).drop k) = (0, false) := by
 rw [zoK n k ps h hn, hp]
 show (if _ then _ else _) = _
 rw [hx, if_neg]
 rintro ⟨h1, h2⟩
 rcases hl with h3 | h3
 ·rw [h3] at h1; cases h1
 ·exact absurd h2 (by show ¬ x < _; omega)
theorem zdV (n : Nat) (ps : List (List UInt8)) (h : ps.length = n + 1) (hc : n = 0 ∨ ps.getD n [] ≠ []) : zfJ ps = n + 1 := by
 unfold zfJ
 rw [h, Nat.add_sub_cancel, if_neg]
 rintro ⟨h1, h2⟩
 rcases hc with h3 | h3
 ·omega
 ·exact h3 h2
theorem zfZ (n : Nat) (ps : List (List UInt8)) (h : ps.length = n + 2) (hx : ps.getD (n + 1) [] = []) : zfJ ps = n + 1 := by
 unfold zfJ
 rw [h, show n + 2 - 1 = n + 1 from rfl, hx, if_pos ⟨by omega, rfl⟩]
theorem zmL {l : List UInt8} {n : Nat} (hk : zfJ (zaF l) = n) (h : n ≤ 4) : zfN l = goF n 0 0 (((zaF l).take n).drop 0) := by
 unfold zfN z5Q
 rw [hk, if_neg (by omega)]
 rfl
theorem zlE {l : List UInt8} {n : Nat} (hk : zfJ (zaF l) = n) (h : 4 < n) : zfN l = (0, false) := by
 unfold zfN z5Q
 rw [hk, if_pos h]
theorem zbW (i : Nat) (x y : Int) (hx0 : 0 ≤ x) (hx : x % 2 ^ i = 0) (hx1 : x < 4294967296) (hy0 : 0 ≤ y) (hy : y < 2 ^ i) (hy1 : y < 4294967296) : bits .or .u32 x y = x + y :=
 bits_join .u32 32 (by decide) (fun n h0 h1 => by rw [IntKind.wrap_u32]; omega) i x y hx0 hx hx1 hy0 hy hy1
theorem zbY.form2 {B : Nat} {w : World} {v : Value} {ps : List (List UInt8)} (h : zbY B w v ps) (hn : 0 < ps.length) :
  ∃ g cap, v = .slice (some ⟨g, 0, none⟩) ps.length cap ∧ ps.length ≤ cap ∧ g < w.heap.size ∧ ∀ j, j < ps.length → w.cell? ⟨g, j, none⟩ = some (.string ⟨(ps.getD j []).toArray⟩) := by
 obtain ⟨g, c, rfl, hg, hc⟩ := h.form hn
 refine ⟨g, c, rfl, ?_, hg, hc⟩
 unfold zbY at h
 rcases h.2 with ⟨h0, _⟩ | ⟨g', cap, cur, hv, _, _, hle, _⟩
 ·cases h0
 ·cases hv; exact hle
def zfX (w : World) (x : Int × Bool) (e : Ending) (w' : World) : Prop := e = .returned (.tuple #[.int .u32 x.1, .bool x.2]) ∧ Below w.heap.size w w'
theorem zaP {w w' : World} {x : Int × Bool} {n : Int} {b : Bool} (h : x = (n, b)) (hb : Below w.heap.size w w') : zfX w x (.returned (.tuple #[.int .u32 n, .bool b])) w' := by
 subst h; exact ⟨rfl, hb⟩
end
section
open Go.RowKit
theorem zvL (s : ByteArray) (w : World) (hs : s.size ≤ 1073741824) (hl : (zaF s.data.toList).length = 1) :
  Calls Tryz.prog 56 #[.string s] w (zfX w (zfN s.data.toList)) := by
 have HK := Lib.hid (zdV 0 _ hl (.inl rfl))
 have HL := Lib.hid hl
 clear hl
 have HZ := Lib.hid (zmL HK.out (by omega))
 go_enter Tryz.func56, Tryz.ntmps56
 go_wp2_with fail
 refine (zcE s _ _ hs).mono ?_
 rintro e w1 ⟨v, rfl, hp, hb1⟩
 have hp' : zbY w.heap.size w1 v (zaF s.data.toList) := hp
 obtain ⟨g, cap, rfl, hcap, hg, hcell⟩ := hp'.form2 (by rw [HL.out]; omega)
 rw [HL.out] at hcap hcell ⊢
 have HCELL := Lib.hid hcell
 clear hp hp' hcell
 go_wp2
 go_loopw [6, 36] (fun v i wr => ∃ (k : Nat) (A : Int), k ≤ 1 ∧ i = .int .i64 k ∧ v = .int .u32 A ∧ 0 ≤ A ∧ A < 4294967296 ∧ Hid (k ≤ 0 → A % 2 ^ (32 - 8 * k) = 0) ∧ Hid (goF 1 k A (((zaF s.data.toList).take 1).drop k) = zfN s.data.toList) ∧ Below w1.heap.size w1 wr) (fun _ i _ => 1 - (intOf i).toNat)
 case atStart => exact ⟨0, 0, by omega, rfl, rfl, by omega, by omega, fun _ => rfl, HZ.out.symm, Below.refl _ _⟩
 case round =>
  obtain ⟨k, A, hk, rfl, rfl, hA0, hA1, HM, HG, hbw⟩ := hrel
  by_cases hkL : k ≤ 0
  ·obtain ⟨p, hpk⟩ : ∃ p, (zaF s.data.toList).getD k [] = p := ⟨_, rfl⟩
   by_cases hLk : k = 0
   ·obtain rfl : k = 0 := by omega
    have hp : (zaF s.data.toList).getD 0 [] = p := hpk
    have hcx := HCELL.out 0 (by omega)
    rw [hp] at hcx
    have hcx2 : wr.cell? ⟨g, 0, none⟩ = some (.string ⟨p.toArray⟩) := (hbw.cell (p := ⟨g, 0, none⟩) hg).trans hcx
    obtain ⟨x, b, hpz⟩ : ∃ x b, zbN p = (x, b) := ⟨_, _, rfl⟩
    have hx0 : 0 ≤ x ∧ x ≤ 1099511627776 := by have h9 := zbG p; rw [hpz] at h9; exact h9
    obtain ⟨hx0, hx1⟩ := hx0
    have hpl : p.length ≤ s.size := by rw [← hp, ← zaK]; exact zbT _ _ _
    have hlim : limZ 1 0 = 4294967296 := by first | rfl | (subst hLk; rfl)
    have hwt : wtZ 1 0 = 1 := by first | rfl | (subst hLk; rfl)
    have hA : A % 2 ^ 32 = 0 := HM.out (by omega)
    have HP := Lib.hid hp
    have HPZ := Lib.hid hpz
    have HLIM := Lib.hid hlim
    have HWT := Lib.hid hwt
    have hLk1 : 0 ≤ 0 := by omega
    clear hp hpz hlim hwt hcx hpk hLk
    try rw [show ((0 : Nat) : Int) = 0 from rfl]
    by_cases hok : b = true ∧ x < 4294967296
    ·obtain ⟨rfl, hxl⟩ := hok
     have hor : bits .or .u32 A x = A + x := zbW 32 A _ hA0 hA hA1 (by omega) (by omega) (by omega)
     have hgo := HG.out
     rw [zdB 1 0 A _ p x (by omega) (by rw [HL.out]; omega) HP.out HPZ.out (by rw [HLIM.out]; exact hxl), HWT.out] at hgo
     have HG2 := Lib.hid hgo
     have HA := Lib.hid hA
     clear hgo hA
     go_wp2_with fail
     refine (zaL ⟨p.toArray⟩ _ (by rw [zaH]; omega)).mono ?_
     rw [zaJ, HPZ.out]
     rintro e w2 ⟨rfl, hb2⟩
     have hc2 : Below w1.heap.size w1 w2 := hbw.trans (hb2.mono hbw.size)
     clear hb2

     go_wp2
     go_roundw
     case rel =>
      refine ⟨1, A + x, by omega, (by first | rfl | go_num), rfl, by omega, ?_, ?_, ?_, hc2⟩
      ·have := HA.out; omega
      ·exact Lib.hid (fun h => by omega)
      ·rw [Int.mul_one] at HG2; exact HG2
     case measure => first | (simp [intOf]; done) | (simp [intOf]; omega)
    ·have HN := Lib.hid (HG.out.symm.trans (zeO 1 0 A _ p x b (by omega) (by rw [HL.out]; omega) HP.out HPZ.out (by rw [HLIM.out]; cases b with | false => exact .inl rfl | true => exact .inr (by have h8 : ¬ x < 4294967296 := fun h => hok ⟨rfl, h⟩; omega))))
     have HOK := Lib.hid hok
     clear hok
     cases b with
     | false =>
      go_wp2_with fail
      refine (zaL ⟨p.toArray⟩ _ (by rw [zaH]; omega)).mono ?_
      rw [zaJ, HPZ.out]
      rintro e w2 ⟨rfl, hb2⟩
      have hc2 : Below w1.heap.size w1 w2 := hbw.trans (hb2.mono hbw.size)
      clear hb2

      go_wp2
      go_ret2
      exact zaP HN.out (hb1.trans (hc2.mono hb1.size))
     | true =>
      have hxl : 4294967296 ≤ x := by have h8 : ¬ x < 4294967296 := fun h => HOK.out ⟨rfl, h⟩; omega
      go_wp2_with fail
      refine (zaL ⟨p.toArray⟩ _ (by rw [zaH]; omega)).mono ?_
      rw [zaJ, HPZ.out]
      rintro e w2 ⟨rfl, hb2⟩
      have hc2 : Below w1.heap.size w1 w2 := hbw.trans (hb2.mono hbw.size)
      clear hb2

      go_wp2
      go_ret2
      exact zaP HN.out (hb1.trans (hc2.mono hb1.size))
   ·omega
  ·obtain rfl : k = 1 := by omega
   have hfin := HG.out
   rw [zrF 1 1 A _ (Nat.le_refl _)] at hfin
   have HF := Lib.hid hfin.symm
   clear hfin
   go_wp2
   go_ret2
   exact zaP HF.out (hb1.trans (hbw.mono hb1.size))
theorem zoB (s : ByteArray) (w : World) (hs : s.size ≤ 1073741824) (L : Nat) (hL0 : 1 ≤ L) (hl : (zaF s.data.toList).length = L + 1) (x : List UInt8) (hx : (zaF s.data.toList).getD L [] = x) (hne : x ≠ []) (hL3 : L ≤ 3) :
  Calls Tryz.prog 56 #[.string s] w (zfX w (zfN s.data.toList)) := by
 have HK := Lib.hid (zdV L _ hl (.inr (by rw [hx]; exact hne)))
 have HX := Lib.hid hx
 have hxe : x.isEmpty = false := zcY hne
 clear hx hne
 have HL := Lib.hid hl
 clear hl
 have HZ := Lib.hid (zmL HK.out (by omega))
 go_enter Tryz.func56, Tryz.ntmps56
 go_wp2_with fail
 refine (zcE s _ _ hs).mono ?_
 rintro e w1 ⟨v, rfl, hp, hb1⟩
 have hp' : zbY w.heap.size w1 v (zaF s.data.toList) := hp
 obtain ⟨g, cap, rfl, hcap, hg, hcell⟩ := hp'.form2 (by rw [HL.out]; omega)
 rw [HL.out] at hcap hcell ⊢
 have hcy := hcell L (by omega)
 rw [HX.out] at hcy
 have HCELL := Lib.hid hcell
 clear hp hp' hcell
 go_wp2
 go_loopw [6, 36] (fun v i wr => ∃ (k : Nat) (A : Int), k ≤ L + 1 ∧ i = .int .i64 k ∧ v = .int .u32 A ∧ 0 ≤ A ∧ A < 4294967296 ∧ Hid (k ≤ L → A % 2 ^ (32 - 8 * k) = 0) ∧ Hid (goF (L + 1) k A (((zaF s.data.toList).take (L + 1)).drop k) = zfN s.data.toList) ∧ Below w1.heap.size w1 wr) (fun _ i _ => L + 1 - (intOf i).toNat)
 case atStart => exact ⟨0, 0, by omega, rfl, rfl, by omega, by omega, fun _ => rfl, HZ.out.symm, Below.refl _ _⟩
 case round =>
  obtain ⟨k, A, hk, rfl, rfl, hA0, hA1, HM, HG, hbw⟩ := hrel
  by_cases hkL : k ≤ L
  ·obtain ⟨p, hpk⟩ : ∃ p, (zaF s.data.toList).getD k [] = p := ⟨_, rfl⟩
   by_cases hLk : k = L
   ·rcases (show k = 0 ∨ k = 1 ∨ k = 2 ∨ k = 3 from by omega) with rfl | rfl | rfl | rfl
    ·omega
    ·have hp : (zaF s.data.toList).getD 1 [] = p := hpk
     have hcx := HCELL.out 1 (by omega)
     rw [hp] at hcx
     have hcx2 : wr.cell? ⟨g, 1, none⟩ = some (.string ⟨p.toArray⟩) := (hbw.cell (p := ⟨g, 1, none⟩) hg).trans hcx
     obtain ⟨x, b, hpz⟩ : ∃ x b, zbN p = (x, b) := ⟨_, _, rfl⟩
     have hx0 : 0 ≤ x ∧ x ≤ 1099511627776 := by have h9 := zbG p; rw [hpz] at h9; exact h9
     obtain ⟨hx0, hx1⟩ := hx0
     have hpl : p.length ≤ s.size := by rw [← hp, ← zaK]; exact zbT _ _ _
     have hlim : limZ (L + 1) 1 = 16777216 := by first | rfl | (subst hLk; rfl)
     have hwt : wtZ (L + 1) 1 = 1 := by first | rfl | (subst hLk; rfl)
     have hA : A % 2 ^ 24 = 0 := HM.out (by omega)
     have HP := Lib.hid hp
     have HPZ := Lib.hid hpz
     have HLIM := Lib.hid hlim
     have HWT := Lib.hid hwt
     have hLk1 : L ≤ 1 := by omega
     clear hp hpz hlim hwt hcx hpk hLk
     try rw [show ((1 : Nat) : Int) = 1 from rfl]
     by_cases hok : b = true ∧ x < 16777216
     ·obtain ⟨rfl, hxl⟩ := hok
      have hor : bits .or .u32 A x = A + x := zbW 24 A _ hA0 hA hA1 (by omega) (by omega) (by omega)
      have hgo := HG.out
      rw [zdB (L + 1) 1 A _ p x (by omega) (by rw [HL.out]; omega) HP.out HPZ.out (by rw [HLIM.out]; exact hxl), HWT.out] at hgo
      have HG2 := Lib.hid hgo
      have HA := Lib.hid hA
      clear hgo hA
      go_wp2_with fail
      refine (zaL ⟨p.toArray⟩ _ (by rw [zaH]; omega)).mono ?_
      rw [zaJ, HPZ.out]
      rintro e w2 ⟨rfl, hb2⟩
      have hc2 : Below w1.heap.size w1 w2 := hbw.trans (hb2.mono hbw.size)
      clear hb2

      go_wp2
      go_roundw
      case rel =>
       refine ⟨2, A + x, by omega, (by first | rfl | go_num), rfl, by omega, ?_, ?_, ?_, hc2⟩
       ·have := HA.out; omega
       ·exact Lib.hid (fun h => by omega)
       ·rw [Int.mul_one] at HG2; exact HG2
      case measure => first | (simp [intOf]; done) | (simp [intOf]; omega)
     ·have HN := Lib.hid (HG.out.symm.trans (zeO (L + 1) 1 A _ p x b (by omega) (by rw [HL.out]; omega) HP.out HPZ.out (by rw [HLIM.out]; cases b with | false => exact .inl rfl | true => exact .inr (by have h8 : ¬ x < 16777216 := fun h => hok ⟨rfl, h⟩; omega))))
      have HOK := Lib.hid hok
      clear hok
      cases b with
      | false =>
       go_wp2_with fail
       refine (zaL ⟨p.toArray⟩ _ (by rw [zaH]; omega)).mono ?_
       rw [zaJ, HPZ.out]
       rintro e w2 ⟨rfl, hb2⟩
       have hc2 : Below w1.heap.size w1 w2 := hbw.trans (hb2.mono hbw.size)
       clear hb2

       go_wp2
       go_ret2
       exact zaP HN.out (hb1.trans (hc2.mono hb1.size))
      | true =>
       have hxl : 16777216 ≤ x := by have h8 : ¬ x < 16777216 := fun h => HOK.out ⟨rfl, h⟩; omega
       go_wp2_with fail
       refine (zaL ⟨p.toArray⟩ _ (by rw [zaH]; omega)).mono ?_
       rw [zaJ, HPZ.out]
       rintro e w2 ⟨rfl, hb2⟩
       have hc2 : Below w1.heap.size w1 w2 := hbw.trans (hb2.mono hbw.size)
       clear hb2

       go_wp2
       go_ret2
       exact zaP HN.out (hb1.trans (hc2.mono hb1.size))
    ·have hp : (zaF s.data.toList).getD 2 [] = p := hpk
     have hcx := HCELL.out 2 (by omega)
     rw [hp] at hcx
     have hcx2 : wr.cell? ⟨g, 2, none⟩ = some (.string ⟨p.toArray⟩) := (hbw.cell (p := ⟨g, 2, none⟩) hg).trans hcx
     obtain ⟨x, b, hpz⟩ : ∃ x b, zbN p = (x, b) := ⟨_, _, rfl⟩
     have hx0 : 0 ≤ x ∧ x ≤ 1099511627776 := by have h9 := zbG p; rw [hpz] at h9; exact h9
     obtain ⟨hx0, hx1⟩ := hx0
     have hpl : p.length ≤ s.size := by rw [← hp, ← zaK]; exact zbT _ _ _
     have hlim : limZ (L + 1) 2 = 65536 := by first | rfl | (subst hLk; rfl)
     have hwt : wtZ (L + 1) 2 = 1 := by first | rfl | (subst hLk; rfl)
     have hA : A % 2 ^ 16 = 0 := HM.out (by omega)
     have HP := Lib.hid hp
     have HPZ := Lib.hid hpz
     have HLIM := Lib.hid hlim
     have HWT := Lib.hid hwt
     have hLk1 : L ≤ 2 := by omega
     clear hp hpz hlim hwt hcx hpk hLk
     try rw [show ((2 : Nat) : Int) = 2 from rfl]
     by_cases hok : b = true ∧ x < 65536
     ·obtain ⟨rfl, hxl⟩ := hok
      have hor : bits .or .u32 A x = A + x := zbW 16 A _ hA0 hA hA1 (by omega) (by omega) (by omega)
      have hgo := HG.out
      rw [zdB (L + 1) 2 A _ p x (by omega) (by rw [HL.out]; omega) HP.out HPZ.out (by rw [HLIM.out]; exact hxl), HWT.out] at hgo
      have HG2 := Lib.hid hgo
      have HA := Lib.hid hA
      clear hgo hA
      go_wp2_with fail
      refine (zaL ⟨p.toArray⟩ _ (by rw [zaH]; omega)).mono ?_
      rw [zaJ, HPZ.out]
      rintro e w2 ⟨rfl, hb2⟩
      have hc2 : Below w1.heap.size w1 w2 := hbw.trans (hb2.mono hbw.size)
      clear hb2

      go_wp2
      go_roundw
      case rel =>
       refine ⟨3, A + x, by omega, (by first | rfl | go_num), rfl, by omega, ?_, ?_, ?_, hc2⟩
       ·have := HA.out; omega
       ·exact Lib.hid (fun h => by omega)
       ·rw [Int.mul_one] at HG2; exact HG2
      case measure => first | (simp [intOf]; done) | (simp [intOf]; omega)
     ·have HN := Lib.hid (HG.out.symm.trans (zeO (L + 1) 2 A _ p x b (by omega) (by rw [HL.out]; omega) HP.out HPZ.out (by rw [HLIM.out]; cases b with | false => exact .inl rfl | true => exact .inr (by have h8 : ¬ x < 65536 := fun h => hok ⟨rfl, h⟩; omega))))
      have HOK := Lib.hid hok
      clear hok
      cases b with
      | false =>
       go_wp2_with fail
       refine (zaL ⟨p.toArray⟩ _ (by rw [zaH]; omega)).mono ?_
       rw [zaJ, HPZ.out]
       rintro e w2 ⟨rfl, hb2⟩
       have hc2 : Below w1.heap.size w1 w2 := hbw.trans (hb2.mono hbw.size)
       clear hb2

       go_wp2
       go_ret2
       exact zaP HN.out (hb1.trans (hc2.mono hb1.size))
      | true =>
       have hxl : 65536 ≤ x := by have h8 : ¬ x < 65536 := fun h => HOK.out ⟨rfl, h⟩; omega
       go_wp2_with fail
       refine (zaL ⟨p.toArray⟩ _ (by rw [zaH]; omega)).mono ?_
       rw [zaJ, HPZ.out]
       rintro e w2 ⟨rfl, hb2⟩
       have hc2 : Below w1.heap.size w1 w2 := hbw.trans (hb2.mono hbw.size)
       clear hb2

       go_wp2
       go_ret2
       exact zaP HN.out (hb1.trans (hc2.mono hb1.size))
    ·have hp : (zaF s.data.toList).getD 3 [] = p := hpk
     have hcx := HCELL.out 3 (by omega)
     rw [hp] at hcx
     have hcx2 : wr.cell? ⟨g, 3, none⟩ = some (.string ⟨p.toArray⟩) := (hbw.cell (p := ⟨g, 3, none⟩) hg).trans hcx
     obtain ⟨x, b, hpz⟩ : ∃ x b, zbN p = (x, b) := ⟨_, _, rfl⟩
     have hx0 : 0 ≤ x ∧ x ≤ 1099511627776 := by have h9 := zbG p; rw [hpz] at h9; exact h9
     obtain ⟨hx0, hx1⟩ := hx0
     have hpl : p.length ≤ s.size := by rw [← hp, ← zaK]; exact zbT _ _ _
     have hlim : limZ (L + 1) 3 = 256 := by first | rfl | (subst hLk; rfl)
     have hwt : wtZ (L + 1) 3 = 1 := by first | rfl | (subst hLk; rfl)
     have hA : A % 2 ^ 8 = 0 := HM.out (by omega)
     have HP := Lib.hid hp
     have HPZ := Lib.hid hpz
     have HLIM := Lib.hid hlim
     have HWT := Lib.hid hwt
     have hLk1 : L ≤ 3 := by omega
     clear hp hpz hlim hwt hcx hpk hLk
     try rw [show ((3 : Nat) : Int) = 3 from rfl]
     by_cases hok : b = true ∧ x < 256
     ·obtain ⟨rfl, hxl⟩ := hok
      have hor : bits .or .u32 A x = A + x := zbW 8 A _ hA0 hA hA1 (by omega) (by omega) (by omega)
      have hgo := HG.out
      rw [zdB (L + 1) 3 A _ p x (by omega) (by rw [HL.out]; omega) HP.out HPZ.out (by rw [HLIM.out]; exact hxl), HWT.out] at hgo
      have HG2 := Lib.hid hgo
      have HA := Lib.hid hA
      clear hgo hA
      go_wp2_with fail
      refine (zaL ⟨p.toArray⟩ _ (by rw [zaH]; omega)).mono ?_
      rw [zaJ, HPZ.out]
      rintro e w2 ⟨rfl, hb2⟩
      have hc2 : Below w1.heap.size w1 w2 := hbw.trans (hb2.mono hbw.size)
      clear hb2

      go_wp2
      go_roundw
      case rel =>
       refine ⟨4, A + x, by omega, (by first | rfl | go_num), rfl, by omega, ?_, ?_, ?_, hc2⟩
       ·have := HA.out; omega
       ·exact Lib.hid (fun h => by omega)
       ·rw [Int.mul_one] at HG2; exact HG2
      case measure => first | (simp [intOf]; done) | (simp [intOf]; omega)
     ·have HN := Lib.hid (HG.out.symm.trans (zeO (L + 1) 3 A _ p x b (by omega) (by rw [HL.out]; omega) HP.out HPZ.out (by rw [HLIM.out]; cases b with | false => exact .inl rfl | true => exact .inr (by have h8 : ¬ x < 256 := fun h => hok ⟨rfl, h⟩; omega))))
      have HOK := Lib.hid hok
      clear hok
      cases b with
      | false =>
       go_wp2_with fail
       refine (zaL ⟨p.toArray⟩ _ (by rw [zaH]; omega)).mono ?_
       rw [zaJ, HPZ.out]
       rintro e w2 ⟨rfl, hb2⟩
       have hc2 : Below w1.heap.size w1 w2 := hbw.trans (hb2.mono hbw.size)
       clear hb2

       go_wp2
       go_ret2
       exact zaP HN.out (hb1.trans (hc2.mono hb1.size))
      | true =>
       have hxl : 256 ≤ x := by have h8 : ¬ x < 256 := fun h => HOK.out ⟨rfl, h⟩; omega
       go_wp2_with fail
       refine (zaL ⟨p.toArray⟩ _ (by rw [zaH]; omega)).mono ?_
       rw [zaJ, HPZ.out]
       rintro e w2 ⟨rfl, hb2⟩
       have hc2 : Below w1.heap.size w1 w2 := hbw.trans (hb2.mono hbw.size)
       clear hb2

       go_wp2
       go_ret2
       exact zaP HN.out (hb1.trans (hc2.mono hb1.size))
   ·rcases (show k = 0 ∨ k = 1 ∨ k = 2 from by omega) with rfl | rfl | rfl
    ·have hp : (zaF s.data.toList).getD 0 [] = p := hpk
     have hcx := HCELL.out 0 (by omega)
     rw [hp] at hcx
     have hcx2 : wr.cell? ⟨g, 0, none⟩ = some (.string ⟨p.toArray⟩) := (hbw.cell (p := ⟨g, 0, none⟩) hg).trans hcx
     obtain ⟨x, b, hpz⟩ : ∃ x b, zbN p = (x, b) := ⟨_, _, rfl⟩
     have hx0 : 0 ≤ x ∧ x ≤ 1099511627776 := by have h9 := zbG p; rw [hpz] at h9; exact h9
     obtain ⟨hx0, hx1⟩ := hx0
     have hpl : p.length ≤ s.size := by rw [← hp, ← zaK]; exact zbT _ _ _
     have hlim : limZ (L + 1) 0 = 256 := by unfold limZ; rw [if_neg (by omega)]
     have hwt : wtZ (L + 1) 0 = 16777216 := by unfold wtZ; rw [if_neg (by omega)]; rfl
     have hA : A % 2 ^ 32 = 0 := HM.out (by omega)
     have HP := Lib.hid hp
     have HPZ := Lib.hid hpz
     have HLIM := Lib.hid hlim
     have HWT := Lib.hid hwt
     have hLk1 : 1 ≤ L := by omega
     clear hp hpz hlim hwt hcx hpk hLk
     try rw [show ((0 : Nat) : Int) = 0 from rfl]
     by_cases hok : b = true ∧ x < 256
     ·obtain ⟨rfl, hxl⟩ := hok
      have hor : bits .or .u32 A (x * 16777216) = A + x * 16777216 := zbW 32 A _ hA0 hA hA1 (by omega) (by omega) (by omega)
      have hgo := HG.out
      rw [zdB (L + 1) 0 A _ p x (by omega) (by rw [HL.out]; omega) HP.out HPZ.out (by rw [HLIM.out]; exact hxl), HWT.out] at hgo
      have HG2 := Lib.hid hgo
      have HA := Lib.hid hA
      clear hgo hA
      go_wp2_with fail
      refine (zaL ⟨p.toArray⟩ _ (by rw [zaH]; omega)).mono ?_
      rw [zaJ, HPZ.out]
      rintro e w2 ⟨rfl, hb2⟩
      have hc2 : Below w1.heap.size w1 w2 := hbw.trans (hb2.mono hbw.size)
      clear hb2

      go_wp2
      go_roundw
      case rel =>
       refine ⟨1, A + x * 16777216, by omega, (by first | rfl | go_num), rfl, by omega, ?_, ?_, ?_, hc2⟩
       ·have := HA.out; omega
       ·refine Lib.hid (fun _ => ?_); have := HA.out; omega
       ·exact HG2
      case measure => first | (simp [intOf]; done) | (simp [intOf]; omega)
     ·have HN := Lib.hid (HG.out.symm.trans (zeO (L + 1) 0 A _ p x b (by omega) (by rw [HL.out]; omega) HP.out HPZ.out (by rw [HLIM.out]; cases b with | false => exact .inl rfl | true => exact .inr (by have h8 : ¬ x < 256 := fun h => hok ⟨rfl, h⟩; omega))))
      have HOK := Lib.hid hok
      clear hok
      cases b with
      | false =>
       go_wp2_with fail
       refine (zaL ⟨p.toArray⟩ _ (by rw [zaH]; omega)).mono ?_
       rw [zaJ, HPZ.out]
       rintro e w2 ⟨rfl, hb2⟩
       have hc2 : Below w1.heap.size w1 w2 := hbw.trans (hb2.mono hbw.size)
       clear hb2

       go_wp2
       go_ret2
       exact zaP HN.out (hb1.trans (hc2.mono hb1.size))
      | true =>
       have hxl : 256 ≤ x := by have h8 : ¬ x < 256 := fun h => HOK.out ⟨rfl, h⟩; omega
       go_wp2_with fail
       refine (zaL ⟨p.toArray⟩ _ (by rw [zaH]; omega)).mono ?_
       rw [zaJ, HPZ.out]
       rintro e w2 ⟨rfl, hb2⟩
       have hc2 : Below w1.heap.size w1 w2 := hbw.trans (hb2.mono hbw.size)
       clear hb2

       go_wp2
       go_ret2
       exact zaP HN.out (hb1.trans (hc2.mono hb1.size))
    ·have hp : (zaF s.data.toList).getD 1 [] = p := hpk
     have hcx := HCELL.out 1 (by omega)
     rw [hp] at hcx
     have hcx2 : wr.cell? ⟨g, 1, none⟩ = some (.string ⟨p.toArray⟩) := (hbw.cell (p := ⟨g, 1, none⟩) hg).trans hcx
     obtain ⟨x, b, hpz⟩ : ∃ x b, zbN p = (x, b) := ⟨_, _, rfl⟩
     have hx0 : 0 ≤ x ∧ x ≤ 1099511627776 := by have h9 := zbG p; rw [hpz] at h9; exact h9
     obtain ⟨hx0, hx1⟩ := hx0
     have hpl : p.length ≤ s.size := by rw [← hp, ← zaK]; exact zbT _ _ _
     have hlim : limZ (L + 1) 1 = 256 := by unfold limZ; rw [if_neg (by omega)]
     have hwt : wtZ (L + 1) 1 = 65536 := by unfold wtZ; rw [if_neg (by omega)]; rfl
     have hA : A % 2 ^ 24 = 0 := HM.out (by omega)
     have HP := Lib.hid hp
     have HPZ := Lib.hid hpz
     have HLIM := Lib.hid hlim
     have HWT := Lib.hid hwt
     have hLk1 : 2 ≤ L := by omega
     clear hp hpz hlim hwt hcx hpk hLk
     try rw [show ((1 : Nat) : Int) = 1 from rfl]
     by_cases hok : b = true ∧ x < 256
     ·obtain ⟨rfl, hxl⟩ := hok
      have hor : bits .or .u32 A (x * 65536) = A + x * 65536 := zbW 24 A _ hA0 hA hA1 (by omega) (by omega) (by omega)
      have hgo := HG.out
      rw [zdB (L + 1) 1 A _ p x (by omega) (by rw [HL.out]; omega) HP.out HPZ.out (by rw [HLIM.out]; exact hxl), HWT.out] at hgo
      have HG2 := Lib.hid hgo
      have HA := Lib.hid hA
      clear hgo hA
      go_wp2_with fail
      refine (zaL ⟨p.toArray⟩ _ (by rw [zaH]; omega)).mono ?_
      rw [zaJ, HPZ.out]
      rintro e w2 ⟨rfl, hb2⟩
      have hc2 : Below w1.heap.size w1 w2 := hbw.trans (hb2.mono hbw.size)
      clear hb2

      go_wp2
      go_roundw
      case rel =>
       refine ⟨2, A + x * 65536, by omega, (by first | rfl | go_num), rfl, by omega, ?_, ?_, ?_, hc2⟩
       ·have := HA.out; omega
       ·refine Lib.hid (fun _ => ?_); have := HA.out; omega
       ·exact HG2
      case measure => first | (simp [intOf]; done) | (simp [intOf]; omega)
     ·have HN := Lib.hid (HG.out.symm.trans (zeO (L + 1) 1 A _ p x b (by omega) (by rw [HL.out]; omega) HP.out HPZ.out (by rw [HLIM.out]; cases b with | false => exact .inl rfl | true => exact .inr (by have h8 : ¬ x < 256 := fun h => hok ⟨rfl, h⟩; omega))))
      have HOK := Lib.hid hok
      clear hok
      cases b with
      | false =>
       go_wp2_with fail
       refine (zaL ⟨p.toArray⟩ _ (by rw [zaH]; omega)).mono ?_
       rw [zaJ, HPZ.out]
       rintro e w2 ⟨rfl, hb2⟩
       have hc2 : Below w1.heap.size w1 w2 := hbw.trans (hb2.mono hbw.size)
       clear hb2

       go_wp2
       go_ret2
       exact zaP HN.out (hb1.trans (hc2.mono hb1.size))
      | true =>
       have hxl : 256 ≤ x := by have h8 : ¬ x < 256 := fun h => HOK.out ⟨rfl, h⟩; omega
       go_wp2_with fail
       refine (zaL ⟨p.toArray⟩ _ (by rw [zaH]; omega)).mono ?_
       rw [zaJ, HPZ.out]
       rintro e w2 ⟨rfl, hb2⟩
       have hc2 : Below w1.heap.size w1 w2 := hbw.trans (hb2.mono hbw.size)
       clear hb2

       go_wp2
       go_ret2
       exact zaP HN.out (hb1.trans (hc2.mono hb1.size))
    ·have hp : (zaF s.data.toList).getD 2 [] = p := hpk
     have hcx := HCELL.out 2 (by omega)
     rw [hp] at hcx
     have hcx2 : wr.cell? ⟨g, 2, none⟩ = some (.string ⟨p.toArray⟩) := (hbw.cell (p := ⟨g, 2, none⟩) hg).trans hcx
     obtain ⟨x, b, hpz⟩ : ∃ x b, zbN p = (x, b) := ⟨_, _, rfl⟩
     have hx0 : 0 ≤ x ∧ x ≤ 1099511627776 := by have h9 := zbG p; rw [hpz] at h9; exact h9
     obtain ⟨hx0, hx1⟩ := hx0
     have hpl : p.length ≤ s.size := by rw [← hp, ← zaK]; exact zbT _ _ _
     have hlim : limZ (L + 1) 2 = 256 := by unfold limZ; rw [if_neg (by omega)]
     have hwt : wtZ (L + 1) 2 = 256 := by unfold wtZ; rw [if_neg (by omega)]; rfl
     have hA : A % 2 ^ 16 = 0 := HM.out (by omega)
     have HP := Lib.hid hp
     have HPZ := Lib.hid hpz
     have HLIM := Lib.hid hlim
     have HWT := Lib.hid hwt
     have hLk1 : 3 ≤ L := by omega
     clear hp hpz hlim hwt hcx hpk hLk
     try rw [show ((2 : Nat) : Int) = 2 from rfl]
     by_cases hok : b = true ∧ x < 256
     ·obtain ⟨rfl, hxl⟩ := hok
      have hor : bits .or .u32 A (x * 256) = A + x * 256 := zbW 16 A _ hA0 hA hA1 (by omega) (by omega) (by omega)
      have hgo := HG.out
      rw [zdB (L + 1) 2 A _ p x (by omega) (by rw [HL.out]; omega) HP.out HPZ.out (by rw [HLIM.out]; exact hxl), HWT.out] at hgo
      have HG2 := Lib.hid hgo
      have HA := Lib.hid hA
      clear hgo hA
      go_wp2_with fail
      refine (zaL ⟨p.toArray⟩ _ (by rw [zaH]; omega)).mono ?_
      rw [zaJ, HPZ.out]
      rintro e w2 ⟨rfl, hb2⟩
      have hc2 : Below w1.heap.size w1 w2 := hbw.trans (hb2.mono hbw.size)
      clear hb2

      go_wp2
      go_roundw
      case rel =>
       refine ⟨3, A + x * 256, by omega, (by first | rfl | go_num), rfl, by omega, ?_, ?_, ?_, hc2⟩
       ·have := HA.out; omega
       ·refine Lib.hid (fun _ => ?_); have := HA.out; omega
       ·exact HG2
      case measure => first | (simp [intOf]; done) | (simp [intOf]; omega)
     ·have HN := Lib.hid (HG.out.symm.trans (zeO (L + 1) 2 A _ p x b (by omega) (by rw [HL.out]; omega) HP.out HPZ.out (by rw [HLIM.out]; cases b with | false => exact .inl rfl | true => exact .inr (by have h8 : ¬ x < 256 := fun h => hok ⟨rfl, h⟩; omega))))
      have HOK := Lib.hid hok
      clear hok
      cases b with
      | false =>
       go_wp2_with fail
       refine (zaL ⟨p.toArray⟩ _ (by rw [zaH]; omega)).mono ?_
       rw [zaJ, HPZ.out]
       rintro e w2 ⟨rfl, hb2⟩
       have hc2 : Below w1.heap.size w1 w2 := hbw.trans (hb2.mono hbw.size)
       clear hb2

       go_wp2
       go_ret2
       exact zaP HN.out (hb1.trans (hc2.mono hb1.size))
      | true =>
       have hxl : 256 ≤ x := by have h8 : ¬ x < 256 := fun h => HOK.out ⟨rfl, h⟩; omega
       go_wp2_with fail
       refine (zaL ⟨p.toArray⟩ _ (by rw [zaH]; omega)).mono ?_
       rw [zaJ, HPZ.out]
       rintro e w2 ⟨rfl, hb2⟩
       have hc2 : Below w1.heap.size w1 w2 := hbw.trans (hb2.mono hbw.size)
       clear hb2

       go_wp2
       go_ret2
       exact zaP HN.out (hb1.trans (hc2.mono hb1.size))
  ·obtain rfl : k = L + 1 := by omega
   have hfin := HG.out
   rw [zrF (L + 1) (L + 1) A _ (Nat.le_refl _)] at hfin
   have HF := Lib.hid hfin.symm
   clear hfin
   go_wp2
   go_ret2
   exact zaP HF.out (hb1.trans (hbw.mono hb1.size))
theorem ziD (s : ByteArray) (w : World) (hs : s.size ≤ 1073741824) (L : Nat) (hL0 : 1 ≤ L) (hl : (zaF s.data.toList).length = L + 1) (x : List UInt8) (hx : (zaF s.data.toList).getD L [] = x) (hne : x ≠ []) (hL3 : 3 < L) :
  Calls Tryz.prog 56 #[.string s] w (zfX w (zfN s.data.toList)) := by
 have HK := Lib.hid (zdV L _ hl (.inr (by rw [hx]; exact hne)))
 have HX := Lib.hid hx
 have hxe : x.isEmpty = false := zcY hne
 clear hx hne
 have HL := Lib.hid hl
 clear hl
 have HZ := Lib.hid (zlE HK.out (by omega))
 have hnb : L ≤ 1073741824 := by
  have h1 := zcL (hasB [46]) s.data.toList
  rw [zaK] at h1
  have h2 := HL.out
  unfold zaF at h2
  omega
 go_enter Tryz.func56, Tryz.ntmps56
 go_wp2_with fail
 refine (zcE s _ _ hs).mono ?_
 rintro e w1 ⟨v, rfl, hp, hb1⟩
 have hp' : zbY w.heap.size w1 v (zaF s.data.toList) := hp
 obtain ⟨g, cap, rfl, hcap, hg, hcell⟩ := hp'.form2 (by rw [HL.out]; omega)
 rw [HL.out] at hcap hcell ⊢
 have hcy := hcell L (by omega)
 rw [HX.out] at hcy
 have HCELL := Lib.hid hcell
 clear hp hp' hcell
 go_wp2
 go_ret2
 exact zaP HZ.out hb1
end
section
open Go.RowKit
theorem zkU (s : ByteArray) (w : World) (hs : s.size ≤ 1073741824) (L : Nat) (hl : (zaF s.data.toList).length = L + 2) (hx : (zaF s.data.toList).getD (L + 1) [] = []) (hL3 : L ≤ 3) :
  Calls Tryz.prog 56 #[.string s] w (zfX w (zfN s.data.toList)) := by
 have HK := Lib.hid (zfZ L _ hl hx)
 have HX := Lib.hid hx
 clear hx
 have HL := Lib.hid hl
 clear hl
 have HZ := Lib.hid (zmL HK.out (by omega))
 go_enter Tryz.func56, Tryz.ntmps56
 go_wp2_with fail
 refine (zcE s _ _ hs).mono ?_
 rintro e w1 ⟨v, rfl, hp, hb1⟩
 have hp' : zbY w.heap.size w1 v (zaF s.data.toList) := hp
 obtain ⟨g, cap, rfl, hcap, hg, hcell⟩ := hp'.form2 (by rw [HL.out]; omega)
 rw [HL.out] at hcap hcell ⊢
 have hcy := hcell (L + 1) (by omega)
 rw [HX.out] at hcy
 have HCELL := Lib.hid hcell
 clear hp hp' hcell
 go_wp2
 have hd3 : decide ((3 : Int) < (L : Int)) = false := decide_eq_false (by omega)
 simp only [show (L : Int) + 2 - 1 = L + 1 from by omega, show (L : Int) + 1 - 1 = L from by omega, hd3]
 rw [show L + 2 - 1 = L + 1 from rfl]
 clear hd3
 go_loopw [6, 36] (fun v i wr => ∃ (k : Nat) (A : Int), k ≤ L + 1 ∧ i = .int .i64 k ∧ v = .int .u32 A ∧ 0 ≤ A ∧ A < 4294967296 ∧ Hid (k ≤ L → A % 2 ^ (32 - 8 * k) = 0) ∧ Hid (goF (L + 1) k A (((zaF s.data.toList).take (L + 1)).drop k) = zfN s.data.toList) ∧ Below w1.heap.size w1 wr) (fun _ i _ => L + 1 - (intOf i).toNat)
 case atStart => exact ⟨0, 0, by omega, rfl, rfl, by omega, by omega, fun _ => rfl, HZ.out.symm, Below.refl _ _⟩
 case round =>
  obtain ⟨k, A, hk, rfl, rfl, hA0, hA1, HM, HG, hbw⟩ := hrel
  by_cases hkL : k ≤ L
  ·obtain ⟨p, hpk⟩ : ∃ p, (zaF s.data.toList).getD k [] = p := ⟨_, rfl⟩
   by_cases hLk : k = L
   ·rcases (show k = 0 ∨ k = 1 ∨ k = 2 ∨ k = 3 from by omega) with rfl | rfl | rfl | rfl
    ·have hp : (zaF s.data.toList).getD 0 [] = p := hpk
     have hcx := HCELL.out 0 (by omega)
     rw [hp] at hcx
     have hcx2 : wr.cell? ⟨g, 0, none⟩ = some (.string ⟨p.toArray⟩) := (hbw.cell (p := ⟨g, 0, none⟩) hg).trans hcx
     obtain ⟨x, b, hpz⟩ : ∃ x b, zbN p = (x, b) := ⟨_, _, rfl⟩
     have hx0 : 0 ≤ x ∧ x ≤ 1099511627776 := by have h9 := zbG p; rw [hpz] at h9; exact h9
     obtain ⟨hx0, hx1⟩ := hx0
     have hpl : p.length ≤ s.size := by rw [← hp, ← zaK]; exact zbT _ _ _
     have hlim : limZ (L + 1) 0 = 4294967296 := by first | rfl | (subst hLk; rfl)
     have hwt : wtZ (L + 1) 0 = 1 := by first | rfl | (subst hLk; rfl)
     have hA : A % 2 ^ 32 = 0 := HM.out (by omega)
     have HP := Lib.hid hp
     have HPZ := Lib.hid hpz
     have HLIM := Lib.hid hlim
     have HWT := Lib.hid hwt
     have hLk1 : L ≤ 0 := by omega
     clear hp hpz hlim hwt hcx hpk hLk
     try rw [show ((0 : Nat) : Int) = 0 from rfl]
     by_cases hok : b = true ∧ x < 4294967296
     ·obtain ⟨rfl, hxl⟩ := hok
      have hor : bits .or .u32 A x = A + x := zbW 32 A _ hA0 hA hA1 (by omega) (by omega) (by omega)
      have hgo := HG.out
      rw [zdB (L + 1) 0 A _ p x (by omega) (by rw [HL.out]; omega) HP.out HPZ.out (by rw [HLIM.out]; exact hxl), HWT.out] at hgo
      have HG2 := Lib.hid hgo
      have HA := Lib.hid hA
      clear hgo hA
      go_wp2_with fail
      refine (zaL ⟨p.toArray⟩ _ (by rw [zaH]; omega)).mono ?_
      rw [zaJ, HPZ.out]
      rintro e w2 ⟨rfl, hb2⟩
      have hc2 : Below w1.heap.size w1 w2 := hbw.trans (hb2.mono hbw.size)
      clear hb2

      go_wp2
      go_roundw
      case rel =>
       refine ⟨1, A + x, by omega, (by first | rfl | go_num), rfl, by omega, ?_, ?_, ?_, hc2⟩
       ·have := HA.out; omega
       ·exact Lib.hid (fun h => by omega)
       ·rw [Int.mul_one] at HG2; exact HG2
      case measure => first | (simp [intOf]; done) | (simp [intOf]; omega)
     ·have HN := Lib.hid (HG.out.symm.trans (zeO (L + 1) 0 A _ p x b (by omega) (by rw [HL.out]; omega) HP.out HPZ.out (by rw [HLIM.out]; cases b with | false => exact .inl rfl | true => exact .inr (by have h8 : ¬ x < 4294967296 := fun h => hok ⟨rfl, h⟩; omega))))
      have HOK := Lib.hid hok
      clear hok
      cases b with
      | false =>
       go_wp2_with fail
       refine (zaL ⟨p.toArray⟩ _ (by rw [zaH]; omega)).mono ?_
       rw [zaJ, HPZ.out]
       rintro e w2 ⟨rfl, hb2⟩
       have hc2 : Below w1.heap.size w1 w2 := hbw.trans (hb2.mono hbw.size)
       clear hb2

       go_wp2
       go_ret2
       exact zaP HN.out (hb1.trans (hc2.mono hb1.size))
      | true =>
       have hxl : 4294967296 ≤ x := by have h8 : ¬ x < 4294967296 := fun h => HOK.out ⟨rfl, h⟩; omega
       go_wp2_with fail
       refine (zaL ⟨p.toArray⟩ _ (by rw [zaH]; omega)).mono ?_
       rw [zaJ, HPZ.out]
       rintro e w2 ⟨rfl, hb2⟩
       have hc2 : Below w1.heap.size w1 w2 := hbw.trans (hb2.mono hbw.size)
       clear hb2

       go_wp2
       go_ret2
       exact zaP HN.out (hb1.trans (hc2.mono hb1.size))
    ·have hp : (zaF s.data.toList).getD 1 [] = p := hpk
     have hcx := HCELL.out 1 (by omega)
     rw [hp] at hcx
     have hcx2 : wr.cell? ⟨g, 1, none⟩ = some (.string ⟨p.toArray⟩) := (hbw.cell (p := ⟨g, 1, none⟩) hg).trans hcx
     obtain ⟨x, b, hpz⟩ : ∃ x b, zbN p = (x, b) := ⟨_, _, rfl⟩
     have hx0 : 0 ≤ x ∧ x ≤ 1099511627776 := by have h9 := zbG p; rw [hpz] at h9; exact h9
     obtain ⟨hx0, hx1⟩ := hx0
     have hpl : p.length ≤ s.size := by rw [← hp, ← zaK]; exact zbT _ _ _
     have hlim : limZ (L + 1) 1 = 16777216 := by first | rfl | (subst hLk; rfl)
     have hwt : wtZ (L + 1) 1 = 1 := by first | rfl | (subst hLk; rfl)
     have hA : A % 2 ^ 24 = 0 := HM.out (by omega)
     have HP := Lib.hid hp
     have HPZ := Lib.hid hpz
     have HLIM := Lib.hid hlim
     have HWT := Lib.hid hwt
     have hLk1 : L ≤ 1 := by omega
     clear hp hpz hlim hwt hcx hpk hLk
     try rw [show ((1 : Nat) : Int) = 1 from rfl]
     by_cases hok : b = true ∧ x < 16777216
     ·obtain ⟨rfl, hxl⟩ := hok
      have hor : bits .or .u32 A x = A + x := zbW 24 A _ hA0 hA hA1 (by omega) (by omega) (by omega)
      have hgo := HG.out
      rw [zdB (L + 1) 1 A _ p x (by omega) (by rw [HL.out]; omega) HP.out HPZ.out (by rw [HLIM.out]; exact hxl), HWT.out] at hgo
      have HG2 := Lib.hid hgo
      have HA := Lib.hid hA
      clear hgo hA
      go_wp2_with fail
      refine (zaL ⟨p.toArray⟩ _ (by rw [zaH]; omega)).mono ?_
      rw [zaJ, HPZ.out]
      rintro e w2 ⟨rfl, hb2⟩
      have hc2 : Below w1.heap.size w1 w2 := hbw.trans (hb2.mono hbw.size)
      clear hb2

      go_wp2
      go_roundw
      case rel =>
       refine ⟨2, A + x, by omega, (by first | rfl | go_num), rfl, by omega, ?_, ?_, ?_, hc2⟩
       ·have := HA.out; omega
       ·exact Lib.hid (fun h => by omega)
       ·rw [Int.mul_one] at HG2; exact HG2
      case measure => first | (simp [intOf]; done) | (simp [intOf]; omega)
     ·have HN := Lib.hid (HG.out.symm.trans (zeO (L + 1) 1 A _ p x b (by omega) (by rw [HL.out]; omega) HP.out HPZ.out (by rw [HLIM.out]; cases b with | false => exact .inl rfl | true => exact .inr (by have h8 : ¬ x < 16777216 := fun h => hok ⟨rfl, h⟩; omega))))
      have HOK := Lib.hid hok
      clear hok
      cases b with
      | false =>
       go_wp2_with fail
       refine (zaL ⟨p.toArray⟩ _ (by rw [zaH]; omega)).mono ?_
       rw [zaJ, HPZ.out]
       rintro e w2 ⟨rfl, hb2⟩
       have hc2 : Below w1.heap.size w1 w2 := hbw.trans (hb2.mono hbw.size)
       clear hb2

       go_wp2
       go_ret2
       exact zaP HN.out (hb1.trans (hc2.mono hb1.size))
      | true =>
       have hxl : 16777216 ≤ x := by have h8 : ¬ x < 16777216 := fun h => HOK.out ⟨rfl, h⟩; omega
       go_wp2_with fail
       refine (zaL ⟨p.toArray⟩ _ (by rw [zaH]; omega)).mono ?_
       rw [zaJ, HPZ.out]
       rintro e w2 ⟨rfl, hb2⟩
       have hc2 : Below w1.heap.size w1 w2 := hbw.trans (hb2.mono hbw.size)
       clear hb2

       go_wp2
       go_ret2
       exact zaP HN.out (hb1.trans (hc2.mono hb1.size))
    ·have hp : (zaF s.data.toList).getD 2 [] = p := hpk
     have hcx := HCELL.out 2 (by omega)
     rw [hp] at hcx
     have hcx2 : wr.cell? ⟨g, 2, none⟩ = some (.string ⟨p.toArray⟩) := (hbw.cell (p := ⟨g, 2, none⟩) hg).trans hcx
     obtain ⟨x, b, hpz⟩ : ∃ x b, zbN p = (x, b) := ⟨_, _, rfl⟩
     have hx0 : 0 ≤ x ∧ x ≤ 1099511627776 := by have h9 := zbG p; rw [hpz] at h9; exact h9
     obtain ⟨hx0, hx1⟩ := hx0
     have hpl : p.length ≤ s.size := by rw [← hp, ← zaK]; exact zbT _ _ _
     have hlim : limZ (L + 1) 2 = 65536 := by first | rfl | (subst hLk; rfl)
     have hwt : wtZ (L + 1) 2 = 1 := by first | rfl | (subst hLk; rfl)
     have hA : A % 2 ^ 16 = 0 := HM.out (by omega)
     have HP := Lib.hid hp
     have HPZ := Lib.hid hpz
     have HLIM := Lib.hid hlim
     have HWT := Lib.hid hwt
     have hLk1 : L ≤ 2 := by omega
     clear hp hpz hlim hwt hcx hpk hLk
     try rw [show ((2 : Nat) : Int) = 2 from rfl]
     by_cases hok : b = true ∧ x < 65536
     ·obtain ⟨rfl, hxl⟩ := hok
      have hor : bits .or .u32 A x = A + x := zbW 16 A _ hA0 hA hA1 (by omega) (by omega) (by omega)
      have hgo := HG.out
      rw [zdB (L + 1) 2 A _ p x (by omega) (by rw [HL.out]; omega) HP.out HPZ.out (by rw [HLIM.out]; exact hxl), HWT.out] at hgo
      have HG2 := Lib.hid hgo
      have HA := Lib.hid hA
      clear hgo hA
      go_wp2_with fail
      refine (zaL ⟨p.toArray⟩ _ (by rw [zaH]; omega)).mono ?_
      rw [zaJ, HPZ.out]
      rintro e w2 ⟨rfl, hb2⟩
      have hc2 : Below w1.heap.size w1 w2 := hbw.trans (hb2.mono hbw.size)
      clear hb2

      go_wp2
      go_roundw
      case rel =>
       refine ⟨3, A + x, by omega, (by first | rfl | go_num), rfl, by omega, ?_, ?_, ?_, hc2⟩
       ·have := HA.out; omega
       ·exact Lib.hid (fun h => by omega)
       ·rw [Int.mul_one] at HG2; exact HG2
      case measure => first | (simp [intOf]; done) | (simp [intOf]; omega)
     ·have HN := Lib.hid (HG.out.symm.trans (zeO (L + 1) 2 A _ p x b (by omega) (by rw [HL.out]; omega) HP.out HPZ.out (by rw [HLIM.out]; cases b with | false => exact .inl rfl | true => exact .inr (by have h8 : ¬ x < 65536 := fun h => hok ⟨rfl, h⟩; omega))))
      have HOK := Lib.hid hok
      clear hok
      cases b with
      | false =>
       go_wp2_with fail
       refine (zaL ⟨p.toArray⟩ _ (by rw [zaH]; omega)).mono ?_
       rw [zaJ, HPZ.out]
       rintro e w2 ⟨rfl, hb2⟩
       have hc2 : Below w1.heap.size w1 w2 := hbw.trans (hb2.mono hbw.size)
       clear hb2

       go_wp2
       go_ret2
       exact zaP HN.out (hb1.trans (hc2.mono hb1.size))
      | true =>
       have hxl : 65536 ≤ x := by have h8 : ¬ x < 65536 := fun h => HOK.out ⟨rfl, h⟩; omega
       go_wp2_with fail
       refine (zaL ⟨p.toArray⟩ _ (by rw [zaH]; omega)).mono ?_
       rw [zaJ, HPZ.out]
       rintro e w2 ⟨rfl, hb2⟩
       have hc2 : Below w1.heap.size w1 w2 := hbw.trans (hb2.mono hbw.size)
       clear hb2

       go_wp2
       go_ret2
       exact zaP HN.out (hb1.trans (hc2.mono hb1.size))
    ·have hp : (zaF s.data.toList).getD 3 [] = p := hpk
     have hcx := HCELL.out 3 (by omega)
     rw [hp] at hcx
     have hcx2 : wr.cell? ⟨g, 3, none⟩ = some (.string ⟨p.toArray⟩) := (hbw.cell (p := ⟨g, 3, none⟩) hg).trans hcx
     obtain ⟨x, b, hpz⟩ : ∃ x b, zbN p = (x, b) := ⟨_, _, rfl⟩
     have hx0 : 0 ≤ x ∧ x ≤ 1099511627776 := by have h9 := zbG p; rw [hpz] at h9; exact h9
     obtain ⟨hx0, hx1⟩ := hx0
     have hpl : p.length ≤ s.size := by rw [← hp, ← zaK]; exact zbT _ _ _
     have hlim : limZ (L + 1) 3 = 256 := by first | rfl | (subst hLk; rfl)
     have hwt : wtZ (L + 1) 3 = 1 := by first | rfl | (subst hLk; rfl)
     have hA : A % 2 ^ 8 = 0 := HM.out (by omega)
     have HP := Lib.hid hp
     have HPZ := Lib.hid hpz
     have HLIM := Lib.hid hlim
     have HWT := Lib.hid hwt
     have hLk1 : L ≤ 3 := by omega
     clear hp hpz hlim hwt hcx hpk hLk
     try rw [show ((3 : Nat) : Int) = 3 from rfl]
     by_cases hok : b = true ∧ x < 256
     ·obtain ⟨rfl, hxl⟩ := hok
      have hor : bits .or .u32 A x = A + x := zbW 8 A _ hA0 hA hA1 (by omega) (by omega) (by omega)
      have hgo := HG.out
      rw [zdB (L + 1) 3 A _ p x (by omega) (by rw [HL.out]; omega) HP.out HPZ.out (by rw [HLIM.out]; exact hxl), HWT.out] at hgo
      have HG2 := Lib.hid hgo
      have HA := Lib.hid hA
      clear hgo hA
      go_wp2_with fail
      refine (zaL ⟨p.toArray⟩ _ (by rw [zaH]; omega)).mono ?_
      rw [zaJ, HPZ.out]
      rintro e w2 ⟨rfl, hb2⟩
      have hc2 : Below w1.heap.size w1 w2 := hbw.trans (hb2.mono hbw.size)
      clear hb2

      go_wp2
      go_roundw
      case rel =>
       refine ⟨4, A + x, by omega, (by first | rfl | go_num), rfl, by omega, ?_, ?_, ?_, hc2⟩
       ·have := HA.out; omega
       ·exact Lib.hid (fun h => by omega)
       ·rw [Int.mul_one] at HG2; exact HG2
      case measure => first | (simp [intOf]; done) | (simp [intOf]; omega)
     ·have HN := Lib.hid (HG.out.symm.trans (zeO (L + 1) 3 A _ p x b (by omega) (by rw [HL.out]; omega) HP.out HPZ.out (by rw [HLIM.out]; cases b with | false => exact .inl rfl | true => exact .inr (by have h8 : ¬ x < 256 := fun h => hok ⟨rfl, h⟩; omega))))
      have HOK := Lib.hid hok
      clear hok
      cases b with
      | false =>
       go_wp2_with fail
       refine (zaL ⟨p.toArray⟩ _ (by rw [zaH]; omega)).mono ?_
       rw [zaJ, HPZ.out]
       rintro e w2 ⟨rfl, hb2⟩
       have hc2 : Below w1.heap.size w1 w2 := hbw.trans (hb2.mono hbw.size)
       clear hb2

       go_wp2
       go_ret2
       exact zaP HN.out (hb1.trans (hc2.mono hb1.size))
      | true =>
       have hxl : 256 ≤ x := by have h8 : ¬ x < 256 := fun h => HOK.out ⟨rfl, h⟩; omega
       go_wp2_with fail
       refine (zaL ⟨p.toArray⟩ _ (by rw [zaH]; omega)).mono ?_
       rw [zaJ, HPZ.out]
       rintro e w2 ⟨rfl, hb2⟩
       have hc2 : Below w1.heap.size w1 w2 := hbw.trans (hb2.mono hbw.size)
       clear hb2

       go_wp2
       go_ret2
       exact zaP HN.out (hb1.trans (hc2.mono hb1.size))
   ·rcases (show k = 0 ∨ k = 1 ∨ k = 2 from by omega) with rfl | rfl | rfl
    ·have hp : (zaF s.data.toList).getD 0 [] = p := hpk
     have hcx := HCELL.out 0 (by omega)
     rw [hp] at hcx
     have hcx2 : wr.cell? ⟨g, 0, none⟩ = some (.string ⟨p.toArray⟩) := (hbw.cell (p := ⟨g, 0, none⟩) hg).trans hcx
     obtain ⟨x, b, hpz⟩ : ∃ x b, zbN p = (x, b) := ⟨_, _, rfl⟩
     have hx0 : 0 ≤ x ∧ x ≤ 1099511627776 := by have h9 := zbG p; rw [hpz] at h9; exact h9
     obtain ⟨hx0, hx1⟩ := hx0
     have hpl : p.length ≤ s.size := by rw [← hp, ← zaK]; exact zbT _ _ _
     have hlim : limZ (L + 1) 0 = 256 := by unfold limZ; rw [if_neg (by omega)]
     have hwt : wtZ (L + 1) 0 = 16777216 := by unfold wtZ; rw [if_neg (by omega)]; rfl
     have hA : A % 2 ^ 32 = 0 := HM.out (by omega)
     have HP := Lib.hid hp
     have HPZ := Lib.hid hpz
     have HLIM := Lib.hid hlim
     have HWT := Lib.hid hwt
     have hLk1 : 1 ≤ L := by omega
     clear hp hpz hlim hwt hcx hpk hLk
     try rw [show ((0 : Nat) : Int) = 0 from rfl]
     by_cases hok : b = true ∧ x < 256
     ·obtain ⟨rfl, hxl⟩ := hok
      have hor : bits .or .u32 A (x * 16777216) = A + x * 16777216 := zbW 32 A _ hA0 hA hA1 (by omega) (by omega) (by omega)
      have hgo := HG.out
      rw [zdB (L + 1) 0 A _ p x (by omega) (by rw [HL.out]; omega) HP.out HPZ.out (by rw [HLIM.out]; exact hxl), HWT.out] at hgo
      have HG2 := Lib.hid hgo
      have HA := Lib.hid hA
      clear hgo hA
      go_wp2_with fail
      refine (zaL ⟨p.toArray⟩ _ (by rw [zaH]; omega)).mono ?_
      rw [zaJ, HPZ.out]
      rintro e w2 ⟨rfl, hb2⟩
      have hc2 : Below w1.heap.size w1 w2 := hbw.trans (hb2.mono hbw.size)
      clear hb2

      go_wp2
      go_roundw
      case rel =>
       refine ⟨1, A + x * 16777216, by omega, (by first | rfl | go_num), rfl, by omega, ?_, ?_, ?_, hc2⟩
       ·have := HA.out; omega
       ·refine Lib.hid (fun _ => ?_); have := HA.out; omega
       ·exact HG2
      case measure => first | (simp [intOf]; done) | (simp [intOf]; omega)
     ·have HN := Lib.hid (HG.out.symm.trans (zeO (L + 1) 0 A _ p x b (by omega) (by rw [HL.out]; omega) HP.out HPZ.out (by rw [HLIM.out]; cases b with | false => exact .inl rfl | true => exact .inr (by have h8 : ¬ x < 256 := fun h => hok ⟨rfl, h⟩; omega))))
      have HOK := Lib.hid hok
      clear hok
      cases b with
      | false =>
       go_wp2_with fail
       refine (zaL ⟨p.toArray⟩ _ (by rw [zaH]; omega)).mono ?_
       rw [zaJ, HPZ.out]
       rintro e w2 ⟨rfl, hb2⟩
       have hc2 : Below w1.heap.size w1 w2 := hbw.trans (hb2.mono hbw.size)
       clear hb2

       go_wp2
       go_ret2
       exact zaP HN.out (hb1.trans (hc2.mono hb1.size))
      | true =>
       have hxl : 256 ≤ x := by have h8 : ¬ x < 256 := fun h => HOK.out ⟨rfl, h⟩; omega
       go_wp2_with fail
       refine (zaL ⟨p.toArray⟩ _ (by rw [zaH]; omega)).mono ?_
       rw [zaJ, HPZ.out]
       rintro e w2 ⟨rfl, hb2⟩
       have hc2 : Below w1.heap.size w1 w2 := hbw.trans (hb2.mono hbw.size)
       clear hb2

       go_wp2
       go_ret2
       exact zaP HN.out (hb1.trans (hc2.mono hb1.size))
    ·have hp : (zaF s.data.toList).getD 1 [] = p := hpk
     have hcx := HCELL.out 1 (by omega)
     rw [hp] at hcx
     have hcx2 : wr.cell? ⟨g, 1, none⟩ = some (.string ⟨p.toArray⟩) := (hbw.cell (p := ⟨g, 1, none⟩) hg).trans hcx
     obtain ⟨x, b, hpz⟩ : ∃ x b, zbN p = (x, b) := ⟨_, _, rfl⟩
     have hx0 : 0 ≤ x ∧ x ≤ 1099511627776 := by have h9 := zbG p; rw [hpz] at h9; exact h9
     obtain ⟨hx0, hx1⟩ := hx0
     have hpl : p.length ≤ s.size := by rw [← hp, ← zaK]; exact zbT _ _ _
     have hlim : limZ (L + 1) 1 = 256 := by unfold limZ; rw [if_neg (by omega)]
     have hwt : wtZ (L + 1) 1 = 65536 := by unfold wtZ; rw [if_neg (by omega)]; rfl
     have hA : A % 2 ^ 24 = 0 := HM.out (by omega)
     have HP := Lib.hid hp
     have HPZ := Lib.hid hpz
     have HLIM := Lib.hid hlim
     have HWT := Lib.hid hwt
     have hLk1 : 2 ≤ L := by omega
     clear hp hpz hlim hwt hcx hpk hLk
     try rw [show ((1 : Nat) : Int) = 1 from rfl]
     by_cases hok : b = true ∧ x < 256
     ·obtain ⟨rfl, hxl⟩ := hok
      have hor : bits .or .u32 A (x * 65536) = A + x * 65536 := zbW 24 A _ hA0 hA hA1 (by omega) (by omega) (by omega)
      have hgo := HG.out
      rw [zdB (L + 1) 1 A _ p x (by omega) (by rw [HL.out]; omega) HP.out HPZ.out (by rw [HLIM.out]; exact hxl), HWT.out] at hgo
      have HG2 := Lib.hid hgo
      have HA := Lib.hid hA
      clear hgo hA
      go_wp2_with fail
      refine (zaL ⟨p.toArray⟩ _ (by rw [zaH]; omega)).mono ?_
      rw [zaJ, HPZ.out]
      rintro e w2 ⟨rfl, hb2⟩
      have hc2 : Below w1.heap.size w1 w2 := hbw.trans (hb2.mono hbw.size)
      clear hb2

      go_wp2
      go_roundw
      case rel =>
       refine ⟨2, A + x * 65536, by omega, (by first | rfl | go_num), rfl, by omega, ?_, ?_, ?_, hc2⟩
       ·have := HA.out; omega
       ·refine Lib.hid (fun _ => ?_); have := HA.out; omega
       ·exact HG2
      case measure => first | (simp [intOf]; done) | (simp [intOf]; omega)
     ·have HN := Lib.hid (HG.out.symm.trans (zeO (L + 1) 1 A _ p x b (by omega) (by rw [HL.out]; omega) HP.out HPZ.out (by rw [HLIM.out]; cases b with | false => exact .inl rfl | true => exact .inr (by have h8 : ¬ x < 256 := fun h => hok ⟨rfl, h⟩; omega))))
      have HOK := Lib.hid hok
      clear hok
      cases b with
      | false =>
       go_wp2_with fail
       refine (zaL ⟨p.toArray⟩ _ (by rw [zaH]; omega)).mono ?_
       rw [zaJ, HPZ.out]
       rintro e w2 ⟨rfl, hb2⟩
       have hc2 : Below w1.heap.size w1 w2 := hbw.trans (hb2.mono hbw.size)
       clear hb2

       go_wp2
       go_ret2
       exact zaP HN.out (hb1.trans (hc2.mono hb1.size))
      | true =>
       have hxl : 256 ≤ x := by have h8 : ¬ x < 256 := fun h => HOK.out ⟨rfl, h⟩; omega
       go_wp2_with fail
       refine (zaL ⟨p.toArray⟩ _ (by rw [zaH]; omega)).mono ?_
       rw [zaJ, HPZ.out]
       rintro e w2 ⟨rfl, hb2⟩
       have hc2 : Below w1.heap.size w1 w2 := hbw.trans (hb2.mono hbw.size)
       clear hb2

       go_wp2
       go_ret2
       exact zaP HN.out (hb1.trans (hc2.mono hb1.size))
    ·have hp : (zaF s.data.toList).getD 2 [] = p := hpk
     have hcx := HCELL.out 2 (by omega)
     rw [hp] at hcx
     have hcx2 : wr.cell? ⟨g, 2, none⟩ = some (.string ⟨p.toArray⟩) := (hbw.cell (p := ⟨g, 2, none⟩) hg).trans hcx
     obtain ⟨x, b, hpz⟩ : ∃ x b, zbN p = (x, b) := ⟨_, _, rfl⟩
     have hx0 : 0 ≤ x ∧ x ≤ 1099511627776 := by have h9 := zbG p; rw [hpz] at h9; exact h9
     obtain ⟨hx0, hx1⟩ := hx0
     have hpl : p.length ≤ s.size := by rw [← hp, ← zaK]; exact zbT _ _ _
     have hlim : limZ (L + 1) 2 = 256 := by unfold limZ; rw [if_neg (by omega)]
     have hwt : wtZ (L + 1) 2 = 256 := by unfold wtZ; rw [if_neg (by omega)]; rfl
     have hA : A % 2 ^ 16 = 0 := HM.out (by omega)
     have HP := Lib.hid hp
     have HPZ := Lib.hid hpz
     have HLIM := Lib.hid hlim
     have HWT := Lib.hid hwt
     have hLk1 : 3 ≤ L := by omega
     clear hp hpz hlim hwt hcx hpk hLk
     try rw [show ((2 : Nat) : Int) = 2 from rfl]
     by_cases hok : b = true ∧ x < 256
     ·obtain ⟨rfl, hxl⟩ := hok
      have hor : bits .or .u32 A (x * 256) = A + x * 256 := zbW 16 A _ hA0 hA hA1 (by omega) (by omega) (by omega)
      have hgo := HG.out
      rw [zdB (L + 1) 2 A _ p x (by omega) (by rw [HL.out]; omega) HP.out HPZ.out (by rw [HLIM.out]; exact hxl), HWT.out] at hgo
      have HG2 := Lib.hid hgo
      have HA := Lib.hid hA
      clear hgo hA
      go_wp2_with fail
      refine (zaL ⟨p.toArray⟩ _ (by rw [zaH]; omega)).mono ?_
      rw [zaJ, HPZ.out]
      rintro e w2 ⟨rfl, hb2⟩
      have hc2 : Below w1.heap.size w1 w2 := hbw.trans (hb2.mono hbw.size)
      clear hb2

      go_wp2
      go_roundw
      case rel =>
       refine ⟨3, A + x * 256, by omega, (by first | rfl | go_num), rfl, by omega, ?_, ?_, ?_, hc2⟩
       ·have := HA.out; omega
       ·refine Lib.hid (fun _ => ?_); have := HA.out; omega
       ·exact HG2
      case measure => first | (simp [intOf]; done) | (simp [intOf]; omega)
     ·have HN := Lib.hid (HG.out.symm.trans (zeO (L + 1) 2 A _ p x b (by omega) (by rw [HL.out]; omega) HP.out HPZ.out (by rw [HLIM.out]; cases b with | false => exact .inl rfl | true => exact .inr (by have h8 : ¬ x < 256 := fun h => hok ⟨rfl, h⟩; omega))))
      have HOK := Lib.hid hok
      clear hok
      cases b with
      | false =>
       go_wp2_with fail
       refine (zaL ⟨p.toArray⟩ _ (by rw [zaH]; omega)).mono ?_
       rw [zaJ, HPZ.out]
       rintro e w2 ⟨rfl, hb2⟩
       have hc2 : Below w1.heap.size w1 w2 := hbw.trans (hb2.mono hbw.size)
       clear hb2

       go_wp2
       go_ret2
       exact zaP HN.out (hb1.trans (hc2.mono hb1.size))
      | true =>
       have hxl : 256 ≤ x := by have h8 : ¬ x < 256 := fun h => HOK.out ⟨rfl, h⟩; omega
       go_wp2_with fail
       refine (zaL ⟨p.toArray⟩ _ (by rw [zaH]; omega)).mono ?_
       rw [zaJ, HPZ.out]
       rintro e w2 ⟨rfl, hb2⟩
       have hc2 : Below w1.heap.size w1 w2 := hbw.trans (hb2.mono hbw.size)
       clear hb2

       go_wp2
       go_ret2
       exact zaP HN.out (hb1.trans (hc2.mono hb1.size))
  ·obtain rfl : k = L + 1 := by omega
   have hfin := HG.out
   rw [zrF (L + 1) (L + 1) A _ (Nat.le_refl _)] at hfin
   have HF := Lib.hid hfin.symm
   clear hfin
   go_wp2
   go_ret2
   exact zaP HF.out (hb1.trans (hbw.mono hb1.size))
theorem zhB (s : ByteArray) (w : World) (hs : s.size ≤ 1073741824) (L : Nat) (hl : (zaF s.data.toList).length = L + 2) (hx : (zaF s.data.toList).getD (L + 1) [] = []) (hL3 : 3 < L) :
  Calls Tryz.prog 56 #[.string s] w (zfX w (zfN s.data.toList)) := by
 have HK := Lib.hid (zfZ L _ hl hx)
 have HX := Lib.hid hx
 clear hx
 have HL := Lib.hid hl
 clear hl
 have HZ := Lib.hid (zlE HK.out (by omega))
 have hnb : L ≤ 1073741824 := by
  have h1 := zcL (hasB [46]) s.data.toList
  rw [zaK] at h1
  have h2 := HL.out
  unfold zaF at h2
  omega
 go_enter Tryz.func56, Tryz.ntmps56
 go_wp2_with fail
 refine (zcE s _ _ hs).mono ?_
 rintro e w1 ⟨v, rfl, hp, hb1⟩
 have hp' : zbY w.heap.size w1 v (zaF s.data.toList) := hp
 obtain ⟨g, cap, rfl, hcap, hg, hcell⟩ := hp'.form2 (by rw [HL.out]; omega)
 rw [HL.out] at hcap hcell ⊢
 have hcy := hcell (L + 1) (by omega)
 rw [HX.out] at hcy
 have HCELL := Lib.hid hcell
 clear hp hp' hcell
 go_wp2
 go_ret2
 exact zaP HZ.out hb1
theorem zhV (s : ByteArray) (w : World) (hs : s.size ≤ 1073741824) :
  Calls Tryz.prog 56 #[.string s] w (zfX w (zfN s.data.toList)) := by
 have h0 : 0 < (zaF s.data.toList).length := zhP _ _
 by_cases h1 : (zaF s.data.toList).length = 1
 ·exact zvL s w hs h1
 ·obtain ⟨n, hn⟩ : ∃ n, (zaF s.data.toList).length = n + 2 := ⟨(zaF s.data.toList).length - 2, by omega⟩
  by_cases he : (zaF s.data.toList).getD (n + 1) [] = []
  ·by_cases hm : 3 < n
   ·exact zhB s w hs n hn he hm
   ·exact zkU s w hs n hn he (by omega)
  ·by_cases hm : 3 < n + 1
   ·exact ziD s w hs (n + 1) (by omega) hn _ rfl he hm
   ·exact zoB s w hs (n + 1) (by omega) hn _ rfl he (by omega)
end
section
open Go.RowKit
end
section
open Go.RowKit
end
section
open Go.RowKit
end
section
open Go.RowKit
/-- four decimal parts of at most 255 each -/
def goS : Int → List (List UInt8) → Int × Bool
 | A, [] => (A, true)
 | A, p :: r => if (decZ p 255).2 = true then goS (A * 256 + (decZ p 255).1) r else (0, false)
def zaO (l : List UInt8) : Int × Bool := if (zaF l).length = 4 then goS 0 (zaF l) else (0, false)
theorem zfQ (l : List UInt8) (m : Int) (hm : 0 ≤ m) : 0 ≤ (decZ l m).1 ∧ (decZ l m).1 ≤ m := by
 unfold decZ
 split
 ·exact ⟨Int.le_refl _, hm⟩
 ·rename_i h
  split
  ·exact ⟨Int.le_refl _, hm⟩
  ·refine ⟨zkN l ?_, by show decN l ≤ m; omega⟩
   cases hd : zbQ 10 l with
   | true => rfl
   | false => rw [hd] at h; simp at h
theorem zsI (k : Nat) (ps : List (List UInt8)) (h : k < ps.length) : ps.drop k = ps.getD k [] :: ps.drop (k + 1) := by
 rw [List.drop_eq_getElem_cons h, List.getD, List.getElem?_eq_getElem h]
 rfl
theorem z5A (k : Nat) (A : Int) (ps : List (List UInt8)) (p : List UInt8) (x : Int) (h : k < ps.length) (hp : ps.getD k [] = p) (hx : decZ p 255 = (x, true)) : goS A (ps.drop k) = goS (A * 256 + x) (ps.drop (k + 1)) := by
 rw [zsI k ps h, hp]
 show (if _ then _ else _) = _
 rw [hx, if_pos rfl]
theorem goS_no (k : Nat) (A : Int) (ps : List (List UInt8)) (p : List UInt8) (x : Int) (h : k < ps.length) (hp : ps.getD k [] = p) (hx : decZ p 255 = (x, false)) : goS A (ps.drop k) = (0, false) := by
 rw [zsI k ps h, hp]
 show (if _ then _ else _) = _
 rw [hx]
 rfl
theorem z4C (k : Nat) (A : Int) (ps : List (List UInt8)) (h : ps.length ≤ k) : goS A (ps.drop k) = (A, true) := by
 rw [List.drop_eq_nil_of_le h]
 rfl
theorem zoH {l : List UInt8} (h : (zaF l).length = 4) : zaO l = goS 0 ((zaF l).drop 0) := by
 unfold zaO; rw [if_pos h]; rfl
theorem zuR {l : List UInt8} (h : (zaF l).length ≠ 4) : zaO l = (0, false) := by
 unfold zaO; rw [if_neg h]
theorem zeV (s : ByteArray) (w : World) (hs : s.size ≤ 1073741824) :
  Calls Tryz.prog 142 #[.string s] w (zfX w (zaO s.data.toList)) := by
 by_cases hl : (zaF s.data.toList).length = 4
 ·have HL := Lib.hid hl
  have HZ := Lib.hid (zoH hl)
  clear hl
  go_enter Tryz.func142, Tryz.ntmps142
  go_wp2_with fail
  refine (zcE s _ _ hs).mono ?_
  rintro e w1 ⟨v, rfl, hp, hb1⟩
  have hp' : zbY w.heap.size w1 v (zaF s.data.toList) := hp
  obtain ⟨g, cap, rfl, hcap, hg, hcell⟩ := hp'.form2 (by rw [HL.out]; omega)
  rw [HL.out] at hcap hcell ⊢
  have HCELL := Lib.hid hcell
  clear hp hp' hcell
  go_wp2
  go_loopw [5, 17] (fun v i wr => ∃ (k : Nat) (A : Int), k ≤ 4 ∧ i = .int .i64 k ∧ v = .int .u32 A ∧ 0 ≤ A ∧ Hid (A < 256 ^ k) ∧ Hid (goS A ((zaF s.data.toList).drop k) = zaO s.data.toList) ∧ Below w1.heap.size w1 wr) (fun _ i _ => 4 - (intOf i).toNat)
  case atStart => exact ⟨0, 0, by omega, rfl, rfl, by omega, (by show (0 : Int) < 256 ^ 0; decide), HZ.out.symm, Below.refl _ _⟩
  case round =>
   obtain ⟨k, A, hk, rfl, rfl, hA0, HM, HG, hbw⟩ := hrel
   by_cases hk4 : k < 4
   ·obtain ⟨p, hpk⟩ : ∃ p, (zaF s.data.toList).getD k [] = p := ⟨_, rfl⟩
    have hcx := HCELL.out k hk4
    rw [hpk] at hcx
    have hcx2 : wr.cell? ⟨g, k, none⟩ = some (.string ⟨p.toArray⟩) := (hbw.cell (p := ⟨g, k, none⟩) hg).trans hcx
    have hpl : p.length ≤ s.size := by rw [← hpk, ← zaK]; exact zbT _ _ _
    obtain ⟨x, b, hpz⟩ : ∃ x b, decZ p 255 = (x, b) := ⟨_, _, rfl⟩
    have hx : 0 ≤ x ∧ x ≤ 255 := by have h9 := zfQ p 255 (by decide); rw [hpz] at h9; exact h9
    obtain ⟨hx0, hx1⟩ := hx
    have hA1 : A < 16777216 := by
     have h1 := HM.out
     rcases (show k = 0 ∨ k = 1 ∨ k = 2 ∨ k = 3 from by omega) with rfl | rfl | rfl | rfl
     all_goals
      simp at h1
      omega
    have hA2 : A * 256 + x < 256 ^ (k + 1) := by
     have h1 := HM.out
     rcases (show k = 0 ∨ k = 1 ∨ k = 2 ∨ k = 3 from by omega) with rfl | rfl | rfl | rfl
     all_goals
      simp at h1 ⊢
      omega
    have HA2 := Lib.hid hA2
    have hor : bits .or .u32 (A * 256) x = A * 256 + x := zbW 8 _ _ (by omega) (by omega) (by omega) (by omega) (by omega) (by omega)
    have HP := Lib.hid hpk
    have HPZ := Lib.hid hpz
    clear hpk hpz hcx hA2
    cases b with
    | true =>
     have hgo := HG.out
     rw [z5A k A _ p x (by rw [HL.out]; exact hk4) HP.out HPZ.out] at hgo
     have HG2 := Lib.hid hgo
     clear hgo
     go_wp2_with fail
     refine (zcB ⟨p.toArray⟩ 255 _ (by rw [zaH]; omega) (by decide) (by decide)).mono ?_
     rw [zaJ, HPZ.out]
     rintro e w2 ⟨rfl, hb2⟩
     have hc2 : Below w1.heap.size w1 w2 := hbw.trans (hb2.mono hbw.size)
     clear hb2
     go_wp2
     go_roundw
     case rel => exact ⟨k + 1, A * 256 + x, by omega, by go_num, rfl, by omega, HA2, HG2, hc2⟩
     case measure => simp [intOf]; omega
    | false =>
     have HN := Lib.hid (HG.out.symm.trans (goS_no k A _ p x (by rw [HL.out]; exact hk4) HP.out HPZ.out))
     go_wp2_with fail
     refine (zcB ⟨p.toArray⟩ 255 _ (by rw [zaH]; omega) (by decide) (by decide)).mono ?_
     rw [zaJ, HPZ.out]
     rintro e w2 ⟨rfl, hb2⟩
     have hc2 : Below w1.heap.size w1 w2 := hbw.trans (hb2.mono hbw.size)
     clear hb2
     go_wp2
     go_ret2
     exact zaP HN.out (hb1.trans (hc2.mono hb1.size))
   ·have hfin := HG.out
    rw [z4C k A _ (by rw [HL.out]; omega)] at hfin
    have HF := Lib.hid hfin.symm
    clear hfin
    go_wp2
    go_ret2
    exact zaP HF.out (hb1.trans (hbw.mono hb1.size))
 ·obtain ⟨m, hm⟩ : ∃ m, (zaF s.data.toList).length = m := ⟨_, rfl⟩
  have HZ := Lib.hid (zuR hl)
  have h0 : 0 < (zaF s.data.toList).length := zhP _ _
  rw [hm] at hl h0
  have hmb : m ≤ 1073741825 := by
   have h1 := zcL (hasB [46]) s.data.toList
   rw [zaK] at h1
   have h2 := hm
   unfold zaF at h2
   omega
  have hne : ((m : Int) != 4) = true := by rw [bne_iff_ne]; omega
  have HM := Lib.hid hm
  clear hm hl
  go_enter Tryz.func142, Tryz.ntmps142
  go_wp2_with fail
  refine (zcE s _ _ hs).mono ?_
  rintro e w1 ⟨v, rfl, hp, hb1⟩
  have hp' : zbY w.heap.size w1 v (zaF s.data.toList) := hp
  obtain ⟨g, cap, rfl, hcap, hg, hcell⟩ := hp'.form2 (by rw [HM.out]; omega)
  rw [HM.out]
  clear hp hp' hcell hcap
  go_wp2
  go_ret2
  exact zaP HZ.out hb1
theorem zmB (a b c d : Int) (w : World) (ha : 0 ≤ a ∧ a ≤ 255) (hb : 0 ≤ b ∧ b ≤ 255) (hc : 0 ≤ c ∧ c ≤ 255) (hd : 0 ≤ d ∧ d ≤ 255) :
  Calls Tryz.prog 51 #[.int .u8 a, .int .u8 b, .int .u8 c, .int .u8 d] w fun e w' => e = .returned (.int .u32 (a * 16777216 + b * 65536 + c * 256 + d)) ∧ w = w' := by
 obtain ⟨ha0, ha1⟩ := ha
 obtain ⟨hb0, hb1⟩ := hb
 obtain ⟨hc0, hc1⟩ := hc
 obtain ⟨hd0, hd1⟩ := hd
 have h1 : bits .or .u32 (a * 16777216) (b * 65536) = a * 16777216 + b * 65536 := zbW 24 _ _ (by omega) (by omega) (by omega) (by omega) (by omega) (by omega)
 have h2 : bits .or .u32 (a * 16777216 + b * 65536) (c * 256) = a * 16777216 + b * 65536 + c * 256 := zbW 16 _ _ (by omega) (by omega) (by omega) (by omega) (by omega) (by omega)
 have h3 : bits .or .u32 (a * 16777216 + b * 65536 + c * 256) d = a * 16777216 + b * 65536 + c * 256 + d := zbW 8 _ _ (by omega) (by omega) (by omega) (by omega) (by omega) (by omega)
 go_enter Tryz.func51, Tryz.ntmps51
 go_wp2
 go_ret
 exact ⟨zeP (by omega), rfl⟩
end
section
open Go.RowKit
end
section
open Go.RowKit
theorem p4_a : zfN [48, 120, 55, 102, 46, 49] = (2130706433, true) := by decide +kernel
theorem p4_b : zfN [49, 46, 50, 46, 51, 46, 50, 53, 54] = (0, false) := by decide +kernel
theorem p4_c : zfN [50, 53, 54] = (256, true) := by decide +kernel
theorem zpZ (w : World) :
  Calls Tryz.prog 206 #[] w fun e w' => e = .returned (.bool true) ∧ Below w.heap.size w w' := by
 go_enter Tryz.func206, Tryz.ntmps206
 go_wp2_with fail
 refine (zhV _ _ (by decide)).mono ?_
 rw [show zfN (ByteArray.mk #[48, 120, 55, 102, 46, 49]).data.toList = (2130706433, true) from p4_a]
 rintro e w1 ⟨rfl, hb1⟩
 go_wp2_with fail
 refine (zhV _ _ (by decide)).mono ?_
 rw [show zfN (ByteArray.mk #[49, 46, 50, 46, 51, 46, 50, 53, 54]).data.toList = (0, false) from p4_b]
 rintro e w2 ⟨rfl, hb2⟩
 have hc2 : Below w.heap.size w w2 := hb1.trans (hb2.mono hb1.size)
 clear hb1 hb2
 go_wp2_with fail
 refine (zhV _ _ (by decide)).mono ?_
 rw [show zfN (ByteArray.mk #[50, 53, 54]).data.toList = (256, true) from p4_c]
 rintro e w3 ⟨rfl, hb3⟩
 have hc3 : Below w.heap.size w w3 := hc2.trans (hb3.mono hc2.size)
 clear hc2 hb3
 go_wp2_with fail
 refine (ztU _).mono ?_
 rintro e w4 ⟨rfl, hb4⟩
 have hc4 : Below w.heap.size w w4 := hc3.trans (hb4.mono hc3.size)
 clear hc3 hb4
 go_wp2_with fail
 refine (zmB 127 0 0 1 _ (by decide) (by decide) (by decide) (by decide)).mono ?_
 rintro e w' ⟨rfl, rfl⟩
 go_wp2_with fail
 refine (zmB 0 0 1 0 _ (by decide) (by decide) (by decide) (by decide)).mono ?_
 rintro e w' ⟨rfl, rfl⟩
 go_wp2
 go_ret
 exact ⟨by first | rfl | exact zaX (by decide), hc4⟩
end
section
open Go.RowKit
def dec3 (u : Nat) : List UInt8 :=
 if u < 10 then [UInt8.ofNat (48 + u)] else if u < 100 then [UInt8.ofNat (48 + u / 10), UInt8.ofNat (48 + u % 10)] else [UInt8.ofNat (48 + u / 100), UInt8.ofNat (48 + u / 10 % 10), UInt8.ofNat (48 + u % 10)]
theorem zyT (p : UInt8 → Bool) (l : List UInt8) : ∀ (xs : List (List UInt8)) (t : List UInt8), l.foldl (zaT p) (xs, t) = (xs ++ (l.foldl (zaT p) ([], t)).1, (l.foldl (zaT p) ([], t)).2) := by
 induction l with
 | nil => intro xs t; simp
 | cons c l ih =>
  intro xs t
  simp only [List.foldl_cons, zaT]
  by_cases hp : p c = true
  ·simp only [hp, if_true]
   rw [ih (xs ++ [t]) [], ih ([] ++ [t]) []]
   simp
  ·have hf : p c = false := by simpa using hp
   simp only [hf]
   rw [show (if false = true then (xs ++ [t], ([] : List UInt8)) else (xs, t ++ [c])) = (xs, t ++ [c]) from rfl, ih xs (t ++ [c])]
   rfl
theorem zuT (a : List UInt8) (h : ∀ c ∈ a, hasB [46] c = false) : zaF a = [a] := by
 unfold zaF splitB spl
 rw [z3C _ a [] [] h]
 simp
def txt (a b c d : Nat) : List UInt8 := dec3 a ++ [46] ++ (dec3 b ++ [46] ++ (dec3 c ++ [46] ++ dec3 d))
/-- the text of a number of 32 bits -/
def txtZ (n : Int) : List UInt8 := txt (n / 16777216).toNat (n / 65536 % 256).toNat (n / 256 % 256).toNat (n % 256).toNat
end
section
open Go.RowKit
theorem zsL (i : Nat) (x y : Int) (hx0 : 0 ≤ x) (hx : x % 2 ^ i = 0) (hx1 : x < 18446744073709551616) (hy0 : 0 ≤ y) (hy : y < 2 ^ i) (hy1 : y < 18446744073709551616) : bits .or .u64 x y = x + y :=
 bits_join .u64 64 (by decide) (fun n h0 h1 => by rw [IntKind.wrap_u64]; omega) i x y hx0 hx hx1 hy0 hy hy1
theorem zmF (n : Int) (w : World) (h0 : 0 ≤ n) (h1 : n ≤ 4294967295) :
  Calls Tryz.prog 238 #[.int .u32 n] w fun e w' => e = .returned (.tuple #[.int .u64 0, .int .u64 (281470681743360 + n)]) ∧ w = w' := by
 have hor : bits .or .u64 281470681743360 n = 281470681743360 + n := zsL 32 _ _ (by omega) (by decide) (by omega) h0 (by omega) (by omega)
 go_enter Tryz.func238, Tryz.ntmps238
 go_wp2
 go_ret2
 exact ⟨rfl, rfl⟩
end
section
open Go.RowKit
theorem cat2 (x y : List UInt8) : ByteArray.mk x.toArray ++ ByteArray.mk y.toArray = ByteArray.mk (x ++ y).toArray := zyD x y
def zoN (w : World) (l : List UInt8) (e : Ending) (w' : World) : Prop := e = .returned (.string ⟨l.toArray⟩) ∧ Below w.heap.size w w'
end
section
open Go.RowKit
theorem dec3_1 : ∀ i : Fin 10, dec3 i.val = [UInt8.ofNat (48 + i.val)] := by decide +kernel
theorem dec3_2 : ∀ i j : Fin 10, i.val ≠ 0 → dec3 (i.val * 10 + j.val) = [UInt8.ofNat (48 + i.val), UInt8.ofNat (48 + j.val)] := by decide +kernel
theorem dec3_3 : ∀ i j k : Fin 10, i.val ≠ 0 → dec3 ((i.val * 10 + j.val) * 10 + k.val) = [UInt8.ofNat (48 + i.val), UInt8.ofNat (48 + j.val), UInt8.ofNat (48 + k.val)] := by decide +kernel
theorem zdG (c : UInt8) (h : digC 10 c = true) : ∃ i : Nat, i < 10 ∧ c = UInt8.ofNat (48 + i) ∧ c.toNat = 48 + i ∧ valZ (c.toNat : Int) = (i : Int) := by
 rw [zgS] at h
 obtain ⟨h1, h2⟩ := zoT h
 refine ⟨c.toNat - 48, by omega, ?_, by omega, ?_⟩
 ·apply UInt8.toNat_inj.1
  rw [show 48 + (c.toNat - 48) = c.toNat from by omega]
  simp
 ·rw [zlF h1 h2]; omega
theorem zhH (p : List UInt8) (x : Int) (h : decZ p 255 = (x, true)) : 0 ≤ x ∧ x ≤ 255 ∧ p = dec3 x.toNat := by
 have hb := zfQ p 255 (by decide)
 rw [h] at hb
 refine ⟨hb.1, hb.2, ?_⟩
 unfold decZ at h
 split at h
 ·exact absurd (congrArg Prod.snd h) (by simp)
 ·rename_i hc
  split at h
  ·exact absurd (congrArg Prod.snd h) (by simp)
  ·rename_i hm
   have hx : decN p = x := congrArg Prod.fst h
   have hd : zbQ 10 p = true := by
    cases hd : zbQ 10 p with
    | true => rfl
    | false => rw [hd] at hc; simp at hc
   rw [hd] at hc
   have hall : ∀ c ∈ p, digC 10 c = true := List.all_eq_true.1 hd
   match p, hx, hc, hall, hm, hd with
   | [], _, hc, _, _, _ => simp at hc
   | [a], hx, _, hall, _, _ =>
    obtain ⟨i, hi, ha, _, hv⟩ := zdG a (hall a (by simp))
    have : x = (i : Int) := by rw [← hx]; simp [decN, hv]
    rw [this, ha]
    exact (dec3_1 ⟨i, hi⟩).symm
   | [a, b], hx, hc, hall, _, _ =>
    obtain ⟨i, hi, ha, hna, hva⟩ := zdG a (hall a (by simp))
    obtain ⟨j, hj, hb', _, hvb⟩ := zdG b (hall b (by simp))
    have hi0 : i ≠ 0 := by
     intro e
     apply hc
     simp [hna, e]
    have : x = ((i * 10 + j : Nat) : Int) := by rw [← hx]; simp [decN, hva, hvb]
    rw [this, ha, hb']
    exact (dec3_2 ⟨i, hi⟩ ⟨j, hj⟩ hi0).symm
   | [a, b, c], hx, hc, hall, _, _ =>
    obtain ⟨i, hi, ha, hna, hva⟩ := zdG a (hall a (by simp))
    obtain ⟨j, hj, hb', _, hvb⟩ := zdG b (hall b (by simp))
    obtain ⟨k, hk, hc', _, hvc⟩ := zdG c (hall c (by simp))
    have hi0 : i ≠ 0 := by
     intro e
     apply hc
     simp [hna, e]
    have : x = (((i * 10 + j) * 10 + k : Nat) : Int) := by rw [← hx]; simp [decN, hva, hvb, hvc]
    rw [this, ha, hb', hc']
    exact (dec3_3 ⟨i, hi⟩ ⟨j, hj⟩ ⟨k, hk⟩ hi0).symm
   | a :: b :: c :: d :: r, hx, hc, hall, hm, hd =>
    exfalso
    obtain ⟨i, hi, ha, hna, hva⟩ := zdG a (hall a (by simp))
    obtain ⟨j, hj, _, _, hvb⟩ := zdG b (hall b (by simp))
    obtain ⟨k, hk, _, _, hvc⟩ := zdG c (hall c (by simp))
    obtain ⟨l, hl, _, _, hvd⟩ := zdG d (hall d (by simp))
    have hi0 : i ≠ 0 := by
     intro e
     apply hc
     simp [hna, e]
    have h4 := ziO (a :: b :: c :: d :: r) 4 hd
    have e4 : decN ((a :: b :: c :: d :: r).take 4) = (((i : Int) * 10 + j) * 10 + k) * 10 + l := by simp [decN, hva, hvb, hvc, hvd]
    omega
theorem zwM (l : List (List UInt8)) : ∀ (A x : Int), goS A l = (x, false) → x = 0 := by
 induction l with
 | nil => intro A x h; exact absurd (congrArg Prod.snd h) (by simp [goS])
 | cons p r ih =>
  intro A x h
  unfold goS at h
  split at h
  ·exact ih _ _ h
  ·exact (congrArg Prod.fst h).symm
theorem zpT (l : List UInt8) (x : Int) (h : zaO l = (x, false)) : x = 0 := by
 unfold zaO at h
 split at h
 ·exact zwM _ _ _ h
 ·exact (congrArg Prod.fst h).symm
theorem ziU {A x : Int} {p : List UInt8} {r : List (List UInt8)} (h : goS A (p :: r) = (x, true)) : ∃ y, decZ p 255 = (y, true) ∧ goS (A * 256 + y) r = (x, true) := by
 unfold goS at h
 split at h
 ·rename_i hp
  refine ⟨(decZ p 255).1, ?_, h⟩
  rw [← hp]
 ·exact absurd (congrArg Prod.snd h) (by simp)
theorem zqW (l : List UInt8) (x : Int) (h : zaO l = (x, true)) : 0 ≤ x ∧ x ≤ 4294967295 ∧ l = txtZ x := by
 unfold zaO at h
 split at h
 ·rename_i hl
  have hj : Lib.join (zaF l) [46] = l := zuJ l 46
  match hd : zaF l, hl, h, hj with
  | [p0, p1, p2, p3], _, h, hj =>
   obtain ⟨x0, d0, h⟩ := ziU h
   obtain ⟨x1, d1, h⟩ := ziU h
   obtain ⟨x2, d2, h⟩ := ziU h
   obtain ⟨x3, d3, h⟩ := ziU h
   have hx : (((0 * 256 + x0) * 256 + x1) * 256 + x2) * 256 + x3 = x := congrArg Prod.fst h
   obtain ⟨a0, b0, rfl⟩ := zhH p0 x0 d0
   obtain ⟨a1, b1, rfl⟩ := zhH p1 x1 d1
   obtain ⟨a2, b2, rfl⟩ := zhH p2 x2 d2
   obtain ⟨a3, b3, rfl⟩ := zhH p3 x3 d3
   refine ⟨by omega, by omega, ?_⟩
   rw [← hj]
   have e0 : x / 16777216 = x0 := by omega
   have e1 : x / 65536 % 256 = x1 := by omega
   have e2 : x / 256 % 256 = x2 := by omega
   have e3 : x % 256 = x3 := by omega
   unfold txtZ
   rw [e0, e1, e2, e3]
   simp [Lib.join, txt, List.intercalate]
 ·exact absurd (congrArg Prod.snd h) (by simp)
end
section
open Go.RowKit
def valP (b : Int) (L : List UInt8) : Int := L.foldl (fun n c => n * b + valZ (c.toNat : Int)) 0
def dgt (d : Nat) : UInt8 := if d < 10 then UInt8.ofNat (48 + d) else UInt8.ofNat (87 + d)
theorem z0X : ∀ d : Fin 16, valZ ((dgt d.val).toNat : Int) = (d.val : Int) := by decide +kernel
theorem z4E (d : Nat) (h : d < 16) : valZ ((dgt d).toNat : Int) = (d : Int) := z0X ⟨d, h⟩
theorem z0C (b : Int) (L : List UInt8) : ∀ a : Int, L.foldl (fun n c => n * b + valZ (c.toNat : Int)) a = a * b ^ L.length + valP b L := by
 unfold valP
 induction L with
 | nil => intro a; simp
 | cons c L ih =>
  intro a
  simp only [List.foldl_cons, List.length_cons]
  rw [ih, ih (0 * b + _), Int.pow_succ]
  rw [Int.zero_mul, Int.zero_add, Int.add_mul, Int.mul_assoc, Int.mul_comm b (b ^ L.length), Int.add_assoc]
theorem znV (b : Int) (c : UInt8) (L : List UInt8) : valP b (c :: L) = valZ (c.toNat : Int) * b ^ L.length + valP b L := by
 show (c :: L).foldl _ 0 = _
 rw [List.foldl_cons, z0C, Int.zero_mul, Int.zero_add]
theorem zyE (b : Nat) (v : Nat) (T : List UInt8) (u : Int) (hd : v % b < 16) (h : (v : Int) * (b : Int) ^ T.length + valP b T = u) :
  ((v / b : Nat) : Int) * (b : Int) ^ (dgt (v % b) :: T).length + valP b (dgt (v % b) :: T) = u := by
 rw [znV, z4E _ hd, ← h, List.length_cons, Int.pow_succ]
 have e : (v : Int) = ((v / b : Nat) : Int) * b + ((v % b : Nat) : Int) := by
  have := Nat.div_add_mod v b
  have h2 : v = (v / b) * b + v % b := by rw [Nat.mul_comm]; exact this.symm
  exact_mod_cast h2
 conv => rhs; rw [e]
 rw [Int.add_mul, Int.mul_assoc, Int.mul_comm (b : Int) ((b : Int) ^ T.length)]
 omega
theorem zjH (b : Int) (hb : 0 ≤ b) (L : List UInt8) (hd : zbQ b L = true) : 0 ≤ valP b L := by
 have key : ∀ (L : List UInt8) (n : Int), 0 ≤ n → zbQ b L = true → 0 ≤ L.foldl (fun n c => n * b + valZ (c.toNat : Int)) n := by
  intro L
  induction L with
  | nil => intro n h _; exact h
  | cons c L ih =>
   intro n h hd
   have h2 : digC b c = true ∧ zbQ b L = true := by simpa [zbQ] using hd
   have h3 := of_decide_eq_true h2.1
   have hp : 0 ≤ n * b := Int.mul_nonneg h hb
   exact ih (n * b + valZ (c.toNat : Int)) (by omega) h2.2
 exact key L 0 (Int.le_refl _) hd
end
section
open Go.RowKit Go.Sort Go.Lib
end
section
open Go.RowKit Go.Sort Go.Lib
def bruTab : List Int := [0, 1, 56, 2, 57, 49, 28, 3, 61, 58, 42, 50, 38, 29, 17, 4, 62, 47, 59, 36, 45, 43, 51, 22, 53, 39, 33, 30, 24, 18, 12, 5, 63, 55, 48, 27, 60, 41, 37, 16, 46, 35, 44, 21, 52, 32, 23, 11, 54, 26, 40, 15, 34, 20, 31, 10, 25, 14, 19, 9, 13, 8, 7, 6]
abbrev BruTab (w : World) : Prop := Lib.TabIs Tryz.prog w "math/bits.deBruijn64tab" .u8 bruTab
theorem zbI {w w' : World} (h : BruTab w) (hb : Below w.heap.size w w') : BruTab w' :=
 Lib.tabBelow_of_tabIs h w' hb
theorem bru_at (w : World) (h : BruTab w) (i : Nat) (hi : i < 64) : w.cell? ⟨3, i, none⟩ = some (.int .u8 (bruTab.getD i 0)) :=
 Lib.TabIs.cell h (by kernel_rfl) i (by simpa [bruTab] using hi)
theorem z4Z (w : World) (h : BruTab w) : Calls Tryz.prog 197 #[.int .u64 16] w fun e w' => e = .returned (.int .i64 4) ∧ w = w' := by
 have hc : w.cell? ⟨3, 15, none⟩ = some (.int .u8 4) := bru_at w h 15 (by decide)
 have e1 : IntKind.u64.wrap (-16) = 18446744073709551600 := by decide
 have e2 : bits .and .u64 16 18446744073709551600 = 16 := by decide
 clear h
 go_enter Tryz.func197, Tryz.ntmps197
 go_wp2
 go_ret
 exact ⟨rfl, rfl⟩
theorem tz_16 (w : World) (h : BruTab w) : Calls Tryz.prog 186 #[.int .u64 16] w fun e w' => e = .returned (.int .i64 4) ∧ w = w' := by
 have HT := Lib.hid h
 clear h
 go_enter Tryz.func186, Tryz.ntmps186
 go_wp2_with (go_at_call 197; refine (z4Z _ HT.out).mono ?_; rintro e w' ⟨rfl, rfl⟩)
 go_ret
 exact ⟨rfl, rfl⟩
theorem z4Q (w : World) : Calls Tryz.prog 185 #[.int .i64 16] w fun e w' => e = .returned (.bool true) ∧ w = w' := by
 have e1 : bits .and .i64 16 15 = 0 := by decide
 go_enter Tryz.func185, Tryz.ntmps185
 go_wp2
 go_ret
 exact ⟨rfl, rfl⟩
def zzI : Array Value := #[.int .u8 0, .int .u8 0, .int .u8 0, .int .u8 0, .int .u8 0, .int .u8 0, .int .u8 0, .int .u8 0, .int .u8 0, .int .u8 0, .int .u8 0, .int .u8 0, .int .u8 0, .int .u8 0, .int .u8 0, .int .u8 0, .int .u8 0, .int .u8 0, .int .u8 0, .int .u8 0, .int .u8 0, .int .u8 0, .int .u8 0, .int .u8 0, .int .u8 0, .int .u8 0, .int .u8 0, .int .u8 0, .int .u8 0, .int .u8 0, .int .u8 0, .int .u8 0, .int .u8 0, .int .u8 0, .int .u8 0, .int .u8 0, .int .u8 0, .int .u8 0, .int .u8 0, .int .u8 0, .int .u8 0, .int .u8 0, .int .u8 0, .int .u8 0, .int .u8 0, .int .u8 0, .int .u8 0, .int .u8 0, .int .u8 0, .int .u8 0, .int .u8 0, .int .u8 0, .int .u8 0, .int .u8 0, .int .u8 0, .int .u8 0, .int .u8 0, .int .u8 0, .int .u8 0, .int .u8 0, .int .u8 0, .int .u8 0, .int .u8 0, .int .u8 0, .int .u8 0]
/-- the array's bytes from i on are T -/
def zeE (B i : Nat) (T : List UInt8) (w : World) : Prop :=
 ∃ cur : Array Value, w.heap[B]? = some (.cells cur 211 (0, 0)) ∧ cur.size = 65 ∧ i + T.length = 65 ∧ ∀ j x, T[j]? = some x → cur[i + j]? = some (.int .u8 (x.toNat : Int))
theorem znD (w : World) : zeE w.heap.size 65 [] (w.alloc (.cells zzI 211)) :=
 ⟨zzI, heap_alloc_new w _, rfl, rfl, fun j x h => by simp at h⟩
theorem zeE.cell {B i : Nat} {T : List UInt8} {w : World} (h : zeE B i T w) (k : Nat) (hk : k < 65) : ∃ u, w.cell? ⟨B, k, none⟩ = some u := by
 obtain ⟨cur, h1, h2, _, _⟩ := h
 rw [cell_of_row w B k cur _ _ h1]
 exact ⟨_, Array.getElem?_eq_getElem (by omega)⟩
theorem zeE.frozen {B i : Nat} {T : List UInt8} {w : World} (h : zeE B i T w) (k : Nat) : w.frozen? ⟨B, k, none⟩ = false := by
 obtain ⟨cur, h1, _, _, _⟩ := h
 simp [World.frozen?, h1]
theorem zeE.put {B i : Nat} {T : List UInt8} {w : World} (h : zeE B (i + 1) T w) (c : UInt8) : zeE B i (c :: T) (w.setCell ⟨B, i, none⟩ (.int .u8 (c.toNat : Int))) := by
 obtain ⟨cur, h1, h2, h3, h4⟩ := h
 refine ⟨cur.setIfInBounds i (.int .u8 (c.toNat : Int)), ?_, by simpa using h2, by simp; omega, fun j x hj => ?_⟩
 ·simp [World.setCell, Array.getElem?_modify, h1]
 ·rw [Array.getElem?_setIfInBounds]
  cases j with
  | zero =>
   simp at hj
   subst hj
   rw [if_pos (by omega), if_pos (by omega)]
  | succ j =>
   rw [if_neg (by omega), show i + (j + 1) = i + 1 + j from by omega]
   exact h4 j x (by simpa using hj)
theorem zeE.conv {B i : Nat} {T : List UInt8} {w : World} (h : zeE B i T w) :
  (convert 30 9 (.slice (some ⟨B, i, none⟩) (65 - i) (65 - i))).run Tryz.prog w = .ok (.string ⟨T.toArray⟩) w := by
 refine zdX w _ _ 5 _ _ ?_ Tryz.underlying30 Tryz.underlying5 Tryz.underlying9
 obtain ⟨cur, h1, h2, h3, h4⟩ := h
 refine ⟨_, 65 - i, by rw [Lib.byteCells_length, show 65 - i = T.length from by omega], fun j u hj => ⟨_, rfl, ?_⟩⟩
 rw [Lib.add_plain, cell_of_row w B (i + j) cur _ _ h1]
 have hx : ∃ x, T[j]? = some x ∧ u = .int .u8 (x.toNat : Int) := by
  simp only [Lib.byteCells, List.getElem?_map, Option.map_eq_some_iff] at hj
  obtain ⟨x, hx, rfl⟩ := hj
  exact ⟨x, hx, rfl⟩
 obtain ⟨x, hx, rfl⟩ := hx
 exact h4 j x hx
theorem dig36' : ∀ d : Fin 16, (ByteArray.mk #[48, 49, 50, 51, 52, 53, 54, 55, 56, 57, 97, 98, 99, 100, 101, 102, 103, 104, 105, 106, 107, 108, 109, 110, 111, 112, 113, 114, 115, 116, 117, 118, 119, 120, 121, 122])[d.val]? = some (dgt d.val) := by decide +kernel
theorem dig36 (W : World) (d : Nat) (h : d < 16) : (Instr.index 9 (.string ⟨#[48, 49, 50, 51, 52, 53, 54, 55, 56, 57, 97, 98, 99, 100, 101, 102, 103, 104, 105, 106, 107, 108, 109, 110, 111, 112, 113, 114, 115, 116, 117, 118, 119, 120, 121, 122]⟩) (.int .u64 (d : Int))).run Tryz.prog W = .ok (.int .u8 ((dgt d).toNat : Int)) W := by
 rw [run_index_string W 9 _ .u64 (d : Int) Tryz.underlying9, dif_pos ⟨by omega, by show (d : Int) < 36; omega⟩]
 have e := dig36' ⟨d, h⟩
 have e2 : (ByteArray.mk #[48, 49, 50, 51, 52, 53, 54, 55, 56, 57, 97, 98, 99, 100, 101, 102, 103, 104, 105, 106, 107, 108, 109, 110, 111, 112, 113, 114, 115, 116, 117, 118, 119, 120, 121, 122])[((d : Int)).toNat]'(by show _ < 36; omega) = dgt d := by
  rw [ByteArray.getElem?_lt' _ _ (by show d < 36; omega)] at e
  exact Option.some.inj e
 rw [e2]
theorem zxQ (v l : Nat) (h : v < 2 ^ (64 - l)) (h8 : 8 ≤ v) : l ≤ 60 := by
 by_cases hl : l ≤ 60
 ·exact hl
 ·exfalso
  have : 2 ^ (64 - l) ≤ 2 ^ 3 := Nat.pow_le_pow_right (by decide) (by omega)
  omega
theorem z2B (v l b : Nat) (h : v < 2 ^ (64 - l)) (hl : l ≤ 60) (hb : 2 ≤ b) : v / b < 2 ^ (64 - (l + 1)) := by
 have e : 64 - l = (64 - (l + 1)) + 1 := by omega
 rw [e, Nat.pow_succ] at h
 rw [Nat.div_lt_iff_lt_mul (by omega)]
 exact Nat.lt_of_lt_of_le h (Nat.mul_le_mul_left _ hb)
end
end

end Go.Proofs.YtphapecoimlngaaGreatDoor
