/-
  What the law HostTells leans on, and its walk (5 of 18).
-/
import Derived.Lib.IndexMore
import Derived.Deep.Onto
import Derived.Laws.CopyOwn
import Derived.Lib.AppendZerosOnto
import Derived.Laws.MakeOwn
import Derived.Test.YtphapecoimlngaaGreatDoorHostTellsPkC
namespace Go.Proofs.YtphapecoimlngaaGreatDoor
set_option maxRecDepth 100000
set_option maxHeartbeats 16000000
section
section
open Go.RowKit Go.Sort Go.Lib
/-- the digits to the base 16, without a nought ahead -/
def hexD (u : Nat) : List UInt8 := if _h : u < 16 then [dgt u] else hexD (u / 16) ++ [dgt (u % 16)]
termination_by u
decreasing_by omega
theorem zfZ (u : Nat) (h : u < 16) : hexD u = [dgt u] := by rw [hexD, dif_pos h]
theorem ziT (u : Nat) (h : 16 ≤ u) : hexD u = hexD (u / 16) ++ [dgt (u % 16)] := by rw [hexD, dif_neg (by omega)]
def ybP (u : Nat) (w : World) (e : Ending) (w' : World) : Prop := e = .returned (.tuple #[.slice none 0 0, .string ⟨(hexD u).toArray⟩]) ∧ Below w.heap.size w w'
def z5F (u : Nat) (w : World) (e : Ending) (w' : World) : Prop := e = .returned (.string ⟨(hexD u).toArray⟩) ∧ Below w.heap.size w w'
theorem z8Z (u : Nat) (hu64 : u < 18446744073709551616) (w : World) (htab : BruTab w) :
  Calls Tryz.prog 168 #[.slice none 0 0, .int .u64 u, .int .i64 16, .bool false, .bool false] w (ybP u w) := by
 have HT := Lib.hid htab
 clear htab
 have hal : Tryz.prog.arrayLen 211 = 65 := by simp [Program.arrayLen, Tryz.underlying211]
 have HAL := Lib.hid hal
 clear hal
 go_enter Tryz.func168, Tryz.ntmps168
 go_wp2_with (first
  | (go_at_call 185; refine (ycN _).mono ?_; rintro e w' ⟨rfl, rfl⟩)
  | (go_at_call 186; refine (tz_16 _ (tabIs_alloc HT.out _)).mono ?_; rintro e w' ⟨rfl, rfl⟩))
 go_loopw [1, 13] (fun x i wr => ∃ (v n : Nat) (T : List UInt8), x = .int .u64 v ∧ i = .int .i64 n ∧ v ≤ u ∧ Hid (n + T.length = 65) ∧ zeY w.heap.size n T wr ∧ Hid (v < 2 ^ (64 - T.length)) ∧ Hid ((v : Int) * (16 : Nat) ^ T.length + valP (16 : Nat) T = u) ∧ Hid (T.length ≤ 64) ∧ Hid (hexD v ++ T = hexD u) ∧ Below w.heap.size w wr) (fun x _ _ => (RowKit.intOf x).toNat)
 case atStart => exact ⟨u, 65, [], rfl, rfl, Nat.le_refl _, rfl, zqH w, hu64, (by show (u : Int) * _ ^ 0 + 0 = u; simp), (by show (0 : Nat) ≤ 64; omega), (by show hexD u ++ [] = hexD u; simp), (Below.refl _ w).alloc (Nat.le_refl _) _⟩
 case round =>
  obtain ⟨v, n, T, rfl, rfl, hvu, HN, hr, HP, HV, HK, HD, hbw⟩ := hrel
  have hTR := Lib.hid hr
  clear hr
  by_cases hv : 16 ≤ v
  ·have hl := z5I v T.length HP.out (by omega)
   obtain ⟨i, rfl⟩ : ∃ i, n = i + 1 := ⟨n - 1, by have := HN.out; omega⟩
   have hi : i < 65 := by have := HN.out; omega
   obtain ⟨d, hd⟩ : ∃ d, v % 16 = d := ⟨_, rfl⟩
   have hdb : d < 16 := by omega
   have hand : bits .and .u64 (v : Int) 15 = (d : Int) := by
    have := bits_mask .u64 64 (by decide) (fun n h0 h1 => by rw [IntKind.wrap_u64]; omega) 4 (by decide) (v : Int) (by omega) (by omega)
    rw [show (2 : Int) ^ 4 - 1 = 15 from by decide] at this
    rw [this]
    omega
   obtain ⟨c0, hcell⟩ := hTR.out.cell i hi
   have hfr := hTR.out.frozen i
   have hix := fun W => dig36 W d (by omega)
   have HTR2 := Lib.hid (hTR.out.put (dgt d))
   have HP2 := Lib.hid (z8O v T.length 16 HP.out hl (by decide))
   have HV2 := Lib.hid (z3E 16 v T u (by omega) HV.out)
   rw [hd] at HV2
   have HD2 : Hid (hexD (v / 16) ++ (dgt d :: T) = hexD u) := by
    show hexD (v / 16) ++ (dgt d :: T) = hexD u
    rw [← HD.out, ziT v hv, hd, List.append_assoc]; rfl
   have hbw2 := hbw.setCell (p := ⟨w.heap.size, i, none⟩) (Nat.le_refl _) (.int .u8 ((dgt d).toNat : Int))
   have HDD := Lib.hid hd
   clear hd
   go_wp2
   go_roundw
   case rel => exact ⟨v / 16, i, dgt d :: T, (by first | rfl | go_num | exact congrArg (Value.int .u64) (by omega)), (by first | rfl | go_num), by omega, (by have := HN.out; show i + (T.length + 1) = 65; omega), HTR2.out, HP2, HV2, (by show T.length + 1 ≤ 64; omega), HD2, hbw2⟩
   case measure => simp [RowKit.intOf]; omega
  ·have hlen : T.length ≤ 64 := HK.out
   obtain ⟨i, rfl⟩ : ∃ i, n = i + 1 := ⟨n - 1, by have := HN.out; omega⟩
   have hi : i < 65 := by have := HN.out; omega
   obtain ⟨c0, hcell⟩ := hTR.out.cell i hi
   have hfr := hTR.out.frozen i
   have hix := fun W => dig36 W v (by omega)
   have htr2 := hTR.out.put (dgt v)
   have HNUM : Hid (dgt v :: T = hexD u) := by
    show dgt v :: T = hexD u
    rw [← HD.out, zfZ v (by omega)]; rfl
   have hbw2 := hbw.setCell (p := ⟨w.heap.size, i, none⟩) (Nat.le_refl _) (.int .u8 ((dgt v).toNat : Int))
   have hcv := htr2.conv
   have hsl : ∀ W, (Instr.sliceAt 211 (.pointer (some ⟨w.heap.size, 0, none⟩)) (some (.int .i64 (i : Int))) none none).run Tryz.prog W = .ok (.slice (some ⟨w.heap.size, i, none⟩) (65 - i) (65 - i)) W := fun W => by
    rw [run_sliceAt_array_l W 211 ⟨w.heap.size, 0, none⟩ (by simp [Program.arrayLen, Program.elem, Tryz.underlying211]) .i64 (i : Int) (by omega) (by rw [HAL.out]; omega), HAL.out]
    go_simp
    omega
   clear htr2
   go_wp2
   go_ret2
   exact ⟨congrArg (fun l : List UInt8 => Ending.returned (.tuple #[.slice none 0 0, .string ⟨l.toArray⟩])) HNUM.out, hbw2⟩
theorem z1P (u : Nat) (hu64 : u < 18446744073709551616) (w : World) (htab : BruTab w) :
  Calls Tryz.prog 146 #[.int .u64 u, .int .i64 16] w (z5F u w) := by
 have HT := Lib.hid htab
 clear htab
 go_enter Tryz.func146, Tryz.ntmps146
 go_wp2_with fail
 refine (z8Z u hu64 _ HT.out).mono ?_
 rintro e w1 ⟨rfl, hb⟩
 go_wp2
 go_ret
 exact ⟨rfl, hb⟩
theorem zzZ (u : Nat) (hu64 : u < 18446744073709551616) (w : World) (htab : BruTab w) :
  Calls Tryz.prog 116 #[.int .u64 u, .int .i64 16] w (z5F u w) := by
 have HT := Lib.hid htab
 clear htab
 go_enter Tryz.func116, Tryz.ntmps116
 go_wp2_with fail
 refine (z1P u hu64 _ HT.out).mono ?_
 rintro e w1 ⟨rfl, hb⟩
 go_wp2
 go_ret
 exact ⟨rfl, hb⟩
end
section
open Go.RowKit
def zeA (l : List UInt8) : Int × Bool := if l.length < 1 ∨ 4 < l.length then (0, false) else if zbL 16 l then (valP 16 l, true) else (0, false)
def zcU (l : List UInt8) : List (List UInt8) := splitB (hasB [58]) l
/-- the pieces of a row's parts, behind those that are there -/
def rowP (last : Bool) : List Int → List (List UInt8) → List Int × Bool
 | acc, [] => (acc, true)
 | acc, p :: r => if last = true ∧ r = [] ∧ (zaO p).2 = true then (acc ++ [(zaO p).1 / 65536, (zaO p).1 % 65536], true)
  else if (zeA p).2 = true then rowP last (acc ++ [(zeA p).1]) r else ([], false)
def rowZ (l : List UInt8) (last : Bool) : List Int × Bool := if l = [] then ([], true) else rowP last [] (zcU l)
/-- where two zcU stand first -/
def ccAt : List UInt8 → Option Nat
 | [] => none
 | a :: r => if a = 58 ∧ r.head? = some 58 then some 0 else (ccAt r).map (· + 1)
def sixL (l : List UInt8) : List Int × Bool :=
 match ccAt l with
 | none => if (rowZ l true).2 = true ∧ (rowZ l true).1.length = 8 then ((rowZ l true).1, true) else ([], false)
 | some k => if (rowZ (l.take k) false).2 = true ∧ (rowZ (l.drop (k + 2)) true).2 = true ∧ (rowZ (l.take k) false).1.length + (rowZ (l.drop (k + 2)) true).1.length ≤ 7 then
   ((rowZ (l.take k) false).1 ++ List.replicate (8 - ((rowZ (l.take k) false).1.length + (rowZ (l.drop (k + 2)) true).1.length)) 0 ++ (rowZ (l.drop (k + 2)) true).1, true)
  else ([], false)
def hi4 (l : List Int) : Int := ((l.getD 0 0 * 65536 + l.getD 1 0) * 65536 + l.getD 2 0) * 65536 + l.getD 3 0
def lo4 (l : List Int) : Int := ((l.getD 4 0 * 65536 + l.getD 5 0) * 65536 + l.getD 6 0) * 65536 + l.getD 7 0
def sixZ (l : List UInt8) : (Int × Int) × Bool := ((hi4 (sixL l).1, lo4 (sixL l).1), (sixL l).2)
theorem z2G (L : List UInt8) (hd : zbL 16 L = true) : valP 16 L < 16 ^ L.length := by
 induction L with
 | nil => decide
 | cons c L ih =>
  have h2 : digC 16 c = true ∧ zbL 16 L = true := by simpa [zbL] using hd
  have h3 := of_decide_eq_true h2.1
  have h4 := ih h2.2
  rw [zsE, List.length_cons, Int.pow_succ]
  have hp : (0 : Int) ≤ 16 ^ L.length := Int.pow_nonneg (by decide)
  have hm : valZ (c.toNat : Int) * 16 ^ L.length ≤ 15 * 16 ^ L.length := Int.mul_le_mul_of_nonneg_right (by omega) hp
  omega
theorem z1F (L : List UInt8) (hd : zbL 16 L = true) (h : L.length ≤ 3) : 0 ≤ valP 16 L ∧ valP 16 L ≤ 4095 := by
 refine ⟨zmO 16 (by decide) L hd, ?_⟩
 have h1 := z2G L hd
 rcases (show L.length = 0 ∨ L.length = 1 ∨ L.length = 2 ∨ L.length = 3 from by omega) with e | e | e | e <;> rw [e] at h1 <;> omega
theorem z2Q (L : List UInt8) (hd : zbL 16 L = true) (h : L.length ≤ 4) : 0 ≤ valP 16 L ∧ valP 16 L ≤ 65535 := by
 refine ⟨zmO 16 (by decide) L hd, ?_⟩
 have h1 := z2G L hd
 rcases (show L.length = 0 ∨ L.length = 1 ∨ L.length = 2 ∨ L.length = 3 ∨ L.length = 4 from by omega) with e | e | e | e | e <;> rw [e] at h1 <;> omega
theorem z6T (b : Int) (s : ByteArray) (k : Nat) (h : k < s.size) : valP b (s.data.toList.take (k + 1)) = valP b (s.data.toList.take k) * b + valZ (s[k].toNat : Int) := by
 rw [zeC s k h]; simp [valP]
theorem zjA (l : List UInt8) : 0 ≤ (zeA l).1 ∧ (zeA l).1 ≤ 65535 := by
 unfold zeA
 split
 ·exact ⟨Int.le_refl _, by show (0 : Int) ≤ _; omega⟩
 ·split
  ·exact z2Q l (by assumption) (by omega)
  ·exact ⟨Int.le_refl _, by show (0 : Int) ≤ _; omega⟩
theorem z0S {l : List UInt8} (h : l.length < 1 ∨ 4 < l.length) : zeA l = (0, false) := by unfold zeA; rw [if_pos h]
theorem z4K {l : List UInt8} (h : zbL 16 l = false) : zeA l = (0, false) := by
 unfold zeA; split
 ·rfl
 ·rw [h]; rfl
theorem zoO {l : List UInt8} (h : ¬ (l.length < 1 ∨ 4 < l.length)) (hd : zbL 16 l = true) : zeA l = (valP 16 l, true) := by
 unfold zeA; rw [if_neg h, hd]; rfl
theorem zfU (l : List UInt8) : 0 ≤ (zaO l).1 ∧ (zaO l).1 ≤ 4294967295 := by
 obtain ⟨⟨x, b⟩, hx⟩ : ∃ x, zaO l = x := ⟨_, rfl⟩
 rw [hx]
 cases b with
 | true => have h := zxG l x hx; exact ⟨h.1, h.2.1⟩
 | false => have h := zrZ l x hx; subst h; exact ⟨Int.le_refl _, by show (0 : Int) ≤ _; omega⟩
theorem z8M (last : Bool) (acc : List Int) : rowP last acc [] = (acc, true) := rfl
theorem z4R {last : Bool} {acc : List Int} {p : List UInt8} {r : List (List UInt8)} {x : Int} (h1 : last = true) (h2 : r = []) (h3 : zaO p = (x, true)) : rowP last acc (p :: r) = (acc ++ [x / 65536, x % 65536], true) := by
 unfold rowP; rw [if_pos ⟨h1, h2, by rw [h3]⟩, h3]
theorem zrC {last : Bool} {acc : List Int} {p : List UInt8} {r : List (List UInt8)} {x : Int} (h : ¬ (last = true ∧ r = [] ∧ (zaO p).2 = true)) (h3 : zeA p = (x, false)) : rowP last acc (p :: r) = ([], false) := by
 unfold rowP; rw [if_neg h, h3]; rfl
theorem zjH {last : Bool} {acc : List Int} {p : List UInt8} {r : List (List UInt8)} {x : Int} (h : ¬ (last = true ∧ r = [] ∧ (zaO p).2 = true)) (h3 : zeA p = (x, true)) : rowP last acc (p :: r) = rowP last (acc ++ [x]) r := by
 rw [rowP, if_neg h, h3]; rfl
def In16 (l : List Int) : Prop := ∀ x ∈ l, 0 ≤ x ∧ x ≤ 65535
theorem In16.nil : In16 [] := fun _ h => by cases h
theorem In16.append {a b : List Int} (ha : In16 a) (hb : In16 b) : In16 (a ++ b) := fun x hx => (List.mem_append.1 hx).elim (ha x) (hb x)
theorem In16.zeros (n : Nat) : In16 (List.replicate n 0) := fun x hx => by rw [(List.mem_replicate.1 hx).2]; exact ⟨by decide, by decide⟩
theorem In16.getD {l : List Int} (h : In16 l) (k : Nat) : 0 ≤ l.getD k 0 ∧ l.getD k 0 ≤ 65535 := by
 rw [List.getD_eq_getElem?_getD]
 cases e : l[k]? with
 | none => exact ⟨Int.le_refl _, by show (0 : Int) ≤ _; omega⟩
 | some x => exact h x (List.mem_of_getElem? e)
theorem yaV (last : Bool) (ps : List (List UInt8)) : ∀ acc, In16 acc → In16 (rowP last acc ps).1 := by
 induction ps with
 | nil => intro acc h; exact h
 | cons p r ih =>
  intro acc h
  unfold rowP
  split
  ·have hb := zfU p
   refine h.append fun x hx => ?_
   simp only [List.mem_cons, List.not_mem_nil, or_false] at hx
   rcases hx with rfl | rfl <;> omega
  ·split
   ·refine ih _ (h.append fun x hx => ?_)
    simp only [List.mem_cons, List.not_mem_nil, or_false] at hx
    subst hx
    exact zjA p
   ·exact In16.nil
theorem zkC (l : List UInt8) (last : Bool) : In16 (rowZ l last).1 := by
 unfold rowZ
 split
 ·exact In16.nil
 ·exact yaV _ _ _ In16.nil
theorem z9O (last : Bool) (ps : List (List UInt8)) : ∀ acc, (rowP last acc ps).1.length ≤ acc.length + ps.length + 1 := by
 induction ps with
 | nil => intro acc; simp [rowP]
 | cons p r ih =>
  intro acc
  unfold rowP
  split
  ·simp only [List.length_append, List.length_cons, List.length_nil]; omega
  ·split
   ·have := ih (acc ++ [(zeA p).1])
    simp only [List.length_append, List.length_cons, List.length_nil] at this ⊢
    omega
   ·simp
theorem z5C (l : List UInt8) : In16 (sixL l).1 := by
 unfold sixL
 split
 ·split
  ·exact zkC _ _
  ·exact In16.nil
 ·split
  ·exact ((zkC _ _).append (In16.zeros _)).append (zkC _ _)
  ·exact In16.nil
theorem z0E {l : List Int} (h : In16 l) : 0 ≤ hi4 l ∧ hi4 l ≤ 18446744073709551615 := by
 have h0 := h.getD 0
 have h1 := h.getD 1
 have h2 := h.getD 2
 have h3 := h.getD 3
 unfold hi4
 omega
theorem z1K {l : List Int} (h : In16 l) : 0 ≤ lo4 l ∧ lo4 l ≤ 18446744073709551615 := by
 have h0 := h.getD 4
 have h1 := h.getD 5
 have h2 := h.getD 6
 have h3 := h.getD 7
 unfold lo4
 omega
theorem zxU (l : List UInt8) : Lib.index l [58, 58] = match ccAt l with | some k => (k : Int) | none => -1 := by
 induction l with
 | nil => rfl
 | cons a r ih =>
  have hp : ([58, 58] : List UInt8).isPrefixOf (a :: r) = decide (a = 58 ∧ r.head? = some 58) := by
   rw [Bool.eq_iff_iff, decide_eq_true_iff]
   cases r with
   | nil => simp [List.isPrefixOf]
   | cons b r =>
    rw [List.isPrefixOf, List.isPrefixOf, List.isPrefixOf, Bool.and_true, Bool.and_eq_true, beq_iff_eq, beq_iff_eq, List.head?_cons, Option.some.injEq]
    exact ⟨fun h => ⟨h.1.symm, h.2.symm⟩, fun h => ⟨h.1.symm, h.2.symm⟩⟩
  unfold Lib.index ccAt
  rw [hp]
  by_cases hc : a = 58 ∧ r.head? = some 58
  ·rw [if_pos (by simpa using hc), if_pos hc]; rfl
  ·rw [if_neg (by simpa using hc), if_neg hc, ih]
   cases ccAt r with
   | none => rfl
   | some k =>
    have : ((k : Int) == -1) = false := by rw [beq_eq_false_iff_ne]; omega
    simp [this]
theorem z6W {l : List UInt8} (h : ccAt l = none) : Lib.cut l [58, 58] = (l, [], false) := by
 unfold Lib.cut
 rw [zxU, h]
 rfl
theorem z9M {l : List UInt8} {k : Nat} (h : ccAt l = some k) : Lib.cut l [58, 58] = (l.take k, l.drop (k + 2), true) := by
 unfold Lib.cut
 rw [zxU, h]
 show (if (0 : Int) ≤ (k : Int) then _ else _) = _
 rw [if_pos (by omega)]
 rfl
end
section
open Go.RowKit
theorem z8L (x y : Int) (hx0 : 0 ≤ x) (hx : x ≤ 4095) (hy0 : 0 ≤ y) (hy : y < 16) : bits .or .u16 (x * 16) y = x * 16 + y :=
 bits_join .u16 16 (by decide) (fun n h0 h1 => by rw [IntKind.wrap_u16]; omega) 4 (x * 16) y (by omega) (by omega) (by omega) hy0 (by omega) (by omega)
def zyJ (w : World) (x : Int × Bool) (e : Ending) (w' : World) : Prop := e = .returned (.tuple #[.int .u16 x.1, .bool x.2]) ∧ Below w.heap.size w w'
theorem zfF {w w' : World} {x : Int × Bool} {n : Int} {b : Bool} (h : x = (n, b)) (hb : Below w.heap.size w w') : zyJ w x (.returned (.tuple #[.int .u16 n, .bool b])) w' := by
 subst h; exact ⟨rfl, hb⟩
theorem zcL (s : ByteArray) (w : World) (hs : s.size ≤ 1073741824) :
  Calls Tryz.prog 143 #[.string s] w (zyJ w (zeA s.data.toList)) := by
 by_cases hn : s.size = 0
 ·obtain rfl := zdE s hn
  clear hn hs
  have HF : Hid (zeA (ByteArray.mk #[]).data.toList = (0, false)) := rfl
  go_enter Tryz.func143, Tryz.ntmps143
  go_wp2
  go_ret2
  exact zfF HF.out (Below.refl _ _)
 ·have hse := zeF s hn
  by_cases h4 : 4 < s.size
  ·have HF := Lib.hid (z0S (l := s.data.toList) (.inr (by rw [zaJ]; exact h4)))
   clear hn
   go_enter Tryz.func143, Tryz.ntmps143
   go_wp2
   go_ret2
   exact zfF HF.out (Below.refl _ _)
  ·have HNO := Lib.hid (z4K (l := s.data.toList))
   have HYES := Lib.hid (zoO (l := s.data.toList) (by rw [zaJ]; omega))
   clear hn
   go_enter Tryz.func143, Tryz.ntmps143
   go_wp2
   go_loopw [4] (fun n wr => ∃ (k : Nat) (A : Int), n = .int .u16 A ∧ k ≤ s.size ∧ wr.heap[w.heap.size]? = some (.stringIter s k) ∧ Below w.heap.size w wr ∧ w.heap.size + 1 ≤ wr.heap.size ∧ Hid (A = valP 16 (s.data.toList.take k)) ∧ Hid (zbL 16 (s.data.toList.take k) = true)) (fun _ wr => s.size - wr.iterPos w.heap.size)
   case atStart => exact ⟨0, 0, rfl, Nat.zero_le _, World.iter_heap w s 0, (Below.refl _ w).alloc (Nat.le_refl _) _, by simp [World.iter], rfl, rfl⟩
   case round =>
    obtain ⟨k, A, rfl, hk, hit, hbw, hsz, HA, HDG⟩ := hrel
    by_cases hp : k < s.size
    ·obtain ⟨c, hc⟩ : ∃ c, (s[k]'hp).toNat = c := ⟨_, rfl⟩
     have hnx : ∀ ty, (Instr.next (.pointer (some ⟨w.heap.size, 0, none⟩)) true ty).run Tryz.prog wr = _ := fun ty => Lib.run_next_any_at wr w.heap.size s k ty hit hp
     have hAb := z1F _ HDG.out (by rw [List.length_take]; omega)
     rw [← HA.out] at hAb
     obtain ⟨hA0, hA1⟩ := hAb
     by_cases hc128 : c < 128
     ·have hdec := decode_ascii s k hp (by omega)
      rw [hc] at hdec
      rw [hdec] at hnx
      have hit2 := Lib.iterAt_heap wr w.heap.size s k (k + 1) hit
      have hbw2 := Lib.below_iterAt hbw (k := w.heap.size) (Nat.le_refl _) s (k + 1)
      have hsz2 : w.heap.size + 1 ≤ (wr.iterAt w.heap.size s (k + 1)).heap.size := by rw [Lib.iterAt_size]; exact hsz
      simp only at hnx
      generalize wr.iterAt w.heap.size s (k + 1) = wi at *
      obtain ⟨v, hv⟩ : ∃ v, valZ (c : Int) = v := ⟨_, rfl⟩
      have hv16 : v < 16 := by rw [← hv]; exact zyI _
      have HV : Hid (valZ (s[k].toNat : Int) = v) := by show valZ (s[k].toNat : Int) = v; rw [hc]; exact hv
      have HIT := Lib.hid hit
      have HC := Lib.hid hc
      clear hit hc hdec
      by_cases h0 : v < 0
      ·have HF := Lib.hid (HNO.out (zdZ 16 s k hp (zeB HV.out (.inl h0))))
       go_wp2_with (go_at_call 109; refine (zcQ _ _).mono ?_; rintro e w' ⟨rfl, rfl⟩)
       go_ret2
       exact zfF HF.out hbw2
      ·have HF := Lib.hid (ziZ 16 s k hp HDG.out (ziX HV.out (by omega) (by omega)))
       have hsn := z6T 16 s k hp
       rw [← HA.out, HV.out] at hsn
       have HSN := Lib.hid hsn
       clear hsn
       have hor := z8L A v hA0 hA1 (by omega) hv16
       go_wp2_with (go_at_call 109; refine (zcQ _ _).mono ?_; rintro e w' ⟨rfl, rfl⟩)
       go_roundw
       case rel => exact ⟨k + 1, _, rfl, by omega, hit2, hbw2, hsz2, HSN.out.symm, HF⟩
       case measure =>
        simp only [World.iterPos, hit2, HIT.out]
        omega
     ·have hh := decode_high s k hp (by omega)
      obtain ⟨r, hr⟩ : ∃ r, (Utf8.decode s k).1 = r := ⟨_, rfl⟩
      obtain ⟨wd, hwd⟩ : ∃ r, (Utf8.decode s k).2 = r := ⟨_, rfl⟩
      have hrl := decode_le s k
      rw [hr, hwd] at hnx
      rw [hr, hwd] at hh
      rw [hr] at hrl
      have hbw2 := Lib.below_iterAt hbw (k := w.heap.size) (Nat.le_refl _) s (k + wd)
      generalize wr.iterAt w.heap.size s (k + wd) = wi at *
      have hv : valZ (r : Int) = -1 := zjL _ (by omega)
      have HF := Lib.hid (HNO.out (zdZ 16 s k hp (zeB (zjL _ (by omega)) (.inl (by omega)))))
      clear hc hr hwd
      go_wp2_with (go_at_call 109; refine (zcQ _ _).mono ?_; rintro e w' ⟨rfl, rfl⟩)
      go_ret2
      exact zfF HF.out hbw2
    ·have hnx : ∀ ty, (Instr.next (.pointer (some ⟨w.heap.size, 0, none⟩)) true ty).run Tryz.prog wr = _ := fun ty => Lib.run_next_end_at wr w.heap.size s k ty hit hp
     have hdt := HDG.out
     rw [zdH s k hp] at hdt
     have hat := HA.out
     rw [zdH s k hp] at hat
     have HF := Lib.hid (HYES.out hdt)
     have HAT := Lib.hid hat
     clear hdt hat
     go_wp2
     go_ret2
     exact zfF (by rw [HF.out, HAT.out]) hbw
end
section
open Go.RowKit
theorem Tryz.infoU16 : (Tryz.prog.info? 111).map (fun i => (i.zero, i.size, i.bytes)) = some (some (.int .u16 0), 1, 2) := by kernel_rfl
theorem Tryz.infoInt : (Tryz.prog.info? 3).map (fun i => (i.zero, i.size, i.bytes)) = some (some (.int .i64 0), 1, 8) := by kernel_rfl
theorem yaP (w : World) (u1 u2 : Value) (t : TypeId) : ∀ j x, [u1, u2][j]? = some x → (w.alloc (.cells #[u1, u2] t)).cell? ((⟨w.heap.size, 0, none⟩ : Addr).add j) = some x := by
 intro j x hj
 match j, hj with
 | 0, hj => simp at hj; subst hj; simp [Addr.add]
 | 1, hj => simp at hj; subst hj; simp [Addr.add]
/-- append of two values, which the call has laid in a new block of two cells, onto a row of the call's own -/
theorem zeR {P : Program} (w : World) {ops : Array Oper} {rest : List Oper} {o : Oper} {a : Act} {Q : Exit → Act → World → Prop} (hgd : o.guard = none) (s x : Operand) (t : TypeId)
  (ho : o.op = .call { callee := .builtin .append, args := #[s, x], argTypes := #[t, t] })
  (base : Nat) (e : TypeId) (i : TypeInfo) (z : Value) (bytes : Nat) (ht : P.underlying t = some (.slice e)) (hi : P.info? e = some i) (hz : i.zero = some z)
  (hsize : i.size = 1) (hby : i.bytes = bytes) (hzs : z.cells.size = 1)
  (v : Value) (n : Nat) (xs : List Value) (hs : a.eval s = v) (hown : w.ownsRow base e 1 v n xs) (u1 u2 : Value) (hx : a.eval x = .slice (some ⟨w.heap.size, 0, none⟩) 2 2) (hu1 : u1.oneCell' = true) (hu2 : u2.oneCell' = true)
  (h63 : n + 2 ≤ maxLen) (hbytes : (n + 2) * bytes ≤ 140737488355328) (hbase : base ≤ w.heap.size)
  (h : ∀ v' w', w'.ownsRow base e 1 v' (n + 2) (xs ++ [u1, u2]) → Below base w w' → wpList P ops Q rest (a.put o.dst v') w') : wpList P ops Q (o :: rest) a (w.alloc (.cells #[u1, u2] e)) := by
 refine wpList_append_own (w.alloc (.cells #[u1, u2] e)) hgd s x t ho base e i z 1 bytes ht hi hz hsize hby hzs (by decide) v n xs hs (hown.alloc _) ⟨w.heap.size, 0, none⟩ 2 2 [u1, u2] hx rfl (yaP w u1 u2 e) ?_ h63 hbytes (by simp; omega) ?_
 ·intro y hy; simp at hy; rcases hy with rfl | rfl <;> assumption
 ·intro v' w1 hown' hgrow _
  exact h v' w1 hown' (((Below.refl base w).alloc hbase _).grown hgrow (by simp; omega) (fun k hk => (hown.lt k hk).1))
/-- the slice v is a row of numbers of the kind k -/
def Nums (t : TypeId) (k : IntKind) (B : Nat) (w : World) (v : Value) (l : List Int) : Prop := w.ownsRow B t 1 v l.length (l.map (Value.int k))
theorem Nums.nil (t : TypeId) (k : IntKind) (B : Nat) (w : World) : Nums t k B w (.slice none 0 0) [] := World.ownsRow_nil _ _ _ _
theorem Nums.below {t : TypeId} {k : IntKind} {B : Nat} {w w' : World} {v : Value} {l : List Int} (h : Nums t k B w v l) (hb : Below w.heap.size w w') : Nums t k B w' v l := zdW h hb
theorem Nums.mono {t : TypeId} {k : IntKind} {B B' : Nat} {w : World} {v : Value} {l : List Int} (h : Nums t k B w v l) (hb : B' ≤ B) : Nums t k B' w v l := World.ownsRow.mono h hb
theorem Nums.snoc {t : TypeId} {k : IntKind} {B : Nat} {w : World} {v : Value} {l : List Int} {x : Int} (h : w.ownsRow B t 1 v (l.length + 1) (l.map (Value.int k) ++ [.int k x])) : Nums t k B w v (l ++ [x]) := by
 unfold Nums; rw [List.length_append, List.map_append]; exact h
theorem Nums.snoc2 {t : TypeId} {k : IntKind} {B : Nat} {w : World} {v : Value} {l : List Int} {x y : Int} (h : w.ownsRow B t 1 v (l.length + 2) (l.map (Value.int k) ++ [.int k x, .int k y])) : Nums t k B w v (l ++ [x, y]) := by
 unfold Nums; rw [List.length_append, List.map_append]; exact h
theorem Nums.row {t : TypeId} {k : IntKind} {B : Nat} {w : World} {v : Value} {l : List Int} (h : Nums t k B w v l) : RowR w v (l.map (Value.int k)) := by
 refine RowR.of_own (base := B) (e := t) ?_
 rw [List.length_map]; exact h
def z2R (t : TypeId) (k : IntKind) (w : World) (x : List Int × Bool) (e : Ending) (w' : World) : Prop := ∃ v, e = .returned (.tuple #[v, .bool x.2]) ∧ Nums t k w.heap.size w' v x.1 ∧ Below w.heap.size w w'
theorem zeD {t : TypeId} {k : IntKind} {w w' : World} {x : List Int × Bool} {v : Value} {l : List Int} {b : Bool} (h : x = (l, b)) (hn : Nums t k w.heap.size w' v l) (hb : Below w.heap.size w w') : z2R t k w x (.returned (.tuple #[v, .bool b])) w' := by
 subst h; exact ⟨v, rfl, hn, hb⟩
theorem ycL {l : List UInt8} {last : Bool} (h : l ≠ []) : rowZ l last = rowP last [] ((zcU l).drop 0) := by unfold rowZ; rw [if_neg h]; rfl
theorem z0M (k : Nat) (ps : List (List UInt8)) (h : k < ps.length) : ps.drop k = ps.getD k [] :: ps.drop (k + 1) := by
 rw [List.drop_eq_getElem_cons h, List.getD, List.getElem?_eq_getElem h]; rfl
theorem ztG (k : Nat) (ps : List (List UInt8)) (h : ps.length ≤ k) : ps.drop k = [] := List.drop_eq_nil_of_le h
theorem zzD (k : Nat) (ps : List (List UInt8)) (h : k < ps.length) : ps.drop k ≠ [] := by intro e; have := congrArg List.length e; simp at this; omega
theorem ziJ (s : ByteArray) (last : Bool) (w : World) (hs : s.size ≤ 1073741824) :
  Calls Tryz.prog 108 #[.string s, .bool last] w (z2R 111 .u16 w (rowZ s.data.toList last)) := by
 by_cases hn : s.size = 0
 ·obtain rfl := zdE s hn
  clear hn hs
  have HF : Hid (rowZ (ByteArray.mk #[]).data.toList last = ([], true)) := rfl
  go_enter Tryz.func108, Tryz.ntmps108
  go_wp2
  go_ret2
  exact zeD HF.out (Nums.nil _ _ _ _) (Below.refl _ _)
 ·have hse := zeF s hn
  obtain ⟨i0, hi, hz0, hz1, hz2⟩ := info_parts Tryz.infoU16
  have HZ := Lib.hid (ycL (last := last) (zdF s hn))
  clear hn
  obtain ⟨m, hm⟩ : ∃ m, (zcU s.data.toList).length = m := ⟨_, rfl⟩
  have h0 : 0 < (zcU s.data.toList).length := zhT _ _
  rw [hm] at h0
  have hmb : m ≤ 1073741825 := by
   have h1 := zcR (hasB [58]) s.data.toList
   rw [zaJ] at h1
   have h2 := hm
   unfold zcU at h2
   omega
  have HM := Lib.hid hm
  clear hm
  go_enter Tryz.func108, Tryz.ntmps108
  go_wp2_with fail
  refine (zcX s _ _ hs).mono ?_
  rintro e w1 ⟨v, rfl, hp, hb1⟩
  have hp' : zbZ w.heap.size w1 v (zcU s.data.toList) := hp
  obtain ⟨g, cap, rfl, hcap, hg, hcell⟩ := hp'.form2 (by rw [HM.out]; exact h0)
  rw [HM.out] at hcap hcell ⊢
  have HCELL := Lib.hid hcell
  clear hp hp' hcell
  have HCAP := Lib.hid hcap
  go_wp2
  go_loopw [7, 20] (fun v i wr => ∃ (k : Nat) (T : List Int), k ≤ m ∧ i = .int .i64 k ∧ wr.ownsRow w1.heap.size 111 1 v k (T.map (Value.int .u16)) ∧ Hid (T.length = k) ∧ Hid (rowP last T ((zcU s.data.toList).drop k) = rowZ s.data.toList last) ∧ Below w1.heap.size w1 wr) (fun _ i _ => m - (intOf i).toNat)
  case atStart => exact ⟨0, [], by omega, rfl, World.ownsRow_nil _ _ _ _, rfl, HZ.out.symm, Below.refl _ _⟩
  case round =>
   obtain ⟨k, T, hk, rfl, hown, HTL, HG, hbw⟩ := hrel
   by_cases hkm : k < m
   ·obtain ⟨p, hpk⟩ : ∃ p, (zcU s.data.toList).getD k [] = p := ⟨_, rfl⟩
    have hcx := HCELL.out k hkm
    rw [hpk] at hcx
    have hcx2 : wr.cell? ⟨g, k, none⟩ = some (.string ⟨p.toArray⟩) := (hbw.cell (p := ⟨g, k, none⟩) hg).trans hcx
    have hpl : p.length ≤ s.size := by rw [← hpk, ← zaJ]; exact zbY _ _ _
    have hdr := z0M k (zcU s.data.toList) (by rw [HM.out]; exact hkm)
    rw [hpk] at hdr
    have HDR := Lib.hid hdr
    have HG1 : Hid (rowP last T (p :: (zcU s.data.toList).drop (k + 1)) = rowZ s.data.toList last) := by
     show rowP last T (p :: (zcU s.data.toList).drop (k + 1)) = rowZ s.data.toList last
     rw [← HDR.out]; exact HG.out
    clear hdr hcx HDR
    have HP := Lib.hid hpk
    clear hpk
    obtain ⟨x, b, hpz⟩ : ∃ x b, zeA p = (x, b) := ⟨_, _, rfl⟩
    have hx : 0 ≤ x ∧ x ≤ 65535 := by have h9 := zjA p; rw [hpz] at h9; exact h9
    obtain ⟨hx0, hx1⟩ := hx
    have HPZ := Lib.hid hpz
    clear hpz
    obtain ⟨y, b4, hsz4⟩ : ∃ x b, zaO p = (x, b) := ⟨_, _, rfl⟩
    have hy : 0 ≤ y ∧ y ≤ 4294967295 := by have h9 := zfU p; rw [hsz4] at h9; exact h9
    obtain ⟨hy0, hy1⟩ := hy
    have HS4 := Lib.hid hsz4
    clear hsz4
    by_cases hlast : k + 1 = m
    ·have hq1 : ((k : Int) == (m : Int) - 1) = true := by rw [beq_iff_eq]; omega
     have HLAST := Lib.hid (ztG (k + 1) (zcU s.data.toList) (by rw [HM.out]; omega))
     have hlo : m - 1 ≤ k := by omega
     clear hlast
     cases last with
     | true =>
      cases b4 with
      | true =>
       have HF := Lib.hid (HG1.out.symm.trans (z4R rfl HLAST.out HS4.out))
       go_wp2_with fail
       refine (zgD ⟨p.toArray⟩ _ (by rw [zaD]; omega)).mono ?_
       rw [zaG, HS4.out]
       rintro e w2 ⟨rfl, hb2⟩
       have hc2 : Below w1.heap.size w1 w2 := hbw.trans (hb2.mono hbw.size)
       have hown2 := zdW hown hb2
       have hsz2 := hc2.size
       clear hb2 hown
       go_wp2_with (at_builtin; refine zeR _ rfl _ _ 117 rfl w1.heap.size 111 i0 (.int .u16 0) 2 Tryz.underlying117 hi hz0 hz1 hz2 rfl _ _ _ rfl hown2 (.int .u16 (y / 65536)) (.int .u16 (y % 65536)) rfl rfl rfl (by unfold maxLen; omega) (by omega) hsz2 ?_; intro v' w3 hown' hk')
       go_ret2
       exact zeD HF.out ((Nums.snoc2 (by rw [HTL.out]; exact hown')).mono hb1.size) (hb1.trans ((hc2.trans hk').mono hb1.size))
      | false =>
       have HNOT : Hid (¬ (true = true ∧ (zcU s.data.toList).drop (k + 1) = [] ∧ (zaO p).2 = true)) := by
        show ¬ _
        rintro ⟨h1, h2, h3⟩
        first | exact HNE.out h2 | exact absurd h1 (by decide) | (rw [HS4.out] at h3; exact absurd (show false = true from h3) (by decide))
       cases b with
       | true =>
        have hgo := HG1.out
        rw [zjH HNOT.out HPZ.out] at hgo
        have HG2 := Lib.hid hgo
        clear hgo
        go_wp2_with fail
        refine (zgD ⟨p.toArray⟩ _ (by rw [zaD]; omega)).mono ?_
        rw [zaG, HS4.out]
        rintro e w2 ⟨rfl, hb2⟩
        have hc2 : Below w1.heap.size w1 w2 := hbw.trans (hb2.mono hbw.size)
        have hown2 := zdW hown hb2
        clear hb2 hown
        go_wp2_with fail
        refine (zcL ⟨p.toArray⟩ _ (by rw [zaD]; omega)).mono ?_
        rw [zaG, HPZ.out]
        rintro e w3 ⟨rfl, hb3⟩
        have hc3 : Below w1.heap.size w1 w3 := hc2.trans (hb3.mono hc2.size)
        have hown3 := zdW hown2 hb3
        have hsz3 := hc3.size
        clear hb3 hown2
        go_wp2_with (at_builtin; refine zaU _ rfl _ _ 117 rfl w1.heap.size 111 i0 (.int .u16 0) 2 Tryz.underlying117 hi hz0 hz1 hz2 rfl _ _ _ rfl hown3 (.int .u16 x) rfl rfl (by omega) (by omega) hsz3 ?_; intro v' w4 hown' hk')
        go_roundw
        case rel => exact ⟨k + 1, T ++ [x], by omega, by go_num, (by rw [List.map_append]; exact hown'), (by show (T ++ [x]).length = k + 1; rw [List.length_append, HTL.out]; rfl), HG2, hc3.trans hk'⟩
        case measure => simp [intOf]; omega
       | false =>
        have HF := Lib.hid (HG1.out.symm.trans (zrC HNOT.out HPZ.out))
        go_wp2_with fail
        refine (zgD ⟨p.toArray⟩ _ (by rw [zaD]; omega)).mono ?_
        rw [zaG, HS4.out]
        rintro e w2 ⟨rfl, hb2⟩
        have hc2 : Below w1.heap.size w1 w2 := hbw.trans (hb2.mono hbw.size)
        have hown2 := zdW hown hb2
        clear hb2 hown
        go_wp2_with fail
        refine (zcL ⟨p.toArray⟩ _ (by rw [zaD]; omega)).mono ?_
        rw [zaG, HPZ.out]
        rintro e w3 ⟨rfl, hb3⟩
        have hc3 : Below w1.heap.size w1 w3 := hc2.trans (hb3.mono hc2.size)
        clear hb3
        go_wp2
        go_ret2
        exact zeD HF.out (Nums.nil _ _ _ _) (hb1.trans (hc3.mono hb1.size))
     | false =>
      have HNOT : Hid (¬ (false = true ∧ (zcU s.data.toList).drop (k + 1) = [] ∧ (zaO p).2 = true)) := by
       show ¬ _
       rintro ⟨h1, h2, h3⟩
       first | exact HNE.out h2 | exact absurd h1 (by decide) | (rw [HS4.out] at h3; exact absurd (show false = true from h3) (by decide))
      cases b with
      | true =>
       have hgo := HG1.out
       rw [zjH HNOT.out HPZ.out] at hgo
       have HG2 := Lib.hid hgo
       clear hgo
       go_wp2_with fail
       refine (zcL ⟨p.toArray⟩ _ (by rw [zaD]; omega)).mono ?_
       rw [zaG, HPZ.out]
       rintro e w3 ⟨rfl, hb3⟩
       have hc3 : Below w1.heap.size w1 w3 := hbw.trans (hb3.mono hbw.size)
       have hown3 := zdW hown hb3
       have hsz3 := hc3.size
       clear hb3 hown
       go_wp2_with (at_builtin; refine zaU _ rfl _ _ 117 rfl w1.heap.size 111 i0 (.int .u16 0) 2 Tryz.underlying117 hi hz0 hz1 hz2 rfl _ _ _ rfl hown3 (.int .u16 x) rfl rfl (by omega) (by omega) hsz3 ?_; intro v' w4 hown' hk')
       go_roundw
       case rel => exact ⟨k + 1, T ++ [x], by omega, by go_num, (by rw [List.map_append]; exact hown'), (by show (T ++ [x]).length = k + 1; rw [List.length_append, HTL.out]; rfl), HG2, hc3.trans hk'⟩
       case measure => simp [intOf]; omega
      | false =>
       have HF := Lib.hid (HG1.out.symm.trans (zrC HNOT.out HPZ.out))
       go_wp2_with fail
       refine (zcL ⟨p.toArray⟩ _ (by rw [zaD]; omega)).mono ?_
       rw [zaG, HPZ.out]
       rintro e w3 ⟨rfl, hb3⟩
       have hc3 : Below w1.heap.size w1 w3 := hbw.trans (hb3.mono hbw.size)
       clear hb3
       go_wp2
       go_ret2
       exact zeD HF.out (Nums.nil _ _ _ _) (hb1.trans (hc3.mono hb1.size))
    ·have hq1 : ((k : Int) == (m : Int) - 1) = false := by rw [beq_eq_false_iff_ne]; omega
     have HNE := Lib.hid (zzD (k + 1) (zcU s.data.toList) (by rw [HM.out]; omega))
     clear hlast
     cases last with
     | true =>
      have HNOT : Hid (¬ (true = true ∧ (zcU s.data.toList).drop (k + 1) = [] ∧ (zaO p).2 = true)) := by
       show ¬ _
       rintro ⟨h1, h2, h3⟩
       first | exact HNE.out h2 | exact absurd h1 (by decide) | (rw [HS4.out] at h3; exact absurd (show false = true from h3) (by decide))
      cases b with
      | true =>
       have hgo := HG1.out
       rw [zjH HNOT.out HPZ.out] at hgo
       have HG2 := Lib.hid hgo
       clear hgo
       go_wp2_with fail
       refine (zcL ⟨p.toArray⟩ _ (by rw [zaD]; omega)).mono ?_
       rw [zaG, HPZ.out]
       rintro e w3 ⟨rfl, hb3⟩
       have hc3 : Below w1.heap.size w1 w3 := hbw.trans (hb3.mono hbw.size)
       have hown3 := zdW hown hb3
       have hsz3 := hc3.size
       clear hb3 hown
       go_wp2_with (at_builtin; refine zaU _ rfl _ _ 117 rfl w1.heap.size 111 i0 (.int .u16 0) 2 Tryz.underlying117 hi hz0 hz1 hz2 rfl _ _ _ rfl hown3 (.int .u16 x) rfl rfl (by omega) (by omega) hsz3 ?_; intro v' w4 hown' hk')
       go_roundw
       case rel => exact ⟨k + 1, T ++ [x], by omega, by go_num, (by rw [List.map_append]; exact hown'), (by show (T ++ [x]).length = k + 1; rw [List.length_append, HTL.out]; rfl), HG2, hc3.trans hk'⟩
       case measure => simp [intOf]; omega
      | false =>
       have HF := Lib.hid (HG1.out.symm.trans (zrC HNOT.out HPZ.out))
       go_wp2_with fail
       refine (zcL ⟨p.toArray⟩ _ (by rw [zaD]; omega)).mono ?_
       rw [zaG, HPZ.out]
       rintro e w3 ⟨rfl, hb3⟩
       have hc3 : Below w1.heap.size w1 w3 := hbw.trans (hb3.mono hbw.size)
       clear hb3
       go_wp2
       go_ret2
       exact zeD HF.out (Nums.nil _ _ _ _) (hb1.trans (hc3.mono hb1.size))
     | false =>
      have HNOT : Hid (¬ (false = true ∧ (zcU s.data.toList).drop (k + 1) = [] ∧ (zaO p).2 = true)) := by
       show ¬ _
       rintro ⟨h1, h2, h3⟩
       first | exact HNE.out h2 | exact absurd h1 (by decide) | (rw [HS4.out] at h3; exact absurd (show false = true from h3) (by decide))
      cases b with
      | true =>
       have hgo := HG1.out
       rw [zjH HNOT.out HPZ.out] at hgo
       have HG2 := Lib.hid hgo
       clear hgo
       go_wp2_with fail
       refine (zcL ⟨p.toArray⟩ _ (by rw [zaD]; omega)).mono ?_
       rw [zaG, HPZ.out]
       rintro e w3 ⟨rfl, hb3⟩
       have hc3 : Below w1.heap.size w1 w3 := hbw.trans (hb3.mono hbw.size)
       have hown3 := zdW hown hb3
       have hsz3 := hc3.size
       clear hb3 hown
       go_wp2_with (at_builtin; refine zaU _ rfl _ _ 117 rfl w1.heap.size 111 i0 (.int .u16 0) 2 Tryz.underlying117 hi hz0 hz1 hz2 rfl _ _ _ rfl hown3 (.int .u16 x) rfl rfl (by omega) (by omega) hsz3 ?_; intro v' w4 hown' hk')
       go_roundw
       case rel => exact ⟨k + 1, T ++ [x], by omega, by go_num, (by rw [List.map_append]; exact hown'), (by show (T ++ [x]).length = k + 1; rw [List.length_append, HTL.out]; rfl), HG2, hc3.trans hk'⟩
       case measure => simp [intOf]; omega
      | false =>
       have HF := Lib.hid (HG1.out.symm.trans (zrC HNOT.out HPZ.out))
       go_wp2_with fail
       refine (zcL ⟨p.toArray⟩ _ (by rw [zaD]; omega)).mono ?_
       rw [zaG, HPZ.out]
       rintro e w3 ⟨rfl, hb3⟩
       have hc3 : Below w1.heap.size w1 w3 := hbw.trans (hb3.mono hbw.size)
       clear hb3
       go_wp2
       go_ret2
       exact zeD HF.out (Nums.nil _ _ _ _) (hb1.trans (hc3.mono hb1.size))
   ·obtain rfl : k = m := by omega
    have hfin := HG.out
    rw [ztG k _ (by rw [HM.out]; omega), z8M] at hfin
    have HF := Lib.hid hfin.symm
    clear hfin
    go_wp2
    go_ret2
    exact zeD HF.out (Nums.mono (show Nums _ _ _ _ _ _ from by unfold Nums; rw [HTL.out]; exact hown) hb1.size) (hb1.trans (hbw.mono hb1.size))
end
section
open Go.RowKit
end
section
open Go.RowKit
theorem z0K (w : World) (cs : Array Value) (t : TypeId) (j : Nat) : (w.alloc (.cells cs t)).frozen? ⟨w.heap.size, j, none⟩ = false := by
 have h := heap_alloc_new w (.cells cs t)
 simp only [World.frozen?, h]
 simp
def hiP (o : Nat) (l : List Int) : Nat → Int
 | 0 => 0
 | k + 1 => hiP o l k * 65536 + l.getD (o + k) 0
theorem hiP_hi (l : List Int) : hiP 0 l 4 = hi4 l := by simp [hiP, hi4]
theorem hiP_lo (l : List Int) : hiP 4 l 4 = lo4 l := by simp [hiP, lo4]
theorem zoJ {l : List Int} (h : In16 l) (o k : Nat) (hk : k ≤ 3) : 0 ≤ hiP o l k ∧ hiP o l k ≤ 281474976710655 := by
 have h0 := h.getD o
 have h1 := h.getD (o + 1)
 have h2 := h.getD (o + 2)
 rcases (show k = 0 ∨ k = 1 ∨ k = 2 ∨ k = 3 from by omega) with rfl | rfl | rfl | rfl <;> simp only [hiP, Nat.add_zero] <;> omega
theorem zpC (x y : Int) (hx0 : 0 ≤ x) (hx : x ≤ 281474976710655) (hy0 : 0 ≤ y) (hy : y ≤ 65535) : bits .or .u64 (x * 65536) y = x * 65536 + y :=
 bits_join .u64 64 (by decide) (fun n h0 h1 => by rw [IntKind.wrap_u64]; omega) 16 (x * 65536) y (by omega) (by omega) (by omega) hy0 (by omega) (by omega)
abbrev zyS : List Value := [.int .u16 0, .int .u16 0, .int .u16 0, .int .u16 0, .int .u16 0, .int .u16 0, .int .u16 0, .int .u16 0]
theorem ybX (l : List Int) (j : Nat) (hj : j < 8) : (splice zyS 0 ((l.map (Value.int .u16)).take 8))[j]? = some (.int .u16 (l.getD j 0)) := by
 unfold splice
 simp only [List.take_zero, List.nil_append, Nat.zero_add, List.length_take, List.length_map]
 by_cases h : j < l.length
 ·rw [List.getElem?_append_left (by simp; omega), List.getElem?_take, if_pos hj, List.getElem?_map, List.getElem?_eq_getElem h, List.getD, List.getElem?_eq_getElem h]
  rfl
 ·rw [List.getElem?_append_right (by simp; omega), List.getElem?_drop, List.getD, List.getElem?_eq_none (by omega : l.length ≤ j)]
  simp only [List.length_take, List.length_map]
  rw [show min 8 l.length + (j - min 8 l.length) = j from by omega]
  rcases (show j = 0 ∨ j = 1 ∨ j = 2 ∨ j = 3 ∨ j = 4 ∨ j = 5 ∨ j = 6 ∨ j = 7 from by omega) with rfl | rfl | rfl | rfl | rfl | rfl | rfl | rfl <;> rfl
theorem zjK (v : Value) (l : List Int) (w : World) (hr : RowR w v (l.map (Value.int .u16))) (hin : In16 l) (hlen : l.length ≤ 1073741824) :
  Calls Tryz.prog 101 #[v] w fun e w' => e = .returned (.agg #[.int .u64 (hi4 l), .int .u64 (lo4 l)]) ∧ Below w.heap.size w w' := by
 obtain ⟨ao, c, rfl, hcs⟩ := hr
 rw [List.length_map]
 have HCS := Lib.hid hcs
 have HIN := Lib.hid hin
 clear hcs hin
 have hU : (Tryz.prog.info? 111).map (·.size) = some 1 := by
  obtain ⟨i0, hi, hz0, hz1, hz2⟩ := info_parts Tryz.infoU16
  rw [hi]; simp [hz1]
 have hW0s : (w.alloc (.cells #[.int .u64 0, .int .u64 0] 73)).heap.size = w.heap.size + 1 := by simp
 have hW0s : (w.alloc (.cells #[.int .u64 0, .int .u64 0] 73)).heap.size = w.heap.size + 1 := by simp
 have hb0 : Below (w.heap.size + 1) (w.alloc (.cells #[.int .u64 0, .int .u64 0] 73)) ((w.alloc (.cells #[.int .u64 0, .int .u64 0] 73)).alloc (.cells #[.int .u16 0, .int .u16 0, .int .u16 0, .int .u16 0, .int .u16 0, .int .u16 0, .int .u16 0, .int .u16 0] 112)) := (Below.refl _ _).alloc (by rw [hW0s]; exact Nat.le_refl _) _
 have HPOS : Hid (0 < ((l.map (Value.int .u16)).take 8).length → (some (⟨w.heap.size + 1, 0, none⟩ : Addr)) = some ⟨w.heap.size + 1, 0, none⟩ ∧ ∃ ad, ao = some ad ∧ ∀ j v, ((l.map (Value.int .u16)).take 8)[j]? = some v → ((w.alloc (.cells #[.int .u64 0, .int .u64 0] 73)).alloc (.cells #[.int .u16 0, .int .u16 0, .int .u16 0, .int .u16 0, .int .u16 0, .int .u16 0, .int .u16 0, .int .u16 0] 112)).cell? (ad.add j) = some v) := fun hp => by
  have hl : 0 < l.length := by simp at hp; omega
  obtain ⟨ad, ha, _⟩ := HCS.out 0 (.int .u16 l[0]) (by simp [hl])
  refine ⟨rfl, ad, ha, fun j v hj => ?_⟩
  rw [List.getElem?_take] at hj
  split at hj
  ·obtain ⟨ad2, ha2, hc2⟩ := HCS.out j v hj
   rw [ha] at ha2
   cases ha2
   exact ((((Below.refl _ w).alloc (Nat.le_refl _) _).alloc (by simp) _).cell (World.block_lt_of_cell? w _ hc2)).trans hc2
  ·cases hj
 have hfit : 0 + ((l.map (Value.int .u16)).take 8).length ≤ zyS.length := by simp [zyS]; omega
 have hone : ∀ v ∈ (l.map (Value.int .u16)).take 8, v.oneCell' = true := by
  intro v hv
  obtain ⟨x, _, rfl⟩ := List.mem_map.1 (List.mem_of_mem_take hv)
  rfl
 have hcl : ((l.map (Value.int .u16)).take 8).length = Nat.min l.length 8 := by
  rw [List.length_take, List.length_map]; exact Nat.min_comm _ _
 have HONE := Lib.hid hone
 have HCL := Lib.hid hcl
 clear hone hcl hW0s
 go_enter Tryz.func101, Tryz.ntmps101
 go_wp2_with (refine wpList_copy_splice (o := ⟨some 8, _, _, _, _, _⟩) rfl (.tmp 6) (.tmp 7) 117 117 rfl 111 Tryz.underlying117 hU (some ⟨w.heap.size + 1, 0, none⟩) ao 8 8 l.length c rfl rfl (w.heap.size + 1) 0 zyS 112 (by rw [show w.heap.size + 1 = (w.alloc (.cells #[.int .u64 0, .int .u64 0] 73)).heap.size from by simp]; exact heap_alloc_new _ _) ((l.map (Value.int .u16)).take 8) HCL.out HPOS.out hfit HONE.out (w.heap.size + 1) _ hb0 (by omega) ?_; intro w1 HB hb1)
 have hsz1 : w.heap.size + 1 < w1.heap.size := (Array.getElem?_eq_some_iff.1 HB.out).1
 have HARR : Hid (∀ j, j < 8 → w1.cell? ⟨w.heap.size + 1, j, none⟩ = some (.int .u16 (l.getD j 0))) := fun j hj => by
  rw [cell_of_row w1 _ j _ _ _ HB.out]
  have := ybX l j hj
  simpa using this
 have hres : ∀ j u, (#[Value.int .u64 0, Value.int .u64 0] : Array Value)[j]? = some u → w1.cell? ⟨w.heap.size, j, none⟩ = some u := fun j u hj => by
  rw [hb1.cell (p := ⟨w.heap.size, j, none⟩) (by show w.heap.size < w.heap.size + 1; omega), cell_of_row _ _ j _ _ _ (heap_alloc_new w _)]
  exact hj
 have hresf : ∀ j, w1.frozen? ⟨w.heap.size, j, none⟩ = false := fun j => by
  rw [hb1.frozen (p := ⟨w.heap.size, j, none⟩) (by show w.heap.size < w.heap.size + 1; omega)]
  exact z0K w _ _ j
 have HRES := Lib.hid (And.intro (hres 0 _ rfl) (And.intro (hres 1 _ rfl) (And.intro (hresf 0) (hresf 1))))
 have hbw1 : Below w.heap.size w w1 := ((Below.refl _ w).alloc (Nat.le_refl _) _).trans (hb1.mono (by omega))
 clear hres hresf hb1 hb0 hfit HPOS HONE HCL HCS hU
 have HB2 := Lib.hid (heap_alloc_new w1 (.cells #[.int .u64 0, .int .u64 0] 73))
 have hbA : Below w1.heap.size w1 (w1.alloc (.cells #[.int .u64 0, .int .u64 0] 73)) := (Below.refl _ w1).alloc (Nat.le_refl _) _
 go_loopw [9] (fun i wr => ∃ k : Nat, k ≤ 4 ∧ i = .int .i64 k ∧ Hid (wr.heap[w1.heap.size]? = some (.cells #[.int .u64 (hiP 0 l k), .int .u64 (hiP 4 l k)] 73 (0, 0))) ∧ Below w1.heap.size w1 wr) (fun i _ => 4 - (intOf i).toNat)
 case atStart => exact ⟨0, by omega, rfl, HB2, hbA⟩
 case round =>
  obtain ⟨k, hk, rfl, HA, hbw⟩ := hrel
  by_cases hk4 : k < 4
  ·have hHb := zoJ HIN.out 0 k (by omega)
   have hLb := zoJ HIN.out 4 k (by omega)
   have hxb := HIN.out.getD (0 + k)
   have hyb := HIN.out.getD (4 + k)
   have hcx : wr.cell? ⟨w.heap.size + 1, 0 + k, none⟩ = some (.int .u16 (l.getD (0 + k) 0)) := (hbw.cell (p := ⟨w.heap.size + 1, 0 + k, none⟩) hsz1).trans (HARR.out (0 + k) (by omega))
   have hcy : wr.cell? ⟨w.heap.size + 1, 4 + k, none⟩ = some (.int .u16 (l.getD (4 + k) 0)) := (hbw.cell (p := ⟨w.heap.size + 1, 4 + k, none⟩) hsz1).trans (HARR.out (4 + k) (by omega))
   have HHS : Hid (hiP 0 l (k + 1) = hiP 0 l k * 65536 + l.getD (0 + k) 0) := rfl
   have HLS : Hid (hiP 4 l (k + 1) = hiP 4 l k * 65536 + l.getD (4 + k) 0) := rfl
   generalize hiP 0 l k = H at *
   generalize hiP 4 l k = L at *
   generalize l.getD (0 + k) 0 = x at *
   generalize l.getD (4 + k) 0 = y at *
   obtain ⟨hH0, hH1⟩ := hHb
   obtain ⟨hL0, hL1⟩ := hLb
   obtain ⟨hx0, hx1⟩ := hxb
   obtain ⟨hy0, hy1⟩ := hyb
   have hor1 := zpC H x hH0 hH1 hx0 hx1
   have hor2 := zpC L y hL0 hL1 hy0 hy1
   have hc0 : wr.cell? ⟨w1.heap.size, 0, none⟩ = some (.int .u64 H) := by rw [cell_of_row wr _ 0 _ _ _ HA.out]; rfl
   have hc1 : wr.cell? ⟨w1.heap.size, 1, none⟩ = some (.int .u64 L) := by rw [cell_of_row wr _ 1 _ _ _ HA.out]; rfl
   have hf0 : wr.frozen? ⟨w1.heap.size, 0, none⟩ = false := by simp [World.frozen?, HA.out]
   have hf1 : wr.frozen? ⟨w1.heap.size, 1, none⟩ = false := by simp [World.frozen?, HA.out]
   have hne : w.heap.size + 1 ≠ w1.heap.size := by omega
   have HA2 : Hid (((wr.setCell ⟨w1.heap.size, 0, none⟩ (.int .u64 (H * 65536 + x))).setCell ⟨w1.heap.size, 1, none⟩ (.int .u64 (L * 65536 + y))).heap[w1.heap.size]? = some (.cells #[.int .u64 (H * 65536 + x), .int .u64 (L * 65536 + y)] 73 (0, 0))) := by
    show _ = _
    simp [World.setCell, Array.getElem?_modify, HA.out]
   have hbw2 : Below w1.heap.size w1 ((wr.setCell ⟨w1.heap.size, 0, none⟩ (.int .u64 (H * 65536 + x))).setCell ⟨w1.heap.size, 1, none⟩ (.int .u64 (L * 65536 + y))) := (hbw.setCell (Nat.le_refl _) _).setCell (Nat.le_refl _) _
   rcases (show k = 0 ∨ k = 1 ∨ k = 2 ∨ k = 3 from by omega) with rfl | rfl | rfl | rfl
   ·rw [show 0 + 0 = 0 from rfl] at hcx
    rw [show 4 + 0 = 4 from rfl] at hcy
    rw [show ((0 : Nat) : Int) = 0 from rfl]
    go_wp2
    go_region
    go_wp2
    go_region
    go_wp2
    go_roundw
    case rel => exact ⟨1, by omega, (by first | rfl | go_num), (by show _ = _; rw [HHS.out, HLS.out]; exact HA2.out), (hbw2.drew).drew⟩
    case measure => first | (simp [intOf]; done) | (simp [intOf]; omega)
   ·rw [show 0 + 1 = 1 from rfl] at hcx
    rw [show 4 + 1 = 5 from rfl] at hcy
    rw [show ((1 : Nat) : Int) = 1 from rfl]
    go_wp2
    go_region
    go_wp2
    go_region
    go_wp2
    go_roundw
    case rel => exact ⟨2, by omega, (by first | rfl | go_num), (by show _ = _; rw [HHS.out, HLS.out]; exact HA2.out), (hbw2.drew).drew⟩
    case measure => first | (simp [intOf]; done) | (simp [intOf]; omega)
   ·rw [show 0 + 2 = 2 from rfl] at hcx
    rw [show 4 + 2 = 6 from rfl] at hcy
    rw [show ((2 : Nat) : Int) = 2 from rfl]
    go_wp2
    go_region
    go_wp2
    go_region
    go_wp2
    go_roundw
    case rel => exact ⟨3, by omega, (by first | rfl | go_num), (by show _ = _; rw [HHS.out, HLS.out]; exact HA2.out), (hbw2.drew).drew⟩
    case measure => first | (simp [intOf]; done) | (simp [intOf]; omega)
   ·rw [show 0 + 3 = 3 from rfl] at hcx
    rw [show 4 + 3 = 7 from rfl] at hcy
    rw [show ((3 : Nat) : Int) = 3 from rfl]
    go_wp2
    go_region
    go_wp2
    go_region
    go_wp2
    go_roundw
    case rel => exact ⟨4, by omega, (by first | rfl | go_num), (by show _ = _; rw [HHS.out, HLS.out]; exact HA2.out), (hbw2.drew).drew⟩
    case measure => first | (simp [intOf]; done) | (simp [intOf]; omega)
  ·obtain rfl : k = 4 := by omega
   rw [show ((4 : Nat) : Int) = 4 from rfl]
   have ha := HA.out
   rw [hiP_hi, hiP_lo] at ha
   have HA3 := Lib.hid ha
   clear ha
   have hc0 : wr.cell? ⟨w1.heap.size, 0, none⟩ = some (.int .u64 (hi4 l)) := by rw [cell_of_row wr _ 0 _ _ _ HA3.out]; rfl
   have hc1 : wr.cell? ⟨w1.heap.size, 1, none⟩ = some (.int .u64 (lo4 l)) := by rw [cell_of_row wr _ 1 _ _ _ HA3.out]; rfl
   have hr0 : wr.cell? ⟨w.heap.size, 0, none⟩ = some (.int .u64 0) := (hbw.cell (p := ⟨w.heap.size, 0, none⟩) (by show w.heap.size < _; omega)).trans HRES.out.1
   have hr1 : wr.cell? ⟨w.heap.size, 1, none⟩ = some (.int .u64 0) := (hbw.cell (p := ⟨w.heap.size, 1, none⟩) (by show w.heap.size < _; omega)).trans HRES.out.2.1
   have hf0 : wr.frozen? ⟨w.heap.size, 0, none⟩ = false := (hbw.frozen (p := ⟨w.heap.size, 0, none⟩) (by show w.heap.size < _; omega)).trans HRES.out.2.2.1
   have hf1 : wr.frozen? ⟨w.heap.size, 1, none⟩ = false := (hbw.frozen (p := ⟨w.heap.size, 1, none⟩) (by show w.heap.size < _; omega)).trans HRES.out.2.2.2
   have hfin : Below w.heap.size w ((wr.setCell ⟨w.heap.size, 0, none⟩ (.int .u64 (hi4 l))).setCell ⟨w.heap.size, 1, none⟩ (.int .u64 (lo4 l))) := ((hbw1.trans (hbw.mono (by omega))).setCell (Nat.le_refl _) _).setCell (Nat.le_refl _) _
   go_wp2
   exact bodyPost_ret (v := .agg #[.int .u64 (hi4 l), .int .u64 (lo4 l)]) (by simp [results, Tryz.results101, go_sem, hr0, hr1]) rfl ⟨rfl, hfin⟩
end
section
open Go.RowKit
theorem zeQ (k : IntKind) (n : Nat) : Builtin.zeroCells (Value.int k 0).cells n = (List.replicate n (Value.int k 0)).toArray := by
 unfold Builtin.zeroCells
 have e : (Value.int k 0).cells = #[.int k 0] := rfl
 rw [e]
 apply Array.ext'
 simp only [Array.toList_map]
 apply List.ext_getElem
 ·simp
 ·intro i h1 h2
  simp [Nat.mod_one]
/-- the new row that a growing append of noughts makes -/
theorem zrN (w : World) (base : Nat) (e : TypeId) (kd : IntKind) (n k cap0 : Nat) (xs : List Value) (hxs : xs.length = n) (h63 : n + k ≤ maxLen) (hbase : base ≤ w.heap.size) :
  (w.drew.alloc (.cells (xs.toArray ++ Builtin.zeroCells (Value.int kd 0).cells k ++ Builtin.zeroCells (Value.int kd 0).cells (grownCap w (n + k) cap0 e - (n + k))) e)).ownsRow base e 1
   (.slice (some ⟨w.heap.size, 0, none⟩) (n + k) (grownCap w (n + k) cap0 e)) (n + k) (xs ++ List.replicate k (.int kd 0)) := by
 have hge := grownCap_ge w (n + k) cap0 e
 have hcm := grownCap_le_maxLen w (n + k) cap0 e h63
 refine ⟨by rw [List.length_append, List.length_replicate, hxs, Nat.mul_one], .inr ⟨w.heap.size, _, _, rfl, hbase, heap_alloc_new w.drew _, hge, hcm, ?_, ?_⟩⟩
 ·simp only [Array.size_append, List.size_toArray, zeQ, List.length_replicate, hxs]; omega
 ·rw [zeQ, zeQ]
  simp only [Array.toList_append, Nat.mul_one]
  rw [show n + k = (xs ++ List.replicate k (Value.int kd 0)).length from by rw [List.length_append, List.length_replicate, hxs]]
  exact List.take_left
theorem zhZ {P : Program} (w : World) (base : Nat) (t tn ty e : TypeId) (i : TypeInfo) (kd kn kq : IntKind) (bytes : Nat) (ht : P.underlying t = some (.slice e)) (htn : P.underlying tn = some (.int kn)) (hi : P.info? e = some i)
  (hz : i.zero = some (.int kd 0)) (hsize : i.size = 1) (hby : i.bytes = bytes) (v : Value) (n : Nat) (xs : List Value) (hown : w.ownsRow base e 1 v n xs) (k : Nat) (h0 : 0 < k)
  (h63 : n + k ≤ maxLen) (hbytes : (n + k) * bytes ≤ 140737488355328) (hbase : base ≤ w.heap.size) :
  ∃ v' w', (Builtin.append_ #[t, tn] ty #[v, .int kq k]).run P w = .ok v' w' ∧ w'.ownsRow base e 1 v' (n + k) (xs ++ List.replicate k (.int kd 0)) ∧ Below base w w' ∧ w.grownBy w' v.ownBlock := by
 subst hby
 have hsmall : n + k ≤ 9223372036854775807 := by simp only [maxLen] at h63; omega
 have hxs : xs.length = n := by have := hown.1; omega
 have hkb : k * i.bytes ≤ 281474976710656 := by
  have : k * i.bytes ≤ (n + k) * i.bytes := Nat.mul_le_mul_right _ (by omega)
  omega
 rcases hown.2 with ⟨rfl, rfl⟩ | ⟨g, cap, cur, rfl, hbg, hg, hnc, hcm, hcs, htake⟩
 ·have hx : xs = [] := List.eq_nil_of_length_eq_zero hxs
  subst hx
  have hr := Lib.run_append_nil_zeros (P := P) w t tn ty e i (.int kd 0) kq kn ht htn hi hz k h0 (by omega) (by omega) hkb
  have ho := zrN w base e kd 0 k 0 [] rfl h63 hbase
  simp only [Nat.zero_add, Array.empty_append] at ho ⊢
  exact ⟨_, _, hr, ho, (Below.refl _ _).drew.alloc hbase _, ⟨rfl, rfl, rfl, by simp, fun j hj _ => Below.heap_alloc w.drew _ j hj⟩⟩
 ·by_cases hroom : n + k ≤ cap
  ·have hfit : n + (List.replicate k (Value.int kd 0)).length ≤ cur.size := by rw [List.length_replicate, hcs]; omega
   have hst := run_storeCells_at P g (n * 1) e (List.replicate k (Value.int kd 0)) 0 cur w hg (by simpa using hfit) (fun u hu => by rw [(List.mem_replicate.1 hu).2]; rfl)
   simp only [Nat.add_zero] at hst
   have hw : IntKind.i64.wrap (k : Int) = k := by rw [IntKind.wrap_i64]; omega
   have h48i : ¬ (281474976710656 < (k : Int) * (i.bytes : Int)) := by
    rw [← Int.natCast_mul]
    omega
   have hneg : ¬ ((k : Int) < 0) := by omega
   have hns : ¬ (k = 0) := by omega
   have hrun : (Builtin.append_ #[t, tn] ty #[.slice (some ⟨g, 0, none⟩) n cap, .int kq k]).run P w = .ok (.slice (some ⟨g, 0, none⟩) (n + k) cap) (w.setRow g (cur.toList.take (n * 1) ++ List.replicate k (Value.int kd 0) ++ cur.toList.drop (n * 1 + (List.replicate k (Value.int kd 0)).length)).toArray) := by
    simp only [Nat.mul_one] at hst ⊢
    simp [Builtin.append_, run_underlying ht, run_underlying htn, sizeOf, typeInfo, zeroValue, hi, hz, hsize, asInt, asIntOf, hw, hneg, hns, h48i, hroom, Addr.add_lit, zeQ]
    simpa using congrArg (fun r => Result.andThen r fun _ w' => Result.ok (Value.slice (some ⟨g, 0, none⟩) (n + k) cap) w') hst
   refine ⟨_, _, hrun, ⟨by rw [List.length_append, List.length_replicate, hxs, Nat.mul_one], .inr ⟨g, cap, _, rfl, hbg, setRow_heap w g cur _ e _ hg, hroom, hcm, ?_, ?_⟩⟩, below_setRow (Below.refl _ _) hbg _, ⟨rfl, rfl, rfl, by simp, fun j _ hj => setRow_other w g j _ (fun e => hj (by simp [Value.ownBlock, e]))⟩⟩
   ·simp only [List.size_toArray, List.length_append, List.length_take, List.length_drop, Array.length_toList, List.length_replicate]
    omega
   ·simp only [Nat.mul_one] at htake ⊢
    rw [htake, show n + k = (xs ++ List.replicate k (Value.int kd 0)).length from by rw [List.length_append, List.length_replicate, hxs]]
    exact List.take_left
  ·have holds : ∀ j u, xs[j]? = some u → w.cell? ((⟨g, 0, none⟩ : Addr).add j) = some u := hown.cells (g := g) rfl
   have hold : (Builtin.firstCells i.size n (.slice (some ⟨g, 0, none⟩) n cap)).run P w.drew = .ok xs.toArray w.drew := run_firstCells_some w.drew i.size n ⟨g, 0, none⟩ n cap xs (by rw [hsize]; omega) (by simpa using holds)
   have hr := Lib.run_append_grow_zeros (P := P) w t tn ty e i (.int kd 0) kq kn ht htn hi hz (some ⟨g, 0, none⟩) n cap xs hold k h0 (by omega) (by omega) (by omega) hkb (growslice_fits (by omega) hbytes)
   exact ⟨_, _, hr, zrN w base e kd n k cap xs hxs h63 hbase, (Below.refl _ _).drew.alloc hbase _, ⟨rfl, rfl, rfl, by simp, fun j hj _ => Below.heap_alloc w.drew _ j hj⟩⟩
theorem zmF {P : Program} (w : World) {ops : Array Oper} {rest : List Oper} {o : Oper} {a : Act} {Q : Exit → Act → World → Prop} (hgd : o.guard = none) (s x : Operand) (t tn : TypeId)
  (ho : o.op = .call { callee := .builtin .append, args := #[s, x], argTypes := #[t, tn] })
  (base : Nat) (e : TypeId) (i : TypeInfo) (kd kn kq : IntKind) (bytes : Nat) (ht : P.underlying t = some (.slice e)) (htn : P.underlying tn = some (.int kn)) (hi : P.info? e = some i) (hz : i.zero = some (.int kd 0)) (hsize : i.size = 1) (hby : i.bytes = bytes)
  (v : Value) (n : Nat) (xs : List Value) (hs : a.eval s = v) (hown : w.ownsRow base e 1 v n xs) (k : Nat) (hx : a.eval x = .int kq k) (h0 : 0 < k)
  (h63 : n + k ≤ maxLen) (hbytes : (n + k) * bytes ≤ 140737488355328) (hbase : base ≤ w.heap.size)
  (h : ∀ v' w', w'.ownsRow base e 1 v' (n + k) (xs ++ List.replicate k (.int kd 0)) → Below base w w' → w.grownBy w' v.ownBlock → wpList P ops Q rest (a.put o.dst v') w') : wpList P ops Q (o :: rest) a w := by
 obtain ⟨v', w', hr, h2, h3, h4⟩ := zhZ (P := P) w base t tn o.type e i kd kn kq bytes ht htn hi hz hsize hby v n xs hown k h0 h63 hbytes hbase
 exact Lib.wpList_append_run w hgd s x t tn ho _ _ hs hx v' w' hr (h v' w' h2 h3 h4)
/-- append of a row of cells, which may be none, onto a row of the call's own -/
theorem zqZ {P : Program} (w : World) {ops : Array Oper} {rest : List Oper} {o : Oper} {a : Act} {Q : Exit → Act → World → Prop} (hgd : o.guard = none) (s x : Operand) (t : TypeId)
  (ho : o.op = .call { callee := .builtin .append, args := #[s, x], argTypes := #[t, t] })
  (base : Nat) (e : TypeId) (i : TypeInfo) (z : Value) (bytes : Nat) (ht : P.underlying t = some (.slice e)) (hi : P.info? e = some i) (hz : i.zero = some z)
  (hsize : i.size = 1) (hby : i.bytes = bytes) (hzs : z.cells.size = 1)
  (v : Value) (n : Nat) (xs : List Value) (hs : a.eval s = v) (hown : w.ownsRow base e 1 v n xs) (vx : Value) (ys : List Value) (hx : a.eval x = vx) (hrow : RowR w vx ys) (h1 : ∀ u ∈ ys, u.oneCell' = true)
  (hn0 : 0 < n) (h63 : n + ys.length ≤ maxLen) (hbytes : (n + ys.length) * bytes ≤ 140737488355328) (hbase : base ≤ w.heap.size)
  (h : ∀ v' w', w'.ownsRow base e 1 v' (n + ys.length) (xs ++ ys) → Below base w w' → wpList P ops Q rest (a.put o.dst v') w') : wpList P ops Q (o :: rest) a w := by
 obtain ⟨ao, c, rfl, hc⟩ := hrow
 cases ys with
 | nil =>
  rcases hown.2 with ⟨_, h0⟩ | ⟨g, cap, cur, rfl, hbg, hg, hnc, hcm, hcs, htake⟩
  ·omega
  ·have hrun : (Builtin.append_ #[t, t] o.type #[.slice (some ⟨g, 0, none⟩) n cap, .slice ao ([] : List Value).length c]).run P w = .ok (.slice (some ⟨g, 0, none⟩) n cap) w := by
    cases ao with
    | none => simp [Builtin.append_, run_underlying ht, sizeOf, typeInfo, hi, Builtin.lenOf, Builtin.firstCells, hnc, Addr.add_lit, storeCells]
    | some ad => simp [Builtin.append_, run_underlying ht, sizeOf, typeInfo, hi, Builtin.lenOf, Builtin.firstCells, loadCells, loadCellsFrom, hnc, Addr.add_lit, storeCells]
   refine Lib.wpList_append_run w hgd s x t t ho _ _ hs hx _ _ hrun (h _ _ ?_ (Below.refl _ _))
   simpa using hown
 | cons y ys =>
  obtain ⟨ad, rfl, _⟩ := hc 0 y rfl
  refine wpList_append_own w hgd s x t ho base e i z 1 bytes ht hi hz hsize hby hzs (by decide) v n xs hs hown ad (y :: ys).length c (y :: ys) hx (by rw [Nat.mul_one]) (fun j u hj => ?_) h1 h63 hbytes hbase ?_
  ·obtain ⟨ad2, ha, hx⟩ := hc j u hj
   cases ha
   exact hx
  ·intro v' w1 hown' hgrow _
   exact h v' w1 hown' ((Below.refl base w).grown hgrow hbase (fun k hk => (hown.lt k hk).1))
end
section
open Go.RowKit
/-- a variable of the library that strings.Index reads holds a number -/
def MaxVar (w : World) : Prop := ∃ m, w.cell? ⟨0, 0, none⟩ = some (.int .i64 m)
theorem zaB {w w' : World} (h : MaxVar w) (hb : Below w.heap.size w w') : MaxVar w' := by
 obtain ⟨m, hm⟩ := h
 exact ⟨m, (hb.cell (World.block_lt_of_cell? w _ hm)).trans hm⟩
def zsZ (w : World) (x : (Int × Int) × Bool) (e : Ending) (w' : World) : Prop := e = .returned (.tuple #[.agg #[.int .u64 x.1.1, .int .u64 x.1.2], .bool x.2]) ∧ Below w.heap.size w w'
theorem zhQ {w w' : World} {l : List UInt8} (h : sixL l = ([], false)) (hb : Below w.heap.size w w') : zsZ w (sixZ l) (.returned (.tuple #[.agg #[.int .u64 0, .int .u64 0], .bool false])) w' := by
 unfold sixZ; rw [h]; exact ⟨rfl, hb⟩
theorem zoF {w w' : World} {l : List UInt8} {T : List Int} (h : sixL l = (T, true)) (hb : Below w.heap.size w w') : zsZ w (sixZ l) (.returned (.tuple #[.agg #[.int .u64 (hi4 T), .int .u64 (lo4 T)], .bool true])) w' := by
 unfold sixZ; rw [h]; exact ⟨rfl, hb⟩
theorem zsX {l : List UInt8} {T : List Int} {b : Bool} (h : ccAt l = none) (hr : rowZ l true = (T, b)) : sixL l = if b = true ∧ T.length = 8 then (T, true) else ([], false) := by
 unfold sixL; rw [h]; simp only [hr]
theorem zuD {l : List UInt8} {k : Nat} {T U : List Int} {b c : Bool} (h : ccAt l = some k) (hr : rowZ (l.take k) false = (T, b)) (hs : rowZ (l.drop (k + 2)) true = (U, c)) :
  sixL l = if b = true ∧ c = true ∧ T.length + U.length ≤ 7 then (T ++ List.replicate (8 - (T.length + U.length)) 0 ++ U, true) else ([], false) := by
 unfold sixL; rw [h]; simp only [hr, hs]
theorem zqG (l : List UInt8) (last : Bool) : (rowZ l last).1.length ≤ l.length + 3 := by
 unfold rowZ
 split
 ·simp
 ·have h1 := z9O last (zcU l) []
  have h2 := zcR (hasB [58]) l
  unfold zcU at *
  simp at h1
  omega
theorem zwK (s : ByteArray) (w : World) (hs : s.size ≤ 1073741824) (hmax : MaxVar w) (hcc : ccAt s.data.toList = none) :
  Calls Tryz.prog 76 #[.string s] w (zsZ w (sixZ s.data.toList)) := by
 obtain ⟨m, hm⟩ := hmax
 have hgl := World.block_lt_of_cell? w _ hm
 have HM := Lib.hid hm
 clear hm
 obtain ⟨T, b, hT⟩ : ∃ T b, rowZ s.data.toList true = (T, b) := ⟨_, _, rfl⟩
 have HCUT := Lib.hid (z6W hcc)
 have HSL := Lib.hid (zsX hcc hT)
 have hTl : T.length ≤ 1073741827 := by have := zqG s.data.toList true; rw [hT, zaJ] at this; simp at this; omega
 have HIN : Hid (In16 T) := by show In16 T; have := zkC s.data.toList true; rw [hT] at this; exact this
 have HT := Lib.hid hT
 clear hcc hT
 have HM2 : Hid ((w.alloc (.cells #[.int .u64 0, .int .u64 0] 73)).cell? ⟨0, 0, none⟩ = some (.int .i64 m)) := (((Below.refl _ w).alloc (Nat.le_refl _) _).cell hgl).trans HM.out
 go_enter Tryz.func76, Tryz.ntmps76
 go_wp2_with fail
 refine (Tryz.strings_Cut s ⟨#[58, 58]⟩ m _ (by omega) HM2.out).mono ?_
 rw [show (ByteArray.mk #[58, 58]).data.toList = [58, 58] from rfl, HCUT.out]
 rintro e w1 ⟨rfl, n, rfl⟩
 have hb1 : Below w.heap.size w ((w.alloc (.cells #[.int .u64 0, .int .u64 0] 73)).drewN n) := zbC ((Below.refl _ w).alloc (Nat.le_refl _) _) n
 have hr0 : ((w.alloc (.cells #[.int .u64 0, .int .u64 0] 73)).drewN n).heap[w.heap.size]? = some (.cells #[.int .u64 0, .int .u64 0] 73 (0, 0)) := heap_alloc_new w _
 have hsz1 : w.heap.size < ((w.alloc (.cells #[.int .u64 0, .int .u64 0] 73)).drewN n).heap.size := (Array.getElem?_eq_some_iff.1 hr0).1
 generalize (w.alloc (.cells #[.int .u64 0, .int .u64 0] 73)).drewN n = x1 at *
 have HR0 := Lib.hid hr0
 clear hr0
 go_wp2_with fail
 refine (ziJ s true _ hs).mono ?_
 rw [HT.out]
 rintro e x2 ⟨v, rfl, hnum, hb2⟩
 have hrow := hnum.row
 have HROW := Lib.hid hrow
 obtain ⟨ao, c, rfl, hcs⟩ := hrow
 rw [List.length_map] at HROW ⊢
 clear hcs hnum
 have hc2 : Below w.heap.size w x2 := hb1.trans (hb2.mono hb1.size)
 have hsz2 : w.heap.size < x2.heap.size := Nat.lt_of_lt_of_le hsz1 hb2.size
 have HR2 : Hid (x2.heap[w.heap.size]? = some (.cells #[.int .u64 0, .int .u64 0] 73 (0, 0))) := (hb2.block w.heap.size hsz1).trans HR0.out
 have hk0 : x2.cell? ⟨w.heap.size, 0, none⟩ = some (.int .u64 0) := by rw [cell_of_row x2 _ 0 _ _ _ HR2.out]; rfl
 have hk1 : x2.cell? ⟨w.heap.size, 1, none⟩ = some (.int .u64 0) := by rw [cell_of_row x2 _ 1 _ _ _ HR2.out]; rfl
 have hf0 : x2.frozen? ⟨w.heap.size, 0, none⟩ = false := by simp [World.frozen?, HR2.out]
 have hf1 : x2.frozen? ⟨w.heap.size, 1, none⟩ = false := by simp [World.frozen?, HR2.out]
 clear hb2 hb1
 cases b with
 | false =>
  have HF := Lib.hid (HSL.out.trans (if_neg (fun h => by cases h.1)))
  have hfin : Below w.heap.size w ((x2.setCell ⟨w.heap.size, 0, none⟩ (.int .u64 0)).setCell ⟨w.heap.size, 1, none⟩ (.int .u64 0)) := (hc2.setCell (Nat.le_refl _) _).setCell (Nat.le_refl _) _
  go_wp2
  exact bodyPost_ret (v := .tuple #[.agg #[.int .u64 0, .int .u64 0], .bool false]) (by simp [results, Tryz.results76, go_sem, hk0, hk1]) rfl (zhQ HF.out hfin)
 | true =>
  by_cases h8 : T.length = 8
  ·have HF := Lib.hid (HSL.out.trans (if_pos ⟨rfl, h8⟩))
   rw [h8]
   have hb8 : ((8 : Int) != 8) = false := by decide
   have HR8 : Hid (RowR x2 (.slice ao 8 c) (T.map (Value.int .u16))) := by
    show RowR _ _ _
    have := HROW.out; rw [h8] at this; exact this
   go_wp2_with fail
   refine (zjK (.slice ao 8 c) T _ HR8.out HIN.out (by omega)).mono ?_
   rintro e x3 ⟨rfl, hb3⟩
   have hc3 : Below w.heap.size w x3 := hc2.trans (hb3.mono hc2.size)
   have hk0' : x3.cell? ⟨w.heap.size, 0, none⟩ = some (.int .u64 0) := (hb3.cell (p := ⟨w.heap.size, 0, none⟩) hsz2).trans hk0
   have hk1' : x3.cell? ⟨w.heap.size, 1, none⟩ = some (.int .u64 0) := (hb3.cell (p := ⟨w.heap.size, 1, none⟩) hsz2).trans hk1
   have hf0' : x3.frozen? ⟨w.heap.size, 0, none⟩ = false := (hb3.frozen (p := ⟨w.heap.size, 0, none⟩) hsz2).trans hf0
   have hf1' : x3.frozen? ⟨w.heap.size, 1, none⟩ = false := (hb3.frozen (p := ⟨w.heap.size, 1, none⟩) hsz2).trans hf1
   clear hk0 hk1 hf0 hf1 hb3
   have hfin : Below w.heap.size w ((x3.setCell ⟨w.heap.size, 0, none⟩ (.int .u64 (hi4 T))).setCell ⟨w.heap.size, 1, none⟩ (.int .u64 (lo4 T))) := (hc3.setCell (Nat.le_refl _) _).setCell (Nat.le_refl _) _
   go_wp2
   exact bodyPost_ret (v := .tuple #[.agg #[.int .u64 (hi4 T), .int .u64 (lo4 T)], .bool true]) (by simp [results, Tryz.results76, go_sem, hk0', hk1']) rfl (zoF HF.out hfin)
  ·have HF := Lib.hid (HSL.out.trans (if_neg (fun h => h8 h.2)))
   have hb8 : ((T.length : Int) != 8) = true := by rw [bne_iff_ne]; omega
   have hfin : Below w.heap.size w ((x2.setCell ⟨w.heap.size, 0, none⟩ (.int .u64 0)).setCell ⟨w.heap.size, 1, none⟩ (.int .u64 0)) := (hc2.setCell (Nat.le_refl _) _).setCell (Nat.le_refl _) _
   go_wp2
   exact bodyPost_ret (v := .tuple #[.agg #[.int .u64 0, .int .u64 0], .bool false]) (by simp [results, Tryz.results76, go_sem, hk0, hk1]) rfl (zhQ HF.out hfin)
theorem zxH (s : ByteArray) (k : Nat) (w : World) (hs : s.size ≤ 1073741824) (hmax : MaxVar w) (hcc : ccAt s.data.toList = some k) :
  Calls Tryz.prog 76 #[.string s] w (zsZ w (sixZ s.data.toList)) := by
 obtain ⟨m, hm⟩ := hmax
 have hgl := World.block_lt_of_cell? w _ hm
 have HM := Lib.hid hm
 clear hm
 obtain ⟨i0, hi, hz0, hz1, hz2⟩ := info_parts Tryz.infoU16
 obtain ⟨p, hp⟩ : ∃ p, s.data.toList.take k = p := ⟨_, rfl⟩
 obtain ⟨q, hq⟩ : ∃ q, s.data.toList.drop (k + 2) = q := ⟨_, rfl⟩
 have hpl : p.length ≤ 1073741824 := by have := List.length_take_le k s.data.toList; have h2 := List.length_take_le' k s.data.toList; rw [hp, zaJ] at h2; omega
 have hql : q.length ≤ 1073741824 := by rw [← hq, List.length_drop, zaJ]; omega
 obtain ⟨T, b, hT⟩ : ∃ T b, rowZ p false = (T, b) := ⟨_, _, rfl⟩
 obtain ⟨U, d, hU⟩ : ∃ T b, rowZ q true = (T, b) := ⟨_, _, rfl⟩
 have hcut := z9M hcc
 rw [hp, hq] at hcut
 have HCUT := Lib.hid hcut
 have HSL := Lib.hid (zuD (T := T) (U := U) (b := b) (c := d) hcc (by rw [hp, hT]) (by rw [hq, hU]))
 have hTl : T.length ≤ 1073741827 := by have := zqG p false; rw [hT] at this; simp at this; omega
 have hUl : U.length ≤ 1073741827 := by have := zqG q true; rw [hU] at this; simp at this; omega
 have HIN : Hid (In16 T) := by show In16 T; have := zkC p false; rw [hT] at this; exact this
 have HIN2 : Hid (In16 U) := by show In16 U; have := zkC q true; rw [hU] at this; exact this
 have HT := Lib.hid hT
 have HU := Lib.hid hU
 clear hcc hT hU hcut hp hq
 have HM2 : Hid ((w.alloc (.cells #[.int .u64 0, .int .u64 0] 73)).cell? ⟨0, 0, none⟩ = some (.int .i64 m)) := (((Below.refl _ w).alloc (Nat.le_refl _) _).cell hgl).trans HM.out
 go_enter Tryz.func76, Tryz.ntmps76
 go_wp2_with fail
 refine (Tryz.strings_Cut s ⟨#[58, 58]⟩ m _ (by omega) HM2.out).mono ?_
 rw [show (ByteArray.mk #[58, 58]).data.toList = [58, 58] from rfl, HCUT.out]
 rintro e w1 ⟨rfl, n, rfl⟩
 have hb1 : Below w.heap.size w ((w.alloc (.cells #[.int .u64 0, .int .u64 0] 73)).drewN n) := zbC ((Below.refl _ w).alloc (Nat.le_refl _) _) n
 have hr0 : ((w.alloc (.cells #[.int .u64 0, .int .u64 0] 73)).drewN n).heap[w.heap.size]? = some (.cells #[.int .u64 0, .int .u64 0] 73 (0, 0)) := heap_alloc_new w _
 have hsz1 : w.heap.size < ((w.alloc (.cells #[.int .u64 0, .int .u64 0] 73)).drewN n).heap.size := (Array.getElem?_eq_some_iff.1 hr0).1
 generalize (w.alloc (.cells #[.int .u64 0, .int .u64 0] 73)).drewN n = x1 at *
 have HR0 := Lib.hid hr0
 clear hr0
 go_wp2_with fail
 refine (ziJ ⟨p.toArray⟩ false _ (by rw [zaD]; exact hpl)).mono ?_
 rw [zaG, HT.out]
 rintro e x2 ⟨v, rfl, hnum, hb2⟩
 have HNUM := Lib.hid hnum
 clear hnum
 go_wp2_with fail
 refine (ziJ ⟨q.toArray⟩ true _ (by rw [zaD]; exact hql)).mono ?_
 rw [zaG, HU.out]
 rintro e x3 ⟨v2, rfl, hnum2, hb3⟩
 have HOWN2 := Lib.hid (show x3.ownsRow x2.heap.size 111 1 v2 U.length (U.map (Value.int .u16)) from hnum2)
 have HOWN := Lib.hid (show x3.ownsRow x1.heap.size 111 1 v T.length (T.map (Value.int .u16)) from HNUM.out.below hb3)
 have HLT := Lib.hid (World.ownsRow.lt (show x2.ownsRow x1.heap.size 111 1 v T.length (T.map (Value.int .u16)) from HNUM.out))
 obtain ⟨ao, c, hv, _⟩ := HNUM.out.row
 obtain ⟨ao2, c2, hv2, _⟩ := hnum2.row
 rw [List.length_map] at hv hv2
 subst hv hv2
 clear hnum2
 have hd2 : Below x1.heap.size x1 x3 := hb2.trans (hb3.mono hb2.size)
 have hs3 : x1.heap.size ≤ x3.heap.size := hd2.size
 have hc2 : Below w.heap.size w x3 := hb1.trans (hd2.mono hb1.size)
 have HR2 : Hid (x3.heap[w.heap.size]? = some (.cells #[.int .u64 0, .int .u64 0] 73 (0, 0))) := (hd2.block w.heap.size hsz1).trans HR0.out
 have HK : Hid (x3.cell? ⟨w.heap.size, 0, none⟩ = some (.int .u64 0) ∧ x3.cell? ⟨w.heap.size, 1, none⟩ = some (.int .u64 0) ∧ x3.frozen? ⟨w.heap.size, 0, none⟩ = false ∧ x3.frozen? ⟨w.heap.size, 1, none⟩ = false) :=
  ⟨by rw [cell_of_row x3 _ 0 _ _ _ HR2.out]; rfl, by rw [cell_of_row x3 _ 1 _ _ _ HR2.out]; rfl, by simp [World.frozen?, HR2.out], by simp [World.frozen?, HR2.out]⟩
 have hb23 := hb2.size
 clear hb1 hb2 hb3 hd2
 by_cases hok : b = true ∧ d = true ∧ T.length + U.length ≤ 7
 ·have HF := Lib.hid (HSL.out.trans (if_pos hok))
  obtain ⟨rfl, rfl, h7⟩ := hok
  obtain ⟨z, hz⟩ : ∃ z, 8 - (T.length + U.length) = z := ⟨_, rfl⟩
  have hzn : 0 < z := by omega
  have hze : (8 : Int) - (T.length : Int) - (U.length : Int) = (z : Int) := by omega
  have hz1' : decide ((z : Int) < 1) = false := decide_eq_false (by omega)
  rw [hz] at HF
  have hz7 : T.length + z ≤ 8 := by omega
  clear hz
  have HE8 : Hid (T.length + z + U.length = 8) := by show _ = _; omega
  have hne : (Value.slice ao2 U.length c2).ownBlock = none ∨ (Value.slice ao2 U.length c2).ownBlock ≠ (Value.slice ao T.length c).ownBlock := by
   cases h : (Value.slice ao2 U.length c2).ownBlock with
   | none => exact .inl rfl
   | some j =>
    refine .inr fun e => ?_
    have h1 := (World.ownsRow.lt HOWN2.out j h).1
    have h2 := (HLT.out j e.symm).2
    omega
  have HNE := Lib.hid hne
  clear hne
  go_wp2_with (first
   | (at_builtin; refine zmF _ rfl _ _ 117 3 rfl x1.heap.size 111 i0 .u16 .i64 .i64 2 Tryz.underlying117 Tryz.underlying3 hi hz0 hz1 hz2 _ _ _ rfl HOWN.out z rfl hzn (by unfold maxLen; omega) (by omega) hs3 ?_; intro v' x4 hown4 hb4 hg4)
   | (at_builtin; refine zqZ _ rfl _ _ 117 rfl x1.heap.size 111 i0 (.int .u16 0) 2 Tryz.underlying117 hi hz0 hz1 hz2 rfl _ _ _ rfl hown4 _ (U.map (Value.int .u16)) rfl (Nums.row (show Nums 111 .u16 x2.heap.size x4 (.slice ao2 U.length c2) U from World.ownsRow.kept HOWN2.out hg4 HNE.out)) (fun u hu => by obtain ⟨y, _, rfl⟩ := List.mem_map.1 hu; rfl) (by omega) (by rw [List.length_map]; unfold maxLen; omega) (by rw [List.length_map]; omega) (Nat.le_trans hs3 hb4.size) ?_; intro v5 x5 hown5 hb5)
   | fail)
  have hs4 : x1.heap.size ≤ x4.heap.size := Nat.le_trans hs3 hb4.size
  have hall : Nums 111 .u16 x1.heap.size x5 v5 (T ++ List.replicate z 0 ++ U) := by
   unfold Nums
   rw [List.length_map] at hown5
   rw [Nat.add_assoc] at hown5
   simpa [List.map_append, List.map_replicate, List.length_append, List.length_replicate] using hown5
  have HALL := Lib.hid hall.row
  have HIN3 := Lib.hid ((HIN.out.append (In16.zeros z)).append HIN2.out)
  have hl8 : (T ++ List.replicate z 0 ++ U).length ≤ 1073741824 := by
   simp only [List.length_append, List.length_replicate]; omega
  have hd5 : Below x1.heap.size x3 x5 := hb4.trans hb5
  have hc5 : Below w.heap.size w x5 := hc2.trans (hd5.mono (by omega))
  have hsz5 : w.heap.size < x5.heap.size := Nat.lt_of_lt_of_le hsz1 (Nat.le_trans hs4 hb5.size)
  clear hall hown5 hown4
  generalize T ++ List.replicate z 0 ++ U = Y at *
  refine (zjK _ Y _ HALL.out HIN3.out hl8).mono ?_
  rintro e x6 ⟨rfl, hb6⟩
  have hc6 : Below w.heap.size w x6 := hc5.trans (hb6.mono hc5.size)
  have hk0' : x6.cell? ⟨w.heap.size, 0, none⟩ = some (.int .u64 0) := (hb6.cell (p := ⟨w.heap.size, 0, none⟩) hsz5).trans ((hd5.cell (p := ⟨w.heap.size, 0, none⟩) hsz1).trans HK.out.1)
  have hk1' : x6.cell? ⟨w.heap.size, 1, none⟩ = some (.int .u64 0) := (hb6.cell (p := ⟨w.heap.size, 1, none⟩) hsz5).trans ((hd5.cell (p := ⟨w.heap.size, 1, none⟩) hsz1).trans HK.out.2.1)
  have hf0' : x6.frozen? ⟨w.heap.size, 0, none⟩ = false := (hb6.frozen (p := ⟨w.heap.size, 0, none⟩) hsz5).trans ((hd5.frozen (p := ⟨w.heap.size, 0, none⟩) hsz1).trans HK.out.2.2.1)
  have hf1' : x6.frozen? ⟨w.heap.size, 1, none⟩ = false := (hb6.frozen (p := ⟨w.heap.size, 1, none⟩) hsz5).trans ((hd5.frozen (p := ⟨w.heap.size, 1, none⟩) hsz1).trans HK.out.2.2.2)
  clear hb6 hb4 hb5
  have hfin : Below w.heap.size w ((x6.setCell ⟨w.heap.size, 0, none⟩ (.int .u64 (hi4 Y))).setCell ⟨w.heap.size, 1, none⟩ (.int .u64 (lo4 Y))) := (hc6.setCell (Nat.le_refl _) _).setCell (Nat.le_refl _) _
  go_wp2
  exact bodyPost_ret (v := .tuple #[.agg #[.int .u64 (hi4 Y), .int .u64 (lo4 Y)], .bool true]) (by simp [results, Tryz.results76, go_sem, hk0', hk1']) rfl (zoF HF.out hfin)
 ·have HF := Lib.hid (HSL.out.trans (if_neg hok))
  obtain ⟨hk0, hk1, hf0, hf1⟩ := HK.out
  have hfin : Below w.heap.size w ((x3.setCell ⟨w.heap.size, 0, none⟩ (.int .u64 0)).setCell ⟨w.heap.size, 1, none⟩ (.int .u64 0)) := (hc2.setCell (Nat.le_refl _) _).setCell (Nat.le_refl _) _
  cases b with
  | false =>
   clear hok
   go_wp2
   exact bodyPost_ret (v := .tuple #[.agg #[.int .u64 0, .int .u64 0], .bool false]) (by simp [results, Tryz.results76, go_sem, hk0, hk1]) rfl (zhQ HF.out hfin)
  | true =>
   cases d with
   | false =>
    clear hok
    go_wp2
    exact bodyPost_ret (v := .tuple #[.agg #[.int .u64 0, .int .u64 0], .bool false]) (by simp [results, Tryz.results76, go_sem, hk0, hk1]) rfl (zhQ HF.out hfin)
   | true =>
    have h7 : 7 < T.length + U.length := by
     rcases Nat.lt_or_ge 7 (T.length + U.length) with h | h
     ·exact h
     ·exact absurd ⟨rfl, rfl, h⟩ hok
    have hz1' : decide ((8 : Int) - (T.length : Int) - (U.length : Int) < 1) = true := decide_eq_true (by omega)
    clear hok
    go_wp2
    exact bodyPost_ret (v := .tuple #[.agg #[.int .u64 0, .int .u64 0], .bool false]) (by simp [results, Tryz.results76, go_sem, hk0, hk1]) rfl (zhQ HF.out hfin)
theorem zhX (s : ByteArray) (w : World) (hs : s.size ≤ 1073741824) (hmax : MaxVar w) :
  Calls Tryz.prog 76 #[.string s] w (zsZ w (sixZ s.data.toList)) := by
 cases h : ccAt s.data.toList with
 | none => exact zwK s w hs hmax h
 | some k => exact zxH s k w hs hmax h
end
section
open Go.RowKit
theorem make8 (W : World) : (Instr.makeSlice 103 (.int .i64 8) (.int .i64 8)).run Tryz.prog W = .ok (.slice (some ⟨W.heap.size, 0, none⟩) 8 8) (W.alloc (.cells #[.int .i64 0, .int .i64 0, .int .i64 0, .int .i64 0, .int .i64 0, .int .i64 0, .int .i64 0, .int .i64 0] 3)) := by
 obtain ⟨i0, hi, hz0, hz1, hz2⟩ := info_parts Tryz.infoInt
 rw [run_make W 103 3 i0 (.int .i64 0) Tryz.underlying103 hi hz0 .i64 .i64 8 8 (by decide) (by decide) (by rw [hz2]; decide) (by decide), hz1]
 have e : madeCells (Value.int .i64 0).cells (Int.toNat 8 * 1) = #[.int .i64 0, .int .i64 0, .int .i64 0, .int .i64 0, .int .i64 0, .int .i64 0, .int .i64 0, .int .i64 0] := by kernel_rfl
 rw [e]
 rfl
theorem Nums.form {t : TypeId} {k : IntKind} {B : Nat} {w : World} {v : Value} {l : List Int} (h : Nums t k B w v l) (hn : 0 < l.length) :
  ∃ g cap, v = .slice (some ⟨g, 0, none⟩) l.length cap ∧ l.length ≤ cap ∧ g < w.heap.size ∧ ∀ j, j < l.length → w.cell? ⟨g, j, none⟩ = some (.int k (l.getD j 0)) := by
 unfold Nums at h
 rcases h.2 with ⟨_, h0⟩ | ⟨g, cap, cur, hv, _, hg, hc, _, hs, ht⟩
 ·omega
 ·refine ⟨g, cap, hv, hc, (Array.getElem?_eq_some_iff.1 hg).1, fun j hj => ?_⟩
  rw [cell_of_row w g j cur _ _ hg]
  have h1 : (l.map (Value.int k))[j]? = some (.int k (l.getD j 0)) := by
   simp [List.getD, List.getElem?_eq_getElem hj]
  rw [← ht, List.getElem?_take, if_pos (by omega)] at h1
  simpa using h1
end
section
open Go.RowKit
end
section
open Go.RowKit
def pcs (hi lo : Int) : List Int := [hi / 281474976710656, hi / 4294967296 % 65536, hi / 65536 % 65536, hi % 65536, lo / 281474976710656, lo / 4294967296 % 65536, lo / 65536 % 65536, lo % 65536]
theorem zoR {hi lo : Int} (h0 : 0 ≤ hi) (h1 : hi ≤ 18446744073709551615) (l0 : 0 ≤ lo) (l1 : lo ≤ 18446744073709551615) : In16 (pcs hi lo) := by
 intro x hx
 simp only [pcs, List.mem_cons, List.not_mem_nil, or_false] at hx
 rcases hx with rfl | rfl | rfl | rfl | rfl | rfl | rfl | rfl <;> omega
theorem ycD {hi lo : Int} : hi4 (pcs hi lo) = hi := by
 simp only [hi4, pcs, List.getD_cons_zero, List.getD_cons_succ]; omega
theorem ycK {hi lo : Int} : lo4 (pcs hi lo) = lo := by
 simp only [lo4, pcs, List.getD_cons_zero, List.getD_cons_succ]; omega
theorem zfM (x : Int) : IntKind.u16.wrap x = x % 65536 := by rw [IntKind.wrap_u16]
theorem zaS {w : World} {g : Nat} {t : TypeId} {cs : Array Value} (h : w.heap[g]? = some (.cells cs t (0, 0))) (j : Nat) : w.frozen? ⟨g, j, none⟩ = false := by
 simp [World.frozen?, h]
def arrV (a0 a1 a2 a3 a4 a5 a6 a7 : Int) : Nat → Array Value
 | 0 => #[.int .u16 0, .int .u16 0, .int .u16 0, .int .u16 0, .int .u16 0, .int .u16 0, .int .u16 0, .int .u16 0]
 | 1 => #[.int .u16 a0, .int .u16 0, .int .u16 0, .int .u16 0, .int .u16 a4, .int .u16 0, .int .u16 0, .int .u16 0]
 | 2 => #[.int .u16 a0, .int .u16 a1, .int .u16 0, .int .u16 0, .int .u16 a4, .int .u16 a5, .int .u16 0, .int .u16 0]
 | 3 => #[.int .u16 a0, .int .u16 a1, .int .u16 a2, .int .u16 0, .int .u16 a4, .int .u16 a5, .int .u16 a6, .int .u16 0]
 | _ => #[.int .u16 a0, .int .u16 a1, .int .u16 a2, .int .u16 a3, .int .u16 a4, .int .u16 a5, .int .u16 a6, .int .u16 a7]
theorem zwS (hi lo : Int) (w : World) (h0 : 0 ≤ hi) (h1 : hi ≤ 18446744073709551615) (l0 : 0 ≤ lo) (l1 : lo ≤ 18446744073709551615) :
  Calls Tryz.prog 89 #[.agg #[.int .u64 hi, .int .u64 lo]] w fun e w' => e = .returned (.agg #[.int .u16 (hi / 281474976710656), .int .u16 (hi / 4294967296 % 65536), .int .u16 (hi / 65536 % 65536), .int .u16 (hi % 65536), .int .u16 (lo / 281474976710656), .int .u16 (lo / 4294967296 % 65536), .int .u16 (lo / 65536 % 65536), .int .u16 (lo % 65536)])  ∧ Below w.heap.size w w' := by
 obtain ⟨a0, ha0⟩ : ∃ a, hi / 281474976710656 = a := ⟨_, rfl⟩
 have e0 : IntKind.u16.wrap (hi / 281474976710656) = a0 := by rw [zfM]; omega
 obtain ⟨a1, ha1⟩ : ∃ a, hi / 4294967296 % 65536 = a := ⟨_, rfl⟩
 have e1 : IntKind.u16.wrap (hi / 4294967296) = a1 := by rw [zfM]; omega
 obtain ⟨a2, ha2⟩ : ∃ a, hi / 65536 % 65536 = a := ⟨_, rfl⟩
 have e2 : IntKind.u16.wrap (hi / 65536) = a2 := by rw [zfM]; omega
 obtain ⟨a3, ha3⟩ : ∃ a, hi % 65536 = a := ⟨_, rfl⟩
 have e3 : IntKind.u16.wrap (hi / 1) = a3 := by rw [zfM]; omega
 obtain ⟨a4, ha4⟩ : ∃ a, lo / 281474976710656 = a := ⟨_, rfl⟩
 have e4 : IntKind.u16.wrap (lo / 281474976710656) = a4 := by rw [zfM]; omega
 obtain ⟨a5, ha5⟩ : ∃ a, lo / 4294967296 % 65536 = a := ⟨_, rfl⟩
 have e5 : IntKind.u16.wrap (lo / 4294967296) = a5 := by rw [zfM]; omega
 obtain ⟨a6, ha6⟩ : ∃ a, lo / 65536 % 65536 = a := ⟨_, rfl⟩
 have e6 : IntKind.u16.wrap (lo / 65536) = a6 := by rw [zfM]; omega
 obtain ⟨a7, ha7⟩ : ∃ a, lo % 65536 = a := ⟨_, rfl⟩
 have e7 : IntKind.u16.wrap (lo / 1) = a7 := by rw [zfM]; omega
 rw [ha0, ha1, ha2, ha3, ha4, ha5, ha6, ha7]
 have E := Lib.hid (And.intro e0 (And.intro e1 (And.intro e2 (And.intro e3 (And.intro e4 (And.intro e5 (And.intro e6 e7)))))))
 clear ha0 ha1 ha2 ha3 ha4 ha5 ha6 ha7 e0 e1 e2 e3 e4 e5 e6 e7
 obtain ⟨x0, hx0⟩ : ∃ x, w.alloc (.cells #[.int .u64 hi, .int .u64 lo] 73) = x := ⟨_, rfl⟩
 have HX0 := Lib.hid hx0
 have hs0 : x0.heap.size = w.heap.size + 1 := by rw [← hx0]; simp
 have hb0 : Below w.heap.size w x0 := by rw [← hx0]; exact (Below.refl _ w).alloc (Nat.le_refl _) _
 have hB0 : x0.heap[w.heap.size]? = some (.cells #[.int .u64 hi, .int .u64 lo] 73 (0, 0)) := by rw [← hx0]; exact heap_alloc_new w _
 obtain ⟨x1, hx1⟩ : ∃ x, x0.alloc (.cells #[.int .u16 0, .int .u16 0, .int .u16 0, .int .u16 0, .int .u16 0, .int .u16 0, .int .u16 0, .int .u16 0] 112) = x := ⟨_, rfl⟩
 have hs1 : x1.heap.size = w.heap.size + 2 := by rw [← hx1]; simp [hs0]
 have hb1 : Below x0.heap.size x0 x1 := by rw [← hx1]; exact (Below.refl _ x0).alloc (Nat.le_refl _) _
 have hB1 : x1.heap[w.heap.size + 1]? = some (.cells #[.int .u16 0, .int .u16 0, .int .u16 0, .int .u16 0, .int .u16 0, .int .u16 0, .int .u16 0, .int .u16 0] 112 (0, 0)) := by rw [← hx1, ← hs0]; exact heap_alloc_new x0 _
 have HX1 := Lib.hid hx1
 have hC0 : x1.heap[w.heap.size]? = some (.cells #[.int .u64 hi, .int .u64 lo] 73 (0, 0)) := (hb1.block w.heap.size (by omega)).trans hB0
 have hbw1 : Below w.heap.size w x1 := hb0.trans (hb1.mono (by omega))
 have HB := Lib.hid (And.intro hC0 hB1)
 have HS := Lib.hid hs1
 have HS0 := Lib.hid hs0
 have HA0 : Hid ((x1.alloc (.cells #[.int .u16 0, .int .u16 0, .int .u16 0, .int .u16 0, .int .u16 0, .int .u16 0, .int .u16 0, .int .u16 0] 112)).heap[x1.heap.size]? = some (.cells (arrV a0 a1 a2 a3 a4 a5 a6 a7 0) 112 (0, 0))) := heap_alloc_new x1 _
 have hbA : Below x1.heap.size x1 (x1.alloc (.cells #[.int .u16 0, .int .u16 0, .int .u16 0, .int .u16 0, .int .u16 0, .int .u16 0, .int .u16 0, .int .u16 0] 112)) := (Below.refl _ x1).alloc (Nat.le_refl _) _
 clear hx0 hx1 hs0 hs1 hB0 hB1 hC0 hb0 hb1
 go_enter Tryz.func89, Tryz.ntmps89
 go_wp2
 rw [HX0.out, HX1.out]
 rw [show w.heap.size + 1 + 1 = x1.heap.size from HS.out.symm]
 go_loopw [6] (fun i wr => ∃ k : Nat, k ≤ 4 ∧ i = .int .i64 k ∧ Hid (wr.heap[x1.heap.size]? = some (.cells (arrV a0 a1 a2 a3 a4 a5 a6 a7 k) 112 (0, 0))) ∧ Below x1.heap.size x1 wr) (fun i _ => 4 - (intOf i).toNat)
 case atStart => exact ⟨0, by omega, rfl, HA0, hbA⟩
 case round =>
  obtain ⟨k, hk, rfl, HA, hbw⟩ := hrel
  have hg0 : w.heap.size < x1.heap.size := by rw [HS.out]; omega
  have hg1 : w.heap.size + 1 < x1.heap.size := by rw [HS.out]; omega
  by_cases hk4 : k < 4
  ·have hch : wr.cell? ⟨w.heap.size, 0, none⟩ = some (.int .u64 hi) := by rw [hbw.cell (p := ⟨w.heap.size, 0, none⟩) hg0, cell_of_row x1 _ 0 _ _ _ HB.out.1]; rfl
   have hcl : wr.cell? ⟨w.heap.size, 1, none⟩ = some (.int .u64 lo) := by rw [hbw.cell (p := ⟨w.heap.size, 1, none⟩) hg0, cell_of_row x1 _ 1 _ _ _ HB.out.1]; rfl
   have hne : w.heap.size ≠ x1.heap.size := by omega
   rcases (show k = 0 ∨ k = 1 ∨ k = 2 ∨ k = 3 from by omega) with rfl | rfl | rfl | rfl
   ·rw [show ((0 : Nat) : Int) = 0 from rfl]
    have hc1 : wr.cell? ⟨x1.heap.size, 0, none⟩ = some (.int .u16 0) := by rw [cell_of_row wr _ 0 _ _ _ HA.out]; rfl
    have hc2 : wr.cell? ⟨x1.heap.size, 4, none⟩ = some (.int .u16 0) := by rw [cell_of_row wr _ 4 _ _ _ HA.out]; rfl
    have hf1 : wr.frozen? ⟨x1.heap.size, 0, none⟩ = false := zaS HA.out 0
    have hf2 : wr.frozen? ⟨x1.heap.size, 4, none⟩ = false := zaS HA.out 4
    have HA2 : Hid (((wr.setCell ⟨x1.heap.size, 0, none⟩ (.int .u16 a0)).setCell ⟨x1.heap.size, 4, none⟩ (.int .u16 a4)).heap[x1.heap.size]? = some (.cells (arrV a0 a1 a2 a3 a4 a5 a6 a7 1) 112 (0, 0))) := by
     show _ = _
     simp [World.setCell, Array.getElem?_modify, HA.out, arrV]
    have hbw2 : Below x1.heap.size x1 ((wr.setCell ⟨x1.heap.size, 0, none⟩ (.int .u16 a0)).setCell ⟨x1.heap.size, 4, none⟩ (.int .u16 a4)) := (hbw.setCell (Nat.le_refl _) _).setCell (Nat.le_refl _) _
    have e0 := E.out.1
    have e4 := E.out.2.2.2.2.1
    skip
    go_wp2
    go_roundw
    case rel => exact ⟨1, by omega, (by first | rfl | go_num), HA2, hbw2⟩
    case measure => first | (simp [intOf]; done) | (simp [intOf]; omega)
   ·rw [show ((1 : Nat) : Int) = 1 from rfl]
    have hc1 : wr.cell? ⟨x1.heap.size, 1, none⟩ = some (.int .u16 0) := by rw [cell_of_row wr _ 1 _ _ _ HA.out]; rfl
    have hc2 : wr.cell? ⟨x1.heap.size, 5, none⟩ = some (.int .u16 0) := by rw [cell_of_row wr _ 5 _ _ _ HA.out]; rfl
    have hf1 : wr.frozen? ⟨x1.heap.size, 1, none⟩ = false := zaS HA.out 1
    have hf2 : wr.frozen? ⟨x1.heap.size, 5, none⟩ = false := zaS HA.out 5
    have HA2 : Hid (((wr.setCell ⟨x1.heap.size, 1, none⟩ (.int .u16 a1)).setCell ⟨x1.heap.size, 5, none⟩ (.int .u16 a5)).heap[x1.heap.size]? = some (.cells (arrV a0 a1 a2 a3 a4 a5 a6 a7 2) 112 (0, 0))) := by
     show _ = _
     simp [World.setCell, Array.getElem?_modify, HA.out, arrV]
    have hbw2 : Below x1.heap.size x1 ((wr.setCell ⟨x1.heap.size, 1, none⟩ (.int .u16 a1)).setCell ⟨x1.heap.size, 5, none⟩ (.int .u16 a5)) := (hbw.setCell (Nat.le_refl _) _).setCell (Nat.le_refl _) _
    have e0 := E.out.2.1
    have e4 := E.out.2.2.2.2.2.1
    skip
    go_wp2
    go_roundw
    case rel => exact ⟨2, by omega, (by first | rfl | go_num), HA2, hbw2⟩
    case measure => first | (simp [intOf]; done) | (simp [intOf]; omega)
   ·rw [show ((2 : Nat) : Int) = 2 from rfl]
    have hc1 : wr.cell? ⟨x1.heap.size, 2, none⟩ = some (.int .u16 0) := by rw [cell_of_row wr _ 2 _ _ _ HA.out]; rfl
    have hc2 : wr.cell? ⟨x1.heap.size, 6, none⟩ = some (.int .u16 0) := by rw [cell_of_row wr _ 6 _ _ _ HA.out]; rfl
    have hf1 : wr.frozen? ⟨x1.heap.size, 2, none⟩ = false := zaS HA.out 2
    have hf2 : wr.frozen? ⟨x1.heap.size, 6, none⟩ = false := zaS HA.out 6
    have HA2 : Hid (((wr.setCell ⟨x1.heap.size, 2, none⟩ (.int .u16 a2)).setCell ⟨x1.heap.size, 6, none⟩ (.int .u16 a6)).heap[x1.heap.size]? = some (.cells (arrV a0 a1 a2 a3 a4 a5 a6 a7 3) 112 (0, 0))) := by
     show _ = _
     simp [World.setCell, Array.getElem?_modify, HA.out, arrV]
    have hbw2 : Below x1.heap.size x1 ((wr.setCell ⟨x1.heap.size, 2, none⟩ (.int .u16 a2)).setCell ⟨x1.heap.size, 6, none⟩ (.int .u16 a6)) := (hbw.setCell (Nat.le_refl _) _).setCell (Nat.le_refl _) _
    have e0 := E.out.2.2.1
    have e4 := E.out.2.2.2.2.2.2.1
    skip
    go_wp2
    go_roundw
    case rel => exact ⟨3, by omega, (by first | rfl | go_num), HA2, hbw2⟩
    case measure => first | (simp [intOf]; done) | (simp [intOf]; omega)
   ·rw [show ((3 : Nat) : Int) = 3 from rfl]
    have hc1 : wr.cell? ⟨x1.heap.size, 3, none⟩ = some (.int .u16 0) := by rw [cell_of_row wr _ 3 _ _ _ HA.out]; rfl
    have hc2 : wr.cell? ⟨x1.heap.size, 7, none⟩ = some (.int .u16 0) := by rw [cell_of_row wr _ 7 _ _ _ HA.out]; rfl
    have hf1 : wr.frozen? ⟨x1.heap.size, 3, none⟩ = false := zaS HA.out 3
    have hf2 : wr.frozen? ⟨x1.heap.size, 7, none⟩ = false := zaS HA.out 7
    have HA2 : Hid (((wr.setCell ⟨x1.heap.size, 3, none⟩ (.int .u16 a3)).setCell ⟨x1.heap.size, 7, none⟩ (.int .u16 a7)).heap[x1.heap.size]? = some (.cells (arrV a0 a1 a2 a3 a4 a5 a6 a7 4) 112 (0, 0))) := by
     show _ = _
     simp [World.setCell, Array.getElem?_modify, HA.out, arrV]
    have hbw2 : Below x1.heap.size x1 ((wr.setCell ⟨x1.heap.size, 3, none⟩ (.int .u16 a3)).setCell ⟨x1.heap.size, 7, none⟩ (.int .u16 a7)) := (hbw.setCell (Nat.le_refl _) _).setCell (Nat.le_refl _) _
    have e0 := E.out.2.2.2.1
    have e4 := E.out.2.2.2.2.2.2.2
    rw [Int.ediv_one] at e0 e4
    go_wp2
    go_roundw
    case rel => exact ⟨4, by omega, (by first | rfl | go_num), HA2, hbw2⟩
    case measure => first | (simp [intOf]; done) | (simp [intOf]; omega)
  ·obtain rfl : k = 4 := by omega
   rw [show ((4 : Nat) : Int) = 4 from rfl]
   have hc0 : wr.cell? ⟨x1.heap.size, 0, none⟩ = some (.int .u16 a0) := by rw [cell_of_row wr _ 0 _ _ _ HA.out]; rfl
   have hr0 : wr.cell? ⟨w.heap.size + 1, 0, none⟩ = some (.int .u16 0) := by rw [hbw.cell (p := ⟨w.heap.size + 1, 0, none⟩) hg1, cell_of_row x1 _ 0 _ _ _ HB.out.2]; rfl
   have hf0 : wr.frozen? ⟨w.heap.size + 1, 0, none⟩ = false := (hbw.frozen (p := ⟨w.heap.size + 1, 0, none⟩) hg1).trans (zaS HB.out.2 0)
   have hc1 : wr.cell? ⟨x1.heap.size, 1, none⟩ = some (.int .u16 a1) := by rw [cell_of_row wr _ 1 _ _ _ HA.out]; rfl
   have hr1 : wr.cell? ⟨w.heap.size + 1, 1, none⟩ = some (.int .u16 0) := by rw [hbw.cell (p := ⟨w.heap.size + 1, 1, none⟩) hg1, cell_of_row x1 _ 1 _ _ _ HB.out.2]; rfl
   have hf1 : wr.frozen? ⟨w.heap.size + 1, 1, none⟩ = false := (hbw.frozen (p := ⟨w.heap.size + 1, 1, none⟩) hg1).trans (zaS HB.out.2 1)
   have hc2 : wr.cell? ⟨x1.heap.size, 2, none⟩ = some (.int .u16 a2) := by rw [cell_of_row wr _ 2 _ _ _ HA.out]; rfl
   have hr2 : wr.cell? ⟨w.heap.size + 1, 2, none⟩ = some (.int .u16 0) := by rw [hbw.cell (p := ⟨w.heap.size + 1, 2, none⟩) hg1, cell_of_row x1 _ 2 _ _ _ HB.out.2]; rfl
   have hf2 : wr.frozen? ⟨w.heap.size + 1, 2, none⟩ = false := (hbw.frozen (p := ⟨w.heap.size + 1, 2, none⟩) hg1).trans (zaS HB.out.2 2)
   have hc3 : wr.cell? ⟨x1.heap.size, 3, none⟩ = some (.int .u16 a3) := by rw [cell_of_row wr _ 3 _ _ _ HA.out]; rfl
   have hr3 : wr.cell? ⟨w.heap.size + 1, 3, none⟩ = some (.int .u16 0) := by rw [hbw.cell (p := ⟨w.heap.size + 1, 3, none⟩) hg1, cell_of_row x1 _ 3 _ _ _ HB.out.2]; rfl
   have hf3 : wr.frozen? ⟨w.heap.size + 1, 3, none⟩ = false := (hbw.frozen (p := ⟨w.heap.size + 1, 3, none⟩) hg1).trans (zaS HB.out.2 3)
   have hc4 : wr.cell? ⟨x1.heap.size, 4, none⟩ = some (.int .u16 a4) := by rw [cell_of_row wr _ 4 _ _ _ HA.out]; rfl
   have hr4 : wr.cell? ⟨w.heap.size + 1, 4, none⟩ = some (.int .u16 0) := by rw [hbw.cell (p := ⟨w.heap.size + 1, 4, none⟩) hg1, cell_of_row x1 _ 4 _ _ _ HB.out.2]; rfl
   have hf4 : wr.frozen? ⟨w.heap.size + 1, 4, none⟩ = false := (hbw.frozen (p := ⟨w.heap.size + 1, 4, none⟩) hg1).trans (zaS HB.out.2 4)
   have hc5 : wr.cell? ⟨x1.heap.size, 5, none⟩ = some (.int .u16 a5) := by rw [cell_of_row wr _ 5 _ _ _ HA.out]; rfl
   have hr5 : wr.cell? ⟨w.heap.size + 1, 5, none⟩ = some (.int .u16 0) := by rw [hbw.cell (p := ⟨w.heap.size + 1, 5, none⟩) hg1, cell_of_row x1 _ 5 _ _ _ HB.out.2]; rfl
   have hf5 : wr.frozen? ⟨w.heap.size + 1, 5, none⟩ = false := (hbw.frozen (p := ⟨w.heap.size + 1, 5, none⟩) hg1).trans (zaS HB.out.2 5)
   have hc6 : wr.cell? ⟨x1.heap.size, 6, none⟩ = some (.int .u16 a6) := by rw [cell_of_row wr _ 6 _ _ _ HA.out]; rfl
   have hr6 : wr.cell? ⟨w.heap.size + 1, 6, none⟩ = some (.int .u16 0) := by rw [hbw.cell (p := ⟨w.heap.size + 1, 6, none⟩) hg1, cell_of_row x1 _ 6 _ _ _ HB.out.2]; rfl
   have hf6 : wr.frozen? ⟨w.heap.size + 1, 6, none⟩ = false := (hbw.frozen (p := ⟨w.heap.size + 1, 6, none⟩) hg1).trans (zaS HB.out.2 6)
   have hc7 : wr.cell? ⟨x1.heap.size, 7, none⟩ = some (.int .u16 a7) := by rw [cell_of_row wr _ 7 _ _ _ HA.out]; rfl
   have hr7 : wr.cell? ⟨w.heap.size + 1, 7, none⟩ = some (.int .u16 0) := by rw [hbw.cell (p := ⟨w.heap.size + 1, 7, none⟩) hg1, cell_of_row x1 _ 7 _ _ _ HB.out.2]; rfl
   have hf7 : wr.frozen? ⟨w.heap.size + 1, 7, none⟩ = false := (hbw.frozen (p := ⟨w.heap.size + 1, 7, none⟩) hg1).trans (zaS HB.out.2 7)
   have hbf : Below w.heap.size w wr := hbw1.trans (hbw.mono (by omega))
   go_wp2
   exact bodyPost_ret (v := .agg #[.int .u16 a0, .int .u16 a1, .int .u16 a2, .int .u16 a3, .int .u16 a4, .int .u16 a5, .int .u16 a6, .int .u16 a7]) (by simp [results, Tryz.results89, go_sem, hr0, hr1, hr2, hr3, hr4, hr5, hr6, hr7]) rfl ⟨rfl, (((((((hbf.setCell (by show _ ≤ w.heap.size + 1; omega) _).setCell (by show _ ≤ w.heap.size + 1; omega) _).setCell (by show _ ≤ w.heap.size + 1; omega) _).setCell (by show _ ≤ w.heap.size + 1; omega) _).setCell (by show _ ≤ w.heap.size + 1; omega) _).setCell (by show _ ≤ w.heap.size + 1; omega) _).setCell (by show _ ≤ w.heap.size + 1; omega) _).setCell (by show _ ≤ w.heap.size + 1; omega) _⟩
theorem zbB (hi lo : Int) (w : World) :
  Calls Tryz.prog 163 #[.agg #[.int .u64 hi, .int .u64 lo]] w fun e w' => e = .returned (.tuple #[.int .u64 hi, .int .u64 lo]) ∧ Below w.heap.size w w' := by
 go_enter Tryz.func163, Tryz.ntmps163
 go_wp2
 go_quiet (fail)
 go_wp2
 go_ret2
 exact ⟨rfl, zbC ((Below.refl _ w).alloc (Nat.le_refl _) _) _⟩
end
section
open Go.RowKit
/-- what is known of the first pieces: where the row under way begins; the longest one's ends -/
def zxI (st : Nat × Nat × Nat) (kx : Nat × Bool) : Nat × Nat × Nat :=
 if kx.2 = false then (kx.1 + 1, st.2) else if 1 < kx.1 + 1 - st.1 ∧ st.2.2 - st.2.1 < kx.1 + 1 - st.1 then (st.1, st.1, kx.1 + 1) else st
def lrAt (bs : List Bool) : Nat → Nat × Nat × Nat
 | 0 => (0, 0, 0)
 | k + 1 => zxI (lrAt bs k) (k, bs.getD k false)
theorem z2D (bs : List Bool) (k : Nat) : (lrAt bs k).1 ≤ k ∧ (lrAt bs k).2.1 ≤ (lrAt bs k).2.2 ∧ (lrAt bs k).2.2 ≤ k := by
 induction k with
 | zero => exact ⟨Nat.le_refl _, Nat.le_refl _, Nat.le_refl _⟩
 | succ k ih =>
  obtain ⟨h1, h2, h3⟩ := ih
  unfold lrAt zxI
  split
  ·exact ⟨Nat.le_refl _, h2, by show (lrAt bs k).2.2 ≤ k + 1; omega⟩
  ·split
   ·exact ⟨by show (lrAt bs k).1 ≤ k + 1; omega, by show (lrAt bs k).1 ≤ k + 1; omega, Nat.le_refl _⟩
   ·exact ⟨by omega, h2, by omega⟩
def zbX (p : List Int) : List Bool := p.map fun x => decide (x = 0)
theorem lr_no {bs : List Bool} {k s f t : Nat} (h : lrAt bs k = (s, f, t)) (hb : bs.getD k false = false) : lrAt bs (k + 1) = (k + 1, f, t) := by
 rw [lrAt, h, hb]; rfl
theorem lr_yes {bs : List Bool} {k s f t : Nat} (h : lrAt bs k = (s, f, t)) (hb : bs.getD k false = true) (hc : 1 < k + 1 - s ∧ t - f < k + 1 - s) : lrAt bs (k + 1) = (s, s, k + 1) := by
 rw [lrAt, h, hb]; unfold zxI; rw [if_neg (by simp), if_pos hc]
theorem ybQ {bs : List Bool} {k s f t : Nat} (h : lrAt bs k = (s, f, t)) (hb : bs.getD k false = true) (hc : ¬ (1 < k + 1 - s ∧ t - f < k + 1 - s)) : lrAt bs (k + 1) = (s, f, t) := by
 rw [lrAt, h, hb]; unfold zxI; rw [if_neg (by simp), if_neg hc]
theorem index8 (W : World) (a0 a1 a2 a3 a4 a5 a6 a7 : Int) (k : Nat) (hk : k < 8) : (Instr.index 112 (.agg #[.int .u16 a0, .int .u16 a1, .int .u16 a2, .int .u16 a3, .int .u16 a4, .int .u16 a5, .int .u16 a6, .int .u16 a7]) (.int .i64 (k : Int))).run Tryz.prog W = .ok (.int .u16 ([a0, a1, a2, a3, a4, a5, a6, a7].getD k 0)) W := by
 rcases (show k = 0 ∨ k = 1 ∨ k = 2 ∨ k = 3 ∨ k = 4 ∨ k = 5 ∨ k = 6 ∨ k = 7 from by omega) with rfl | rfl | rfl | rfl | rfl | rfl | rfl | rfl
 all_goals simp [Instr.index, run_underlying Tryz.underlying112, asIntOf, go_sem, Tryz.sizeOf111, Tryz.isAgg111]
theorem zvG (a0 a1 a2 a3 a4 a5 a6 a7 : Int) (w : World) :
  Calls Tryz.prog 90 #[.agg #[.int .u16 a0, .int .u16 a1, .int .u16 a2, .int .u16 a3, .int .u16 a4, .int .u16 a5, .int .u16 a6, .int .u16 a7]] w fun e w' =>
   e = .returned (.tuple #[.int .i64 ((lrAt (zbX [a0, a1, a2, a3, a4, a5, a6, a7]) 8).2.1 : Int), .int .i64 ((lrAt (zbX [a0, a1, a2, a3, a4, a5, a6, a7]) 8).2.2 : Int)]) ∧ Below w.heap.size w w' := by
 obtain ⟨p, hp⟩ : ∃ p, [a0, a1, a2, a3, a4, a5, a6, a7] = p := ⟨_, rfl⟩
 have hpl : p.length = 8 := by rw [← hp]; rfl
 have HIX : Hid (∀ (k : Nat) (_ : k < 8) (W : World), (Instr.index 112 (.agg #[.int .u16 a0, .int .u16 a1, .int .u16 a2, .int .u16 a3, .int .u16 a4, .int .u16 a5, .int .u16 a6, .int .u16 a7]) (.int .i64 (k : Int))).run Tryz.prog W = .ok (.int .u16 (p.getD k 0)) W) := fun k hk W => by
  rw [← hp]; exact index8 W a0 a1 a2 a3 a4 a5 a6 a7 k hk
 rw [hp]
 have HZ : Hid (∀ k, k < 8 → (zbX p).getD k false = decide (p.getD k 0 = 0)) := fun k hk => by
  simp [zbX, List.getD, hpl, hk]
 clear hp hpl
 have hb0 : Below w.heap.size w (w.alloc (.cells #[.int .u16 a0, .int .u16 a1, .int .u16 a2, .int .u16 a3, .int .u16 a4, .int .u16 a5, .int .u16 a6, .int .u16 a7] 112)) := (Below.refl _ w).alloc (Nat.le_refl _) _
 go_enter Tryz.func90, Tryz.ntmps90
 go_wp2
 go_loop [2, 3, 4, 9] (fun f t s i => ∃ (k S F T : Nat), k ≤ 8 ∧ i = .int .i64 k ∧ s = .int .i64 S ∧ f = .int .i64 F ∧ t = .int .i64 T ∧ S ≤ k ∧ F ≤ T ∧ T ≤ k ∧ Hid (lrAt (zbX p) k = (S, F, T))) (fun _ _ _ i => 8 - (intOf i).toNat)
 case atStart => exact ⟨0, 0, 0, 0, by omega, rfl, rfl, rfl, rfl, by omega, by omega, by omega, rfl⟩
 case round =>
  obtain ⟨k, S, F, T, hk, rfl, rfl, rfl, rfl, hS, hF, hT, HL⟩ := hrel
  by_cases hk8 : k < 8
  ·have hix := HIX.out k hk8
   have hz := HZ.out k hk8
   generalize p.getD k 0 = x at *
   by_cases hx : x = 0
   ·subst hx
    have HB := Lib.hid (show (zbX p).getD k false = true from by rw [hz]; rfl)
    clear hz
    have hx0 : ((0 : Int) != 0) = false := by decide
    by_cases hc : 1 < k + 1 - S ∧ T - F < k + 1 - S
    ·have HL2 := Lib.hid (lr_yes HL.out HB.out hc)
     have hc1 : decide ((1 : Int) < (k : Int) + 1 - (S : Int)) = true := decide_eq_true (by omega)
     have hc2 : decide ((T : Int) - (F : Int) < (k : Int) + 1 - (S : Int)) = true := decide_eq_true (by omega)
     clear hc
     go_wp2
     go_round
     case rel => exact ⟨k + 1, S, S, k + 1, by omega, by go_num, rfl, rfl, by go_num, by omega, by omega, by omega, HL2⟩
     case measure => simp [intOf]; omega
    ·have HL2 := Lib.hid (ybQ HL.out HB.out hc)
     by_cases hd : 1 < k + 1 - S
     ·have hc1 : decide ((1 : Int) < (k : Int) + 1 - (S : Int)) = true := decide_eq_true (by omega)
      have hc2 : decide ((T : Int) - (F : Int) < (k : Int) + 1 - (S : Int)) = false := decide_eq_false (by omega)
      clear hc hd
      go_wp2
      go_round
      case rel => exact ⟨k + 1, S, F, T, by omega, by go_num, rfl, rfl, rfl, by omega, by omega, by omega, HL2⟩
      case measure => simp [intOf]; omega
     ·have hc1 : decide ((1 : Int) < (k : Int) + 1 - (S : Int)) = false := decide_eq_false (by omega)
      clear hc hd
      go_wp2
      go_round
      case rel => exact ⟨k + 1, S, F, T, by omega, by go_num, rfl, rfl, rfl, by omega, by omega, by omega, HL2⟩
      case measure => simp [intOf]; omega
   ·have HB := Lib.hid (show (zbX p).getD k false = false from by rw [hz]; exact decide_eq_false hx)
    have HL2 := Lib.hid (lr_no HL.out HB.out)
    have hx0 : (x != 0) = true := by rw [bne_iff_ne]; exact hx
    clear hz
    go_wp2
    go_round
    case rel => exact ⟨k + 1, k + 1, F, T, by omega, by go_num, by go_num, rfl, rfl, by omega, by omega, by omega, HL2⟩
    case measure => simp [intOf]; omega
  ·obtain rfl : k = 8 := by omega
   go_wp2
   go_ret2
   exact ⟨by rw [HL.out]; rfl, hb0⟩
end
section
open Go.RowKit
def hexI (x : Int) : List UInt8 := hexD x.toNat
def zbD (l : List Int) : List UInt8 := Lib.join (l.map hexI) [58]
theorem zxW (u : Nat) (h : u < 65536) : (hexD u).length ≤ 4 := by
 by_cases h1 : u < 16
 ·rw [zfZ u h1]; simp
 ·rw [ziT u (by omega), List.length_append, List.length_singleton]
  by_cases h2 : u / 16 < 16
  ·rw [zfZ _ h2]; simp
  ·rw [ziT _ (by omega), List.length_append, List.length_singleton]
   by_cases h3 : u / 16 / 16 < 16
   ·rw [zfZ _ h3]; simp
   ·rw [ziT _ (by omega), List.length_append, List.length_singleton, zfZ _ (by omega)]; simp
theorem zlK {x : Int} (h : 0 ≤ x ∧ x ≤ 65535) : (hexI x).length ≤ 4 := zxW _ (by omega)
theorem z7A (sep : List UInt8) (hs : sep.length = 1) (ps : List (List UInt8)) (h : ∀ p ∈ ps, p.length ≤ 4) : (Lib.join ps sep).length ≤ 5 * ps.length := by
 induction ps with
 | nil => simp [Lib.join]
 | cons p r ih =>
  have h1 := h p (by simp)
  have h2 := ih fun q hq => h q (by simp [hq])
  cases r with
  | nil => simp [Lib.join]; omega
  | cons q r =>
   have e : Lib.join (p :: q :: r) sep = p ++ sep ++ Lib.join (q :: r) sep := by simp [Lib.join, List.intercalate]
   rw [e, List.length_append, List.length_append, List.length_cons, hs]
   omega
theorem zeZ {l : List Int} (h : In16 l) : (zbD l).length ≤ 5 * l.length := by
 have := z7A [58] rfl (l.map hexI) (fun p hp => by
  obtain ⟨x, hx, rfl⟩ := List.mem_map.1 hp
  exact zlK (h x hx))
 rwa [List.length_map] at this
theorem z9H {w : World} {g : Nat} {t : TypeId} {a r : List Value} {y : Value} (x : Value) (h : w.heap[g]? = some (.cells (a ++ y :: r).toArray t (0, 0))) :
  (w.setCell ⟨g, a.length, none⟩ x).heap[g]? = some (.cells (a ++ x :: r).toArray t (0, 0)) := by
 have e : ((a ++ y :: r).toArray).setIfInBounds a.length x = (a ++ x :: r).toArray := by
  apply Array.ext'
  simp
 rw [← e]
 simp [World.setCell, Array.getElem?_modify, h]
theorem zqM (n : Nat) : madeCells (Value.string ⟨#[]⟩).cells n = (List.replicate n (Value.string ⟨#[]⟩)).toArray := by
 unfold madeCells
 have e : (Value.string ⟨#[]⟩).cells = #[.string ⟨#[]⟩] := rfl
 rw [e]
 apply Array.ext'
 simp only [Array.toList_map]
 apply List.ext_getElem
 ·simp
 ·intro i h1 h2
  simp [Nat.mod_one]
theorem ycV (n : Nat) (hn : n ≤ 1073741824) (W : World) : (Instr.makeSlice 34 (.int .i64 (n : Int)) (.int .i64 (n : Int))).run Tryz.prog W = .ok (.slice (some ⟨W.heap.size, 0, none⟩) n n) (W.alloc (.cells (List.replicate n (Value.string ⟨#[]⟩)).toArray 9)) := by
 obtain ⟨i0, hi, hz0, hz1, hz2⟩ := info_parts Tryz.infoStr
 rw [run_make W 34 9 i0 (.string ⟨#[]⟩) Tryz.underlying34 hi hz0 .i64 .i64 n n (by omega) (by omega) (by rw [hz2]; omega) (by omega), hz1, Int.toNat_natCast, Nat.mul_one, zqM]
/-- the slice's cells are these numbers -/
def zfA (w : World) (ao : Option Addr) (k : IntKind) (l : List Int) : Prop := ∀ j, j < l.length → ∃ g o, ao = some ⟨g, o, none⟩ ∧ w.cell? ⟨g, o + j, none⟩ = some (.int k (l.getD j 0))
theorem zfA.below {w w' : World} {ao : Option Addr} {k : IntKind} {l : List Int} (h : zfA w ao k l) (hb : Below w.heap.size w w') : zfA w' ao k l := fun j hj => by
 obtain ⟨g, o, h1, h2⟩ := h j hj
 exact ⟨g, o, h1, (hb.cell (World.block_lt_of_cell? w _ h2)).trans h2⟩
theorem zzS (T : List Int) (k : Nat) (hk : k < T.length) (r : List Value) : (T.take (k + 1)).map (fun x => strC (hexI x)) ++ r = (T.take k).map (fun x => strC (hexI x)) ++ strC (hexI (T.getD k 0)) :: r := by
 rw [List.take_succ_eq_append_getElem hk, List.getD, List.getElem?_eq_getElem hk, List.map_append, List.append_assoc]
 rfl
theorem zhO (ao : Option Addr) (c : Nat) (l : List Int) (w : World) (hsl : zfA w ao .u16 l) (hin : In16 l) (hlen : l.length ≤ 1000) (htab : BruTab w) :
  Calls Tryz.prog 91 #[.slice ao l.length c] w (zgN w (zbD l)) := by
 have HSL := Lib.hid hsl
 have HIN := Lib.hid hin
 have HT := Lib.hid htab
 clear hsl hin htab
 have hmk := ycV l.length (by omega)
 have HB0 : Hid ((w.alloc (.cells (List.replicate l.length (Value.string ⟨#[]⟩)).toArray 9)).heap[w.heap.size]? = some (.cells ((l.take 0).map (fun x => strC (hexI x)) ++ List.replicate (l.length - 0) (Value.string ⟨#[]⟩)).toArray 9 (0, 0))) := by
  show _ = _
  simpa using heap_alloc_new w (.cells (List.replicate l.length (Value.string ⟨#[]⟩)).toArray 9)
 have hbA : Below w.heap.size w (w.alloc (.cells (List.replicate l.length (Value.string ⟨#[]⟩)).toArray 9)) := (Below.refl _ w).alloc (Nat.le_refl _) _
 go_enter Tryz.func91, Tryz.ntmps91
 go_wp2
 clear hmk
 go_loopw [11] (fun i wr => ∃ k : Nat, k ≤ l.length ∧ i = .int .i64 k ∧ Hid (wr.heap[w.heap.size]? = some (.cells ((l.take k).map (fun x => strC (hexI x)) ++ List.replicate (l.length - k) (Value.string ⟨#[]⟩)).toArray 9 (0, 0))) ∧ Below w.heap.size w wr ∧ w.heap.size < wr.heap.size) (fun i _ => l.length - (intOf i).toNat)
 case atStart => exact ⟨0, by omega, rfl, HB0, hbA, by simp⟩
 case round =>
  obtain ⟨k, hk, rfl, HA, hbw, hsz⟩ := hrel
  by_cases hkl : k < l.length
  ·obtain ⟨g, o, rfl, hc⟩ := HSL.out k hkl
   have hcx : wr.cell? ⟨g, o + k, none⟩ = some (.int .u16 (l.getD k 0)) := (hbw.cell (World.block_lt_of_cell? w _ hc)).trans hc
   have hput0 : ∀ W : World, W.heap[w.heap.size]? = some (.cells ((l.take k).map (fun x => strC (hexI x)) ++ List.replicate (l.length - k) (Value.string ⟨#[]⟩)).toArray 9 (0, 0)) →
     (W.setCell ⟨w.heap.size, k, none⟩ (strC (hexI (l.getD k 0)))).heap[w.heap.size]? = some (.cells ((l.take (k + 1)).map (fun x => strC (hexI x)) ++ List.replicate (l.length - (k + 1)) (Value.string ⟨#[]⟩)).toArray 9 (0, 0)) := fun W hW => by
    have h2 := z9H (a := (l.take k).map (fun x => strC (hexI x))) (r := List.replicate (l.length - (k + 1)) (Value.string ⟨#[]⟩)) (strC (hexI (l.getD k 0))) (show W.heap[w.heap.size]? = some (.cells ((l.take k).map (fun x => strC (hexI x)) ++ (Value.string ⟨#[]⟩) :: List.replicate (l.length - (k + 1)) (Value.string ⟨#[]⟩)).toArray 9 (0, 0)) from by
     rwa [show l.length - k = (l.length - (k + 1)) + 1 from by omega, List.replicate_succ] at hW)
    rwa [← zzS l k hkl, List.length_map, List.length_take, show min k l.length = k from by omega] at h2
   have HPUT := Lib.hid hput0
   have hxb := HIN.out.getD k
   have hold : ∃ old, wr.cell? ⟨w.heap.size, k, none⟩ = some old := by
    rw [cell_of_row wr _ k _ _ _ HA.out]
    exact ⟨_, Array.getElem?_eq_getElem (by simp; omega)⟩
   obtain ⟨old, hold⟩ := hold
   have HOLD := Lib.hid hold
   have HFZ := Lib.hid (zaS HA.out k)
   clear hc hput0 hold
   obtain ⟨x, hx⟩ : ∃ x, l.getD k 0 = x := ⟨_, rfl⟩
   rw [hx] at hcx hxb HPUT
   obtain ⟨hx0, hx1⟩ := hxb
   obtain ⟨u, rfl⟩ : ∃ u : Nat, x = (u : Int) := ⟨x.toNat, by omega⟩
   clear hx
   go_wp2_with fail
   refine (zzZ u (by omega) _ (zaY HT.out hbw)).mono ?_
   rintro e w2 ⟨rfl, hb2⟩
   have hA2 : w2.heap[w.heap.size]? = _ := (hb2.block w.heap.size hsz).trans HA.out
   have HA3 := Lib.hid (HPUT.out w2 hA2)
   have hc2 : w2.cell? ⟨w.heap.size, k, none⟩ = some old := (hb2.cell (p := ⟨w.heap.size, k, none⟩) hsz).trans HOLD.out
   have hf2 : w2.frozen? ⟨w.heap.size, k, none⟩ = false := (hb2.frozen (p := ⟨w.heap.size, k, none⟩) hsz).trans HFZ.out
   have hbw2 : Below w.heap.size w (w2.setCell ⟨w.heap.size, k, none⟩ (strC (hexI (u : Int)))) := (hbw.trans (hb2.mono hbw.size)).setCell (Nat.le_refl _) _
   have hsz2 : w.heap.size < (w2.setCell ⟨w.heap.size, k, none⟩ (strC (hexI (u : Int)))).heap.size := by simp [World.setCell]; exact Nat.lt_of_lt_of_le hsz hb2.size
   clear hA2 hb2
   go_wp2
   go_roundw
   case rel => exact ⟨k + 1, by omega, by go_num, HA3, hbw2, hsz2⟩
   case measure => simp [intOf]; omega
  ·obtain rfl : k = l.length := by omega
   have HXS : Hid (∀ (j : Nat) x, (l.map (fun x => ByteArray.mk (hexI x).toArray))[j]? = some x → wr.cell? ⟨w.heap.size, 0 + j, none⟩ = some (.string x)) := fun j x hj => by
    rw [Nat.zero_add, cell_of_row wr _ j _ _ _ HA.out]
    rw [List.take_of_length_le (Nat.le_refl _), Nat.sub_self, List.replicate_zero, List.append_nil]
    rw [List.getElem?_map] at hj
    simp only [Option.map_eq_some_iff] at hj
    obtain ⟨y, hy, rfl⟩ := hj
    simp [hy, strC]
   have hjl := zeZ HIN.out
   have hmap : (l.map (fun x => ByteArray.mk (hexI x).toArray)).map (fun x => x.data.toList) = l.map hexI := by simp [Function.comp_def]
   have HMAP := Lib.hid hmap
   have hll : (l.map (fun x => ByteArray.mk (hexI x).toArray)).length = l.length := by simp
   have HLL := Lib.hid hll
   clear hmap hll
   have hjoin := Tryz.strings_Join w.heap.size 0 l.length (l.map (fun x => ByteArray.mk (hexI x).toArray)) ⟨#[58]⟩ wr HXS.out hsz (by rw [HLL.out]; omega) (by rw [HLL.out]; exact Nat.le_refl _) (by rw [HMAP.out]; exact Nat.le_trans hjl (by omega))
   rw [HMAP.out, HLL.out] at hjoin
   have HJ := Lib.hid hjoin
   clear hjoin
   go_wp2_with fail
   refine HJ.out.mono ?_
   rintro e w3 ⟨rfl, hb3⟩
   go_wp2
   go_ret
   exact ⟨rfl, hbw.trans (hb3.mono hbw.size)⟩
end
section
open Go.RowKit
def zjN (p : List Int) : List UInt8 :=
 if (lrAt (zbX p) 8).2.1 = (lrAt (zbX p) 8).2.2 then zbD p else zbD (p.take (lrAt (zbX p) 8).2.1) ++ [58, 58] ++ zbD (p.drop (lrAt (zbX p) 8).2.2)
def zcV (hi lo : Int) : List UInt8 := zjN (pcs hi lo)
theorem z6Q (B T : Nat) (hT : T ≤ 8) : ∃ ao, (∀ W, (Instr.sliceAt 112 (.pointer (some ⟨B, 0, none⟩)) (some (.int .i64 (T : Int))) none none).run Tryz.prog W = .ok (.slice ao (8 - T) (8 - T)) W) ∧ (T < 8 → ao = some ⟨B, T, none⟩) := by
 have hal : Tryz.prog.arrayLen 112 = 8 := by simp [Program.arrayLen, Tryz.underlying112]
 by_cases h8 : T = 8
 ·subst h8
  refine ⟨some ⟨B, 0, none⟩, fun W => ?_, fun h => by omega⟩
  rw [run_sliceAt_array_l W 112 ⟨B, 0, none⟩ (by simp [Program.arrayLen, Program.elem, Tryz.underlying112]) .i64 _ (by omega) (by rw [hal]; omega), hal]
  go_simp
 ·refine ⟨some ⟨B, T, none⟩, fun W => ?_, fun _ => rfl⟩
  rw [run_sliceAt_array_l W 112 ⟨B, 0, none⟩ (by simp [Program.arrayLen, Program.elem, Tryz.underlying112]) .i64 _ (by omega) (by rw [hal]; omega), hal]
  go_simp
  omega
theorem zzE (B F : Nat) (hF : F ≤ 8) (W : World) : (Instr.sliceAt 112 (.pointer (some ⟨B, 0, none⟩)) none (some (.int .i64 (F : Int))) none).run Tryz.prog W = .ok (.slice (some ⟨B, 0, none⟩) F 8) W := by
 have hal : Tryz.prog.arrayLen 112 = 8 := by simp [Program.arrayLen, Tryz.underlying112]
 rw [run_sliceAt_array_h W 112 ⟨B, 0, none⟩ (by simp [Program.arrayLen, Program.elem, Tryz.underlying112]) .i64 _ (by omega) (by rw [hal]; omega), hal]
 go_simp
theorem zfA.of_row {w : World} {g o : Nat} {k : IntKind} {l : List Int} (h : ∀ j, j < l.length → w.cell? ⟨g, o + j, none⟩ = some (.int k (l.getD j 0))) : zfA w (some ⟨g, o, none⟩) k l := fun j hj => ⟨g, o, rfl, h j hj⟩
theorem In16.take {l : List Int} (h : In16 l) (n : Nat) : In16 (l.take n) := fun x hx => h x (List.mem_of_mem_take hx)
theorem In16.drop {l : List Int} (h : In16 l) (n : Nat) : In16 (l.drop n) := fun x hx => h x (List.mem_of_mem_drop hx)
theorem zoX (l : List Int) (n j : Nat) (h : j < n) : (l.take n).getD j 0 = l.getD j 0 := by simp [List.getD, h]
theorem zoQ (l : List Int) (n j : Nat) : (l.drop n).getD j 0 = l.getD (n + j) 0 := by simp [List.getD]
theorem zbW (x : World) : Below x.heap.size x x.drew := (Below.refl _ _).drew
theorem zgV {x w : World} (h : Below x.drew.heap.size x.drew w) : Below x.heap.size x w := (Below.refl _ _).drew.trans h
theorem zlZ (p : List Int) : (lrAt (zbX p) 8).2.1 ≤ (lrAt (zbX p) 8).2.2 ∧ (lrAt (zbX p) 8).2.2 ≤ 8 := (z2D _ 8).2
theorem zmK (hi lo : Int) (w : World) (h0 : 0 ≤ hi) (h1 : hi ≤ 18446744073709551615) (l0 : 0 ≤ lo) (l1 : lo ≤ 18446744073709551615) (htab : BruTab w) :
  Calls Tryz.prog 62 #[.agg #[.int .u64 hi, .int .u64 lo]] w (zgN w (zcV hi lo)) := by
 have HT := Lib.hid htab
 clear htab
 have hb0 : Below w.heap.size w (w.alloc (.cells #[.int .u64 hi, .int .u64 lo] 73)) := (Below.refl _ w).alloc (Nat.le_refl _) _
 have HT0 := Lib.hid (zaY HT.out hb0)
 go_enter Tryz.func62, Tryz.ntmps62
 go_wp2_with fail
 refine (zwS hi lo _ h0 h1 l0 l1).mono ?_
 rintro e x1 ⟨rfl, hb1⟩
 have HT1 := Lib.hid (zaY HT0.out hb1)
 have hc1 : Below w.heap.size w x1 := hb0.trans (hb1.mono hb0.size)
 have HIN := Lib.hid (zoR h0 h1 l0 l1)
 clear hb0 hb1
 obtain ⟨p, hp⟩ : ∃ p, pcs hi lo = p := ⟨_, rfl⟩
 have HTX : Hid (zcV hi lo = zjN p) := by show zcV hi lo = zjN p; rw [zcV, hp]
 rw [hp] at HIN
 unfold pcs at hp
 obtain ⟨a0, ha0⟩ : ∃ a, hi / 281474976710656 = a := ⟨_, rfl⟩
 obtain ⟨a1, ha1⟩ : ∃ a, hi / 4294967296 % 65536 = a := ⟨_, rfl⟩
 obtain ⟨a2, ha2⟩ : ∃ a, hi / 65536 % 65536 = a := ⟨_, rfl⟩
 obtain ⟨a3, ha3⟩ : ∃ a, hi % 65536 = a := ⟨_, rfl⟩
 obtain ⟨a4, ha4⟩ : ∃ a, lo / 281474976710656 = a := ⟨_, rfl⟩
 obtain ⟨a5, ha5⟩ : ∃ a, lo / 4294967296 % 65536 = a := ⟨_, rfl⟩
 obtain ⟨a6, ha6⟩ : ∃ a, lo / 65536 % 65536 = a := ⟨_, rfl⟩
 obtain ⟨a7, ha7⟩ : ∃ a, lo % 65536 = a := ⟨_, rfl⟩
 rw [ha0, ha1, ha2, ha3, ha4, ha5, ha6, ha7] at hp ⊢
 clear ha0 ha1 ha2 ha3 ha4 ha5 ha6 ha7
 have hb2 : Below x1.heap.size x1 (x1.alloc (.cells #[.int .u16 a0, .int .u16 a1, .int .u16 a2, .int .u16 a3, .int .u16 a4, .int .u16 a5, .int .u16 a6, .int .u16 a7] 112)) := (Below.refl _ x1).alloc (Nat.le_refl _) _
 have hB : (x1.alloc (.cells #[.int .u16 a0, .int .u16 a1, .int .u16 a2, .int .u16 a3, .int .u16 a4, .int .u16 a5, .int .u16 a6, .int .u16 a7] 112)).heap[x1.heap.size]? = some (.cells #[.int .u16 a0, .int .u16 a1, .int .u16 a2, .int .u16 a3, .int .u16 a4, .int .u16 a5, .int .u16 a6, .int .u16 a7] 112 (0, 0)) := heap_alloc_new x1 _
 have HP := Lib.hid hp
 have hpl : p.length = 8 := by rw [← hp]; rfl
 have HPL := Lib.hid hpl
 have hcl : ∀ j, j < 8 → (x1.alloc (.cells #[.int .u16 a0, .int .u16 a1, .int .u16 a2, .int .u16 a3, .int .u16 a4, .int .u16 a5, .int .u16 a6, .int .u16 a7] 112)).cell? ⟨x1.heap.size, j, none⟩ = some (.int .u16 (p.getD j 0)) := fun j hj => by
  rw [cell_of_row _ _ j _ _ _ hB, ← hp]
  rcases (show j = 0 ∨ j = 1 ∨ j = 2 ∨ j = 3 ∨ j = 4 ∨ j = 5 ∨ j = 6 ∨ j = 7 from by omega) with rfl | rfl | rfl | rfl | rfl | rfl | rfl | rfl <;> rfl
 have hsz2 : x1.heap.size < (x1.alloc (.cells #[.int .u16 a0, .int .u16 a1, .int .u16 a2, .int .u16 a3, .int .u16 a4, .int .u16 a5, .int .u16 a6, .int .u16 a7] 112)).heap.size := by simp
 have HCL := Lib.hid hcl
 have HT2 := Lib.hid (zaY HT1.out hb2)
 have hc2 : Below w.heap.size w (x1.alloc (.cells #[.int .u16 a0, .int .u16 a1, .int .u16 a2, .int .u16 a3, .int .u16 a4, .int .u16 a5, .int .u16 a6, .int .u16 a7] 112)) := hc1.trans (hb2.mono hc1.size)
 clear hp hpl hcl hB hb2
 go_wp2_with fail
 generalize x1.alloc (.cells #[.int .u16 a0, .int .u16 a1, .int .u16 a2, .int .u16 a3, .int .u16 a4, .int .u16 a5, .int .u16 a6, .int .u16 a7] 112) = x2 at *
 refine (zvG a0 a1 a2 a3 a4 a5 a6 a7 _).mono ?_
 rw [HP.out]
 rintro e x3 ⟨rfl, hb3⟩
 have hlr := zlZ p
 have HTP : Hid (zjN p = if (lrAt (zbX p) 8).2.1 = (lrAt (zbX p) 8).2.2 then zbD p else zbD (p.take (lrAt (zbX p) 8).2.1) ++ [58, 58] ++ zbD (p.drop (lrAt (zbX p) 8).2.2)) := rfl
 generalize (lrAt (zbX p) 8).2.1 = F at *
 generalize (lrAt (zbX p) 8).2.2 = T at *
 obtain ⟨hFT, hT8⟩ := hlr
 have HT3 := Lib.hid (zaY HT2.out hb3)
 have hc3 : Below w.heap.size w x3 := hc2.trans (hb3.mono hc2.size)
 have HCL3 : Hid (∀ j, j < 8 → x3.cell? ⟨x1.heap.size, j, none⟩ = some (.int .u16 (p.getD j 0))) := fun j hj => (hb3.cell (p := ⟨x1.heap.size, j, none⟩) hsz2).trans (HCL.out j hj)
 have hsz3 : x1.heap.size < x3.heap.size := Nat.lt_of_lt_of_le hsz2 hb3.size
 clear hb3 hc2 hc1 hsz2
 generalize x1.heap.size = B at *
 by_cases hFe : F = T
 ·subst hFe
  have HE := Lib.hid (HTX.out.trans (HTP.out.trans (if_pos rfl)))
  have HW : Hid (Calls Tryz.prog 91 #[.slice (some ⟨B, 0, none⟩) 8 8] x3 (zgN x3 (zbD p))) := by
   show Calls _ _ _ _ _
   rw [show (8 : Nat) = p.length from HPL.out.symm]
   exact zhO _ _ p x3 (zfA.of_row fun j hj => by rw [Nat.zero_add]; exact HCL3.out j (by rw [HPL.out] at hj; exact hj)) HIN.out (by rw [HPL.out]; omega) HT3.out
  go_wp2_with fail
  refine HW.out.mono ?_
  rintro e x4 ⟨rfl, hb4⟩
  go_wp2
  go_ret
  exact ⟨congrArg (fun l : List UInt8 => Ending.returned (.string ⟨l.toArray⟩)) HE.out.symm, hc3.trans (hb4.mono hc3.size)⟩
 ·have HE := Lib.hid (HTX.out.trans (HTP.out.trans (if_neg hFe)))
  have hbe : ((F : Int) == (T : Int)) = false := by rw [beq_eq_false_iff_ne]; omega
  obtain ⟨ao, hs2, hao⟩ := z6Q B T hT8
  have hs1 := zzE B F (by omega)
  have HWA : Hid (∀ W, Below x3.heap.size x3 W → Calls Tryz.prog 91 #[.slice (some ⟨B, 0, none⟩) F 8] W (zgN W (zbD (p.take F)))) := fun W hW => by
   have hl : (p.take F).length = F := by rw [List.length_take, HPL.out]; omega
   have hq := zhO (some ⟨B, 0, none⟩) 8 (p.take F) W (zfA.of_row fun j hj => by
    rw [Nat.zero_add, zoX p F j (by omega)]
    exact (hW.cell (p := ⟨B, j, none⟩) hsz3).trans (HCL3.out j (by omega))) (HIN.out.take F) (by omega) (zaY HT3.out hW)
   rwa [hl] at hq
  have HWB : Hid (∀ W, Below x3.heap.size x3 W → Calls Tryz.prog 91 #[.slice ao (8 - T) (8 - T)] W (zgN W (zbD (p.drop T)))) := fun W hW => by
   have hl : (p.drop T).length = 8 - T := by rw [List.length_drop, HPL.out]
   have hq := zhO ao (8 - T) (p.drop T) W (fun j hj => by
    rw [hl] at hj
    refine ⟨B, T, hao (by omega), ?_⟩
    rw [zoQ p T j]
    exact (hW.cell (p := ⟨B, T + j, none⟩) hsz3).trans (HCL3.out (T + j) (by omega))) (HIN.out.drop T) (by omega) (zaY HT3.out hW)
   rwa [hl] at hq
  clear hao hFe
  have hl1 : (zbD (p.take F)).length ≤ 40 := Nat.le_trans (zeZ (HIN.out.take F)) (by rw [List.length_take]; omega)
  have hl2 : (zbD (p.drop T)).length ≤ 40 := Nat.le_trans (zeZ (HIN.out.drop T)) (by rw [List.length_drop, HPL.out]; omega)
  generalize zbD (p.take F) = X at *
  generalize zbD (p.drop T) = Y at *
  have hadd1 : ∀ W, (Op.stringOp .add ⟨X.toArray⟩ ⟨#[58, 58]⟩).run Tryz.prog W = .ok (.string ⟨(X ++ [58, 58]).toArray⟩) W := fun W => by
   rw [run_string_add_sum W _ _ (by rw [zaD]; show X.length + 2 ≤ _; omega), show (ByteArray.mk #[58, 58]) = ByteArray.mk [58, 58].toArray from rfl, cat2]
  have hadd2 : ∀ W, (Op.stringOp .add ⟨(X ++ [58, 58]).toArray⟩ ⟨Y.toArray⟩).run Tryz.prog W = .ok (.string ⟨(X ++ [58, 58] ++ Y).toArray⟩) W := fun W => by
   rw [run_string_add_sum W _ _ (by rw [zaD, zaD, List.length_append]; show X.length + 2 + Y.length ≤ _; omega), cat2]
  have hg1 : ¬ ((ByteArray.mk X.toArray).size + (ByteArray.mk #[58, 58]).size > 9223372036854775807) := by rw [zaD]; show ¬ (X.length + 2 > _); omega
  have hg2 : ¬ ((ByteArray.mk (X ++ [58, 58]).toArray).size + (ByteArray.mk Y.toArray).size > 9223372036854775807) := by rw [zaD, zaD, List.length_append]; show ¬ (X.length + 2 + Y.length > _); omega
  go_wp2
  go_region_held3 (fun _ => True) (exact trivial)
   (first
    | (go_simp; go_at_call 91; ((with_reducible refine (HWA.out _ (zbW _)).mono ?_); rintro e w4 ⟨rfl, hb4⟩))
    | (go_simp; go_at_call 91; ((with_reducible refine (HWB.out _ (zgV hb4)).mono ?_); rintro e w5 ⟨rfl, hb5⟩)))
  have hfin : Below w.heap.size w w5 := hc3.trans (((zgV hb4).trans (hb5.mono (zgV hb4).size)).mono hc3.size)
  have HE2 : Hid (X ++ 58 :: 58 :: Y = zcV hi lo) := by show X ++ 58 :: 58 :: Y = zcV hi lo; rw [HE.out]; simp
  go_wp2
  go_ret
  exact ⟨congrArg (fun l : List UInt8 => Ending.returned (.string ⟨l.toArray⟩)) HE2.out, hfin⟩
end
section
open Go.RowKit
/-- the digits to the base 16 of a number of at most f + 1 digits -/
def hexF : Nat → Nat → List UInt8
 | 0, u => [dgt u]
 | f + 1, u => if u < 16 then [dgt u] else hexF f (u / 16) ++ [dgt (u % 16)]
theorem hexD_F (f : Nat) : ∀ u, u < 16 ^ (f + 1) → hexD u = hexF f u := by
 induction f with
 | zero => intro u h; exact zfZ u (by simpa using h)
 | succ f ih =>
  intro u h
  unfold hexF
  split
  ·exact zfZ u (by assumption)
  ·rw [ziT u (by omega), ih (u / 16) (by rw [Nat.pow_succ] at h; exact Nat.div_lt_of_lt_mul (by rw [Nat.mul_comm]; exact h))]
def z4T (l : List Int) : List UInt8 := Lib.join (l.map fun x => hexF 3 x.toNat) [58]
theorem zvH {l : List Int} (h : In16 l) : zbD l = z4T l := by
 unfold zbD z4T
 congr 1
 apply List.map_congr_left
 intro x hx
 have := h x hx
 exact hexD_F 3 _ (by omega)
def textF (p : List Int) : List UInt8 :=
 if (lrAt (zbX p) 8).2.1 = (lrAt (zbX p) 8).2.2 then z4T p else z4T (p.take (lrAt (zbX p) 8).2.1) ++ [58, 58] ++ z4T (p.drop (lrAt (zbX p) 8).2.2)
theorem z6N {p : List Int} (h : In16 p) : zjN p = textF p := by
 unfold zjN textF
 rw [zvH h, zvH (h.take _), zvH (h.drop _)]
theorem p6_a : sixZ [58, 58, 102, 102, 102, 102, 58, 49, 46, 50, 46, 51, 46, 52] = ((0, 281470698652420), true) := by decide +kernel
theorem p6_b : sixZ [49, 58, 50, 58, 51, 58, 52, 58, 53, 58, 54, 58, 55] = ((0, 0), false) := by decide +kernel
theorem t6_a : zcV 0 281470698652420 = [58, 58, 102, 102, 102, 102, 58, 49, 48, 50, 58, 51, 48, 52] := by
 unfold zcV
 rw [z6N (zoR (by decide) (by decide) (by decide) (by decide))]
 decide +kernel
theorem t6_b : zcV 281474976710658 0 = [49, 58, 48, 58, 48, 58, 50, 58, 58] := by
 unfold zcV
 rw [z6N (zoR (by decide) (by decide) (by decide) (by decide))]
 decide +kernel
theorem z0V (w : World) :
  Calls Tryz.prog 205 #[] w fun e w' => e = .returned (.bool true) ∧ Below w.heap.size w w' := by
 go_enter Tryz.func205, Tryz.ntmps205
 go_wp2_with fail
 refine (zvL _).mono ?_
 rintro e w1 ⟨rfl, hb1⟩
 go_wp2
 go_ret
 exact ⟨rfl, hb1⟩
theorem zxF (w : World) (hbru : BruTab w) (hmax : MaxVar w) :
  Calls Tryz.prog 204 #[] w fun e w' => e = .returned (.bool true) ∧ Below w.heap.size w w' := by
 have HT := Lib.hid hbru
 have HX := Lib.hid hmax
 clear hbru hmax
 go_enter Tryz.func204, Tryz.ntmps204
 go_wp2_with fail
 refine (zhX _ _ (by decide) HX.out).mono ?_
 rw [show sixZ (ByteArray.mk #[58, 58, 102, 102, 102, 102, 58, 49, 46, 50, 46, 51, 46, 52]).data.toList = ((0, 281470698652420), true) from p6_a]
 rintro e w1 ⟨rfl, hb1⟩
 have hc1 : Below w.heap.size w (w1.alloc (.cells #[.int .u64 0, .int .u64 281470698652420] 73)) := hb1.alloc hb1.size _
 have hB : (w1.alloc (.cells #[.int .u64 0, .int .u64 281470698652420] 73)).heap[w1.heap.size]? = some (.cells #[.int .u64 0, .int .u64 281470698652420] 73 (0, 0)) := heap_alloc_new w1 _
 have hgs : w1.heap.size < (w1.alloc (.cells #[.int .u64 0, .int .u64 281470698652420] 73)).heap.size := by simp
 have HC := Lib.hid (show (w1.alloc (.cells #[.int .u64 0, .int .u64 281470698652420] 73)).cell? ⟨w1.heap.size, 0, none⟩ = some (.int .u64 0) ∧ (w1.alloc (.cells #[.int .u64 0, .int .u64 281470698652420] 73)).cell? ⟨w1.heap.size, 1, none⟩ = some (.int .u64 281470698652420) from
  ⟨by rw [cell_of_row _ _ 0 _ _ _ hB]; rfl, by rw [cell_of_row _ _ 1 _ _ _ hB]; rfl⟩)
 clear hb1 hB
 go_wp2_with fail
 generalize w1.alloc (.cells #[.int .u64 0, .int .u64 281470698652420] 73) = x1 at *
 generalize w1.heap.size = g at *
 refine (zhX _ _ (by decide) (zaB HX.out hc1)).mono ?_
 rw [show sixZ (ByteArray.mk #[49, 58, 50, 58, 51, 58, 52, 58, 53, 58, 54, 58, 55]).data.toList = ((0, 0), false) from p6_b]
 rintro e w2 ⟨rfl, hb2⟩
 have hd2 : Below x1.heap.size x1 (w2.alloc (.cells #[.int .u64 0, .int .u64 0] 73)) := hb2.alloc hb2.size _
 clear hb2
 go_wp2_with fail
 generalize w2.alloc (.cells #[.int .u64 0, .int .u64 0] 73) = x2 at *
 refine (z0V _).mono ?_
 rintro e x3 ⟨rfl, hb3⟩
 have hd3 : Below x1.heap.size x1 x3 := hd2.trans (hb3.mono hd2.size)
 have hc3 : Below w.heap.size w x3 := hc1.trans (hd3.mono hc1.size)
 have k0 : x3.cell? ⟨g, 0, none⟩ = some (.int .u64 0) := (hd3.cell (p := ⟨g, 0, none⟩) hgs).trans HC.out.1
 have k1 : x3.cell? ⟨g, 1, none⟩ = some (.int .u64 281470698652420) := (hd3.cell (p := ⟨g, 1, none⟩) hgs).trans HC.out.2
 clear hb3 hd2 hd3
 go_wp2_with fail
 refine (zmK 0 281470698652420 _ (by decide) (by decide) (by decide) (by decide) (zaY HT.out hc3)).mono ?_
 rw [t6_a]
 rintro e x4 ⟨rfl, hb4⟩
 have hc4 : Below w.heap.size w x4 := hc3.trans (hb4.mono hc3.size)
 clear hb4 k0 k1
 have hc5 : Below w.heap.size w (x4.alloc (.cells #[.int .u16 1, .int .u16 0, .int .u16 0, .int .u16 2] 111)) := hc4.alloc hc4.size _
 have HR : Hid (RowR (x4.alloc (.cells #[.int .u16 1, .int .u16 0, .int .u16 0, .int .u16 2] 111)) (.slice (some ⟨x4.heap.size, 0, none⟩) 4 4) ([1, 0, 0, 2].map (Value.int .u16))) := by
  refine ⟨some ⟨x4.heap.size, 0, none⟩, 4, rfl, fun j u hj => ⟨_, rfl, ?_⟩⟩
  rw [Lib.add_plain, Nat.zero_add, cell_of_row _ _ j _ _ _ (heap_alloc_new x4 _)]
  simpa using hj
 go_wp2_with fail
 refine (zjK _ [1, 0, 0, 2] _ HR.out (by intro x hx; simp at hx; omega) (by decide)).mono ?_
 rw [show hi4 [1, 0, 0, 2] = 281474976710658 from by decide, show lo4 [1, 0, 0, 2] = 0 from by decide]
 rintro e x6 ⟨rfl, hb6⟩
 have hc6 : Below w.heap.size w x6 := hc5.trans (hb6.mono hc5.size)
 clear hb6 hc5
 go_wp2_with fail
 refine (zmK 281474976710658 0 _ (by decide) (by decide) (by decide) (by decide) (zaY HT.out hc6)).mono ?_
 rw [t6_b]
 rintro e x7 ⟨rfl, hb7⟩
 have hc7 : Below w.heap.size w x7 := hc6.trans (hb7.mono hc6.size)
 go_wp2
 go_ret
 exact ⟨by first | rfl | exact zaQ (by simp) | exact zaQ (by decide), hc7⟩
end
section
open Go.RowKit
def sh16 : Nat → Int → Int
 | 0, x => x
 | k + 1, x => sh16 k x / 65536
theorem znI (k : Nat) (x : Int) (h0 : 0 ≤ x) (h1 : x ≤ 18446744073709551615) : 0 ≤ sh16 k x ∧ sh16 k x ≤ 18446744073709551615 := by
 induction k with
 | zero => exact ⟨h0, h1⟩
 | succ k ih => unfold sh16; omega
def arrR (a0 a1 a2 a3 a4 a5 a6 a7 : Int) : Nat → Array Value
 | 0 => #[.int .i64 0, .int .i64 0, .int .i64 0, .int .i64 0, .int .i64 0, .int .i64 0, .int .i64 0, .int .i64 0]
 | 1 => #[.int .i64 0, .int .i64 0, .int .i64 0, .int .i64 a3, .int .i64 0, .int .i64 0, .int .i64 0, .int .i64 a7]
 | 2 => #[.int .i64 0, .int .i64 0, .int .i64 a2, .int .i64 a3, .int .i64 0, .int .i64 0, .int .i64 a6, .int .i64 a7]
 | 3 => #[.int .i64 0, .int .i64 a1, .int .i64 a2, .int .i64 a3, .int .i64 0, .int .i64 a5, .int .i64 a6, .int .i64 a7]
 | _ => #[.int .i64 a0, .int .i64 a1, .int .i64 a2, .int .i64 a3, .int .i64 a4, .int .i64 a5, .int .i64 a6, .int .i64 a7]
def yaQ (w : World) (p : List Int) (e : Ending) (w' : World) : Prop := ∃ B, e = .returned (.slice (some ⟨B, 0, none⟩) 8 8) ∧ B < w'.heap.size ∧ (∀ j, j < 8 → w'.cell? ⟨B, j, none⟩ = some (.int .i64 (p.getD j 0))) ∧ Below w.heap.size w w'
theorem zqK (hi lo : Int) (w : World) (h0 : 0 ≤ hi) (h1 : hi ≤ 18446744073709551615) (l0 : 0 ≤ lo) (l1 : lo ≤ 18446744073709551615) :
  Calls Tryz.prog 118 #[.int .u64 hi, .int .u64 lo] w (yaQ w (pcs hi lo)) := by
 obtain ⟨p, hp⟩ : ∃ p, pcs hi lo = p := ⟨_, rfl⟩
 rw [hp]
 unfold pcs at hp
 obtain ⟨a0, ha0⟩ : ∃ a, hi / 281474976710656 = a := ⟨_, rfl⟩
 have b0 : 0 ≤ a0 ∧ a0 ≤ 65535 := by omega
 have e0 : sh16 3 hi % 65536 = a0 := by simp only [sh16]; omega
 obtain ⟨a1, ha1⟩ : ∃ a, hi / 4294967296 % 65536 = a := ⟨_, rfl⟩
 have b1 : 0 ≤ a1 ∧ a1 ≤ 65535 := by omega
 have e1 : sh16 2 hi % 65536 = a1 := by simp only [sh16]; omega
 obtain ⟨a2, ha2⟩ : ∃ a, hi / 65536 % 65536 = a := ⟨_, rfl⟩
 have b2 : 0 ≤ a2 ∧ a2 ≤ 65535 := by omega
 have e2 : sh16 1 hi % 65536 = a2 := by simp only [sh16]; omega
 obtain ⟨a3, ha3⟩ : ∃ a, hi % 65536 = a := ⟨_, rfl⟩
 have b3 : 0 ≤ a3 ∧ a3 ≤ 65535 := by omega
 have e3 : sh16 0 hi % 65536 = a3 := by simp only [sh16]; omega
 obtain ⟨a4, ha4⟩ : ∃ a, lo / 281474976710656 = a := ⟨_, rfl⟩
 have b4 : 0 ≤ a4 ∧ a4 ≤ 65535 := by omega
 have e4 : sh16 3 lo % 65536 = a4 := by simp only [sh16]; omega
 obtain ⟨a5, ha5⟩ : ∃ a, lo / 4294967296 % 65536 = a := ⟨_, rfl⟩
 have b5 : 0 ≤ a5 ∧ a5 ≤ 65535 := by omega
 have e5 : sh16 2 lo % 65536 = a5 := by simp only [sh16]; omega
 obtain ⟨a6, ha6⟩ : ∃ a, lo / 65536 % 65536 = a := ⟨_, rfl⟩
 have b6 : 0 ≤ a6 ∧ a6 ≤ 65535 := by omega
 have e6 : sh16 1 lo % 65536 = a6 := by simp only [sh16]; omega
 obtain ⟨a7, ha7⟩ : ∃ a, lo % 65536 = a := ⟨_, rfl⟩
 have b7 : 0 ≤ a7 ∧ a7 ≤ 65535 := by omega
 have e7 : sh16 0 lo % 65536 = a7 := by simp only [sh16]; omega
 rw [ha0, ha1, ha2, ha3, ha4, ha5, ha6, ha7] at hp
 have HP := Lib.hid hp
 have E := Lib.hid (And.intro e0 (And.intro e1 (And.intro e2 (And.intro e3 (And.intro e4 (And.intro e5 (And.intro e6 e7)))))))
 clear hp ha0 ha1 ha2 ha3 ha4 ha5 ha6 ha7 e0 e1 e2 e3 e4 e5 e6 e7
 have HB := Lib.hid (And.intro b0 (And.intro b1 (And.intro b2 (And.intro b3 (And.intro b4 (And.intro b5 (And.intro b6 b7)))))))
 clear b0 b1 b2 b3 b4 b5 b6 b7
 have hmk := make8
 have HA0 : Hid ((w.alloc (.cells #[.int .i64 0, .int .i64 0, .int .i64 0, .int .i64 0, .int .i64 0, .int .i64 0, .int .i64 0, .int .i64 0] 3)).heap[w.heap.size]? = some (.cells (arrR a0 a1 a2 a3 a4 a5 a6 a7 0) 3 (0, 0))) := heap_alloc_new w _
 have hbA : Below w.heap.size w (w.alloc (.cells #[.int .i64 0, .int .i64 0, .int .i64 0, .int .i64 0, .int .i64 0, .int .i64 0, .int .i64 0, .int .i64 0] 3)) := (Below.refl _ w).alloc (Nat.le_refl _) _
 go_enter Tryz.func118, Tryz.ntmps118
 go_wp2
 clear hmk
 go_loopw [0, 1, 6] (fun h l i wr => ∃ k : Nat, k ≤ 4 ∧ i = .int .i64 (3 - (k : Int)) ∧ h = .int .u64 (sh16 k hi) ∧ l = .int .u64 (sh16 k lo) ∧ Hid (wr.heap[w.heap.size]? = some (.cells (arrR a0 a1 a2 a3 a4 a5 a6 a7 k) 3 (0, 0))) ∧ Below w.heap.size w wr) (fun _ _ i _ => (intOf i + 1).toNat)
 case atStart => exact ⟨0, by omega, rfl, rfl, rfl, HA0, hbA⟩
 case round =>
  obtain ⟨k, hk, rfl, rfl, rfl, HA, hbw⟩ := hrel
  have hx := znI k hi h0 h1
  have hy := znI k lo l0 l1
  by_cases hk4 : k < 4
  ·rcases (show k = 0 ∨ k = 1 ∨ k = 2 ∨ k = 3 from by omega) with rfl | rfl | rfl | rfl
   ·rw [show (3 : Int) - ((0 : Nat) : Int) = 3 from rfl]
    have hc1 : wr.cell? ⟨w.heap.size, 3, none⟩ = some (.int .i64 0) := by rw [cell_of_row wr _ 3 _ _ _ HA.out]; rfl
    have hc2 : wr.cell? ⟨w.heap.size, 7, none⟩ = some (.int .i64 0) := by rw [cell_of_row wr _ 7 _ _ _ HA.out]; rfl
    have hf1 : wr.frozen? ⟨w.heap.size, 3, none⟩ = false := zaS HA.out 3
    have hf2 : wr.frozen? ⟨w.heap.size, 7, none⟩ = false := zaS HA.out 7
    have HA2 : Hid (((wr.setCell ⟨w.heap.size, 3, none⟩ (.int .i64 a3)).setCell ⟨w.heap.size, 7, none⟩ (.int .i64 a7)).heap[w.heap.size]? = some (.cells (arrR a0 a1 a2 a3 a4 a5 a6 a7 1) 3 (0, 0))) := by
     show _ = _
     simp [World.setCell, Array.getElem?_modify, HA.out, arrR]
    have hbw2 : Below w.heap.size w ((wr.setCell ⟨w.heap.size, 3, none⟩ (.int .i64 a3)).setCell ⟨w.heap.size, 7, none⟩ (.int .i64 a7)) := (hbw.setCell (Nat.le_refl _) _).setCell (Nat.le_refl _) _
    have e0 := E.out.2.2.2.1
    have e4 := E.out.2.2.2.2.2.2.2
    have b0 := HB.out.2.2.2.1
    have b4 := HB.out.2.2.2.2.2.2.2
    have HS1 : Hid (sh16 1 hi = sh16 0 hi / 65536) := rfl
    have HS2 : Hid (sh16 1 lo = sh16 0 lo / 65536) := rfl
    generalize sh16 0 hi = x at *
    generalize sh16 0 lo = y at *
    obtain ⟨hx0, hx1⟩ := hx
    obtain ⟨hy0, hy1⟩ := hy
    obtain ⟨b00, b01⟩ := b0
    obtain ⟨b40, b41⟩ := b4
    go_wp2
    go_roundw
    case rel => exact ⟨1, by omega, (by first | rfl | go_num), (by rw [HS1.out]), (by rw [HS2.out]), HA2, hbw2⟩
    case measure => first | (simp [intOf]; done) | (simp [intOf]; omega)
   ·rw [show (3 : Int) - ((1 : Nat) : Int) = 2 from rfl]
    have hc1 : wr.cell? ⟨w.heap.size, 2, none⟩ = some (.int .i64 0) := by rw [cell_of_row wr _ 2 _ _ _ HA.out]; rfl
    have hc2 : wr.cell? ⟨w.heap.size, 6, none⟩ = some (.int .i64 0) := by rw [cell_of_row wr _ 6 _ _ _ HA.out]; rfl
    have hf1 : wr.frozen? ⟨w.heap.size, 2, none⟩ = false := zaS HA.out 2
    have hf2 : wr.frozen? ⟨w.heap.size, 6, none⟩ = false := zaS HA.out 6
    have HA2 : Hid (((wr.setCell ⟨w.heap.size, 2, none⟩ (.int .i64 a2)).setCell ⟨w.heap.size, 6, none⟩ (.int .i64 a6)).heap[w.heap.size]? = some (.cells (arrR a0 a1 a2 a3 a4 a5 a6 a7 2) 3 (0, 0))) := by
     show _ = _
     simp [World.setCell, Array.getElem?_modify, HA.out, arrR]
    have hbw2 : Below w.heap.size w ((wr.setCell ⟨w.heap.size, 2, none⟩ (.int .i64 a2)).setCell ⟨w.heap.size, 6, none⟩ (.int .i64 a6)) := (hbw.setCell (Nat.le_refl _) _).setCell (Nat.le_refl _) _
    have e0 := E.out.2.2.1
    have e4 := E.out.2.2.2.2.2.2.1
    have b0 := HB.out.2.2.1
    have b4 := HB.out.2.2.2.2.2.2.1
    have HS1 : Hid (sh16 2 hi = sh16 1 hi / 65536) := rfl
    have HS2 : Hid (sh16 2 lo = sh16 1 lo / 65536) := rfl
    generalize sh16 1 hi = x at *
    generalize sh16 1 lo = y at *
    obtain ⟨hx0, hx1⟩ := hx
    obtain ⟨hy0, hy1⟩ := hy
    obtain ⟨b00, b01⟩ := b0
    obtain ⟨b40, b41⟩ := b4
    go_wp2
    go_roundw
    case rel => exact ⟨2, by omega, (by first | rfl | go_num), (by rw [HS1.out]), (by rw [HS2.out]), HA2, hbw2⟩
    case measure => first | (simp [intOf]; done) | (simp [intOf]; omega)
   ·rw [show (3 : Int) - ((2 : Nat) : Int) = 1 from rfl]
    have hc1 : wr.cell? ⟨w.heap.size, 1, none⟩ = some (.int .i64 0) := by rw [cell_of_row wr _ 1 _ _ _ HA.out]; rfl
    have hc2 : wr.cell? ⟨w.heap.size, 5, none⟩ = some (.int .i64 0) := by rw [cell_of_row wr _ 5 _ _ _ HA.out]; rfl
    have hf1 : wr.frozen? ⟨w.heap.size, 1, none⟩ = false := zaS HA.out 1
    have hf2 : wr.frozen? ⟨w.heap.size, 5, none⟩ = false := zaS HA.out 5
    have HA2 : Hid (((wr.setCell ⟨w.heap.size, 1, none⟩ (.int .i64 a1)).setCell ⟨w.heap.size, 5, none⟩ (.int .i64 a5)).heap[w.heap.size]? = some (.cells (arrR a0 a1 a2 a3 a4 a5 a6 a7 3) 3 (0, 0))) := by
     show _ = _
     simp [World.setCell, Array.getElem?_modify, HA.out, arrR]
    have hbw2 : Below w.heap.size w ((wr.setCell ⟨w.heap.size, 1, none⟩ (.int .i64 a1)).setCell ⟨w.heap.size, 5, none⟩ (.int .i64 a5)) := (hbw.setCell (Nat.le_refl _) _).setCell (Nat.le_refl _) _
    have e0 := E.out.2.1
    have e4 := E.out.2.2.2.2.2.1
    have b0 := HB.out.2.1
    have b4 := HB.out.2.2.2.2.2.1
    have HS1 : Hid (sh16 3 hi = sh16 2 hi / 65536) := rfl
    have HS2 : Hid (sh16 3 lo = sh16 2 lo / 65536) := rfl
    generalize sh16 2 hi = x at *
    generalize sh16 2 lo = y at *
    obtain ⟨hx0, hx1⟩ := hx
    obtain ⟨hy0, hy1⟩ := hy
    obtain ⟨b00, b01⟩ := b0
    obtain ⟨b40, b41⟩ := b4
    go_wp2
    go_roundw
    case rel => exact ⟨3, by omega, (by first | rfl | go_num), (by rw [HS1.out]), (by rw [HS2.out]), HA2, hbw2⟩
    case measure => first | (simp [intOf]; done) | (simp [intOf]; omega)
   ·rw [show (3 : Int) - ((3 : Nat) : Int) = 0 from rfl]
    have hc1 : wr.cell? ⟨w.heap.size, 0, none⟩ = some (.int .i64 0) := by rw [cell_of_row wr _ 0 _ _ _ HA.out]; rfl
    have hc2 : wr.cell? ⟨w.heap.size, 4, none⟩ = some (.int .i64 0) := by rw [cell_of_row wr _ 4 _ _ _ HA.out]; rfl
    have hf1 : wr.frozen? ⟨w.heap.size, 0, none⟩ = false := zaS HA.out 0
    have hf2 : wr.frozen? ⟨w.heap.size, 4, none⟩ = false := zaS HA.out 4
    have HA2 : Hid (((wr.setCell ⟨w.heap.size, 0, none⟩ (.int .i64 a0)).setCell ⟨w.heap.size, 4, none⟩ (.int .i64 a4)).heap[w.heap.size]? = some (.cells (arrR a0 a1 a2 a3 a4 a5 a6 a7 4) 3 (0, 0))) := by
     show _ = _
     simp [World.setCell, Array.getElem?_modify, HA.out, arrR]
    have hbw2 : Below w.heap.size w ((wr.setCell ⟨w.heap.size, 0, none⟩ (.int .i64 a0)).setCell ⟨w.heap.size, 4, none⟩ (.int .i64 a4)) := (hbw.setCell (Nat.le_refl _) _).setCell (Nat.le_refl _) _
    have e0 := E.out.1
    have e4 := E.out.2.2.2.2.1
    have b0 := HB.out.1
    have b4 := HB.out.2.2.2.2.1
    have HS1 : Hid (sh16 4 hi = sh16 3 hi / 65536) := rfl
    have HS2 : Hid (sh16 4 lo = sh16 3 lo / 65536) := rfl
    generalize sh16 3 hi = x at *
    generalize sh16 3 lo = y at *
    obtain ⟨hx0, hx1⟩ := hx
    obtain ⟨hy0, hy1⟩ := hy
    obtain ⟨b00, b01⟩ := b0
    obtain ⟨b40, b41⟩ := b4
    go_wp2
    go_roundw
    case rel => exact ⟨4, by omega, (by first | rfl | go_num), (by rw [HS1.out]), (by rw [HS2.out]), HA2, hbw2⟩
    case measure => first | (simp [intOf]; done) | (simp [intOf]; omega)
  ·obtain rfl : k = 4 := by omega
   rw [show (3 : Int) - ((4 : Nat) : Int) = -1 from rfl]
   have HCF : Hid (∀ j, j < 8 → wr.cell? ⟨w.heap.size, j, none⟩ = some (.int .i64 (p.getD j 0))) := fun j hj => by
    rw [cell_of_row wr _ j _ _ _ HA.out, ← HP.out]
    rcases (show j = 0 ∨ j = 1 ∨ j = 2 ∨ j = 3 ∨ j = 4 ∨ j = 5 ∨ j = 6 ∨ j = 7 from by omega) with rfl | rfl | rfl | rfl | rfl | rfl | rfl | rfl <;> rfl
   have hlt : w.heap.size < wr.heap.size := (Array.getElem?_eq_some_iff.1 HA.out).1
   go_wp2
   go_ret
   exact ⟨w.heap.size, rfl, hlt, HCF.out, hbw⟩
theorem ybJ : ∀ d : Fin 16, (ByteArray.mk #[48, 49, 50, 51, 52, 53, 54, 55, 56, 57, 97, 98, 99, 100, 101, 102]).extract d.val (d.val + 1) = ⟨#[dgt d.val]⟩ := by decide +kernel
theorem ycF (n : Nat) (h : n < 16) (W : World) : (Instr.slice 9 (.string ⟨#[48, 49, 50, 51, 52, 53, 54, 55, 56, 57, 97, 98, 99, 100, 101, 102]⟩) (some (.int .i64 (n : Int))) (some (.int .i64 ((n : Int) + 1))) none).run Tryz.prog W = .ok (.string ⟨#[dgt n]⟩) W := by
 rw [ztN W 9 _ (n : Int) ((n : Int) + 1) n (n + 1) rfl (by omega) (by omega) (by show n + 1 ≤ 16; omega) Tryz.underlying9, ybJ ⟨n, h⟩]
theorem zpD (n : Nat) : ∀ (w : World), n < 1048576 → Calls Tryz.prog 149 #[.int .i64 (n : Int)] w fun e w' => e = .returned (.string ⟨(hexD n).toArray⟩) ∧ w = w' := by
 induction n using Nat.strongRecOn with
 | ind n ih =>
  intro w hn
  by_cases h16 : n < 16
  ·have HD := Lib.hid (zfZ n h16)
   have hsl := ycF n h16
   clear ih
   go_enter Tryz.func149, Tryz.ntmps149
   go_wp2
   go_ret
   exact ⟨congrArg (fun l : List UInt8 => Ending.returned (.string ⟨l.toArray⟩)) HD.out.symm, rfl⟩
  ·have HD := Lib.hid (ziT n (by omega))
   have h1 := ih (n / 16) (by omega) w (by omega)
   have h2 := ih (n % 16) (by omega) w (by omega)
   rw [show ((n / 16 : Nat) : Int) = (n : Int) / 16 from by omega] at h1
   rw [show ((n % 16 : Nat) : Int) = (n : Int) % 16 from by omega] at h2
   have H1 := Lib.hid h1
   have H2 := Lib.hid h2
   have HD2 := Lib.hid (zfZ (n % 16) (by omega))
   have hl1 : (hexD (n / 16)).length ≤ 4 := zxW _ (by omega)
   clear ih h1 h2
   go_enter Tryz.func149, Tryz.ntmps149
   go_wp2_with fail
   refine H1.out.mono ?_
   rintro e w' ⟨rfl, rfl⟩
   go_wp2_with fail
   refine H2.out.mono ?_
   rw [HD2.out]
   rintro e w' ⟨rfl, rfl⟩
   go_wp2
   go_ret
   refine ⟨congrArg (fun b : ByteArray => Ending.returned (.string b)) ?_, rfl⟩
   rw [HD.out]
   exact cat2 _ _
theorem z0J (ps : List (List UInt8)) (p sep : List UInt8) : Lib.join (ps ++ [p]) sep = if ps = [] then p else Lib.join ps sep ++ sep ++ p := by
 induction ps with
 | nil => simp [Lib.join]
 | cons q r ih =>
  rw [if_neg (by simp)]
  cases r with
  | nil => simp [Lib.join, List.intercalate]
  | cons s r =>
   have e : ∀ x y : List UInt8, ∀ z : List (List UInt8), Lib.join (x :: y :: z) sep = x ++ sep ++ Lib.join (y :: z) sep := fun x y z => by simp [Lib.join, List.intercalate]
   rw [if_neg (by simp)] at ih
   show Lib.join (q :: s :: (r ++ [p])) sep = _
   rw [e, e, show s :: (r ++ [p]) = (s :: r) ++ [p] from rfl, ih]
   simp
theorem z5R (l : List Int) (h : 0 < l.length) : zbD (l.take 1) = hexI (l.getD 0 0) := by
 cases l with
 | nil => simp at h
 | cons x r => simp [zbD, Lib.join]
theorem z0U (l : List Int) (k : Nat) (h : k < l.length) (hk : 0 < k) : zbD (l.take (k + 1)) = zbD (l.take k) ++ [58] ++ hexI (l.getD k 0) := by
 unfold zbD
 rw [List.take_succ_eq_append_getElem h, List.map_append, List.map_singleton, z0J, if_neg (by
  intro e
  have := congrArg List.length e
  simp at this
  rcases this with h2 | h2
  ·omega
  ·subst h2; simp at h), List.getD, List.getElem?_eq_getElem h]
 rfl
theorem ziG (ao : Option Addr) (c : Nat) (l : List Int) (w : World) (hsl : zfA w ao .i64 l) (hin : In16 l) (hlen : l.length ≤ 1000) :
  Calls Tryz.prog 120 #[.slice ao l.length c] w fun e w' => e = .returned (.string ⟨(zbD l).toArray⟩) ∧ w = w' := by
 have HSL := Lib.hid hsl
 have HIN := Lib.hid hin
 clear hsl hin
 go_enter Tryz.func120, Tryz.ntmps120
 go_wp2
 go_loop [3, 4] (fun s i => ∃ (k : Nat) (T : List UInt8), k ≤ l.length ∧ i = .int .i64 k ∧ s = .string ⟨T.toArray⟩ ∧ T.length ≤ 5 * k ∧ Hid (T = zbD (l.take k))) (fun _ i => l.length - (intOf i).toNat)
 case atStart => exact ⟨0, [], by omega, rfl, rfl, by simp, rfl⟩
 case round =>
  obtain ⟨k, T, hk, rfl, rfl, hTl, HT⟩ := hrel
  by_cases hkl : k < l.length
  ·obtain ⟨g, o, rfl, hc⟩ := HSL.out k hkl
   have hxb := HIN.out.getD k
   have hxl := zlK hxb
   obtain ⟨x, hx⟩ : ∃ x, l.getD k 0 = x := ⟨_, rfl⟩
   have HXX := Lib.hid hx
   rw [hx] at hc hxb hxl
   obtain ⟨u, rfl⟩ : ∃ u : Nat, x = (u : Int) := ⟨x.toNat, by omega⟩
   have hxl2 : (hexD u).length ≤ 4 := hxl
   clear hx hxl
   by_cases hk0 : k = 0
   ·subst hk0
    have HN : Hid (T ++ hexD u = zbD (l.take (0 + 1))) := by
     show T ++ hexD u = zbD (l.take (0 + 1))
     rw [z5R l hkl, HXX.out, HT.out]; rfl
    rw [show ((0 : Nat) : Int) = 0 from rfl]
    rw [Nat.add_zero] at hc
    go_wp2_with (go_at_call 149; refine (zpD u _ (by omega)).mono ?_; rintro e w' ⟨rfl, rfl⟩)
    go_round
    case rel => exact ⟨1, T ++ hexD u, by omega, (by first | rfl | go_num), congrArg Value.string (cat2 _ _), (by rw [List.length_append]; omega), HN⟩
    case measure => first | (simp [intOf]; done) | (simp [intOf]; omega)
   ·have HN : Hid (T ++ [58] ++ hexD u = zbD (l.take (k + 1))) := by
     show T ++ [58] ++ hexD u = zbD (l.take (k + 1))
     rw [z0U l k hkl (by omega), HXX.out, HT.out]; rfl
    have hkp : decide ((0 : Int) < (k : Int)) = true := decide_eq_true (by omega)
    have hkp2 : 0 < k := by omega
    clear hk0
    go_wp2_with (go_at_call 149; refine (zpD u _ (by omega)).mono ?_; rintro e w' ⟨rfl, rfl⟩)
    go_round
    case rel => exact ⟨k + 1, T ++ [58] ++ hexD u, by omega, by go_num, congrArg Value.string (by rw [show (ByteArray.mk #[58]) = ByteArray.mk [58].toArray from rfl, cat2, cat2]), (by rw [List.length_append, List.length_append]; simp; omega), HN⟩
    case measure => simp [intOf]; omega
  ·have HF : Hid (T = zbD l) := by
    show T = zbD l
    rw [HT.out, List.take_of_length_le (by omega)]
   go_wp2
   go_ret
   exact ⟨congrArg (fun l : List UInt8 => Ending.returned (.string ⟨l.toArray⟩)) HF.out, rfl⟩
/-- are all from a place on, so many, 0? -/
def zrB (p : List Int) (f n : Nat) : Bool := ((p.drop f).take n).all fun x => decide (x = 0)
theorem zr_no (p : List Int) (f n k : Nat) (hk : k < n) (hl : f + n ≤ p.length) (h : p.getD (f + k) 0 ≠ 0) : zrB p f n = false := by
 unfold zrB
 rw [List.all_eq_false]
 refine ⟨p.getD (f + k) 0, ?_, by simpa using h⟩
 rw [List.getD, List.getElem?_eq_getElem (by omega)]
 show p[f + k] ∈ _
 refine List.mem_iff_getElem.2 ⟨k, by simp; omega, by simp⟩
theorem zr_yes (p : List Int) (f n : Nat) (hl : f + n ≤ p.length) (h : ∀ k, k < n → p.getD (f + k) 0 = 0) : zrB p f n = true := by
 unfold zrB
 rw [List.all_eq_true]
 intro x hx
 obtain ⟨k, hk, rfl⟩ := List.mem_iff_getElem.1 hx
 have hk2 : k < n := by simp at hk; omega
 have := h k hk2
 rw [List.getD, List.getElem?_eq_getElem (by omega)] at this
 simpa using this
theorem zkS (B c f n : Nat) (p : List Int) (w : World) (hc : ∀ j, j < 8 → w.cell? ⟨B, j, none⟩ = some (.int .i64 (p.getD j 0))) (hp : p.length = 8) (hfn : f + n ≤ 8) :
  Calls Tryz.prog 119 #[.slice (some ⟨B, 0, none⟩) 8 c, .int .i64 (f : Int), .int .i64 (n : Int)] w fun e w' => e = .returned (.bool (zrB p f n)) ∧ w = w' := by
 have HC := Lib.hid hc
 have HL := Lib.hid hp
 clear hc hp
 go_enter Tryz.func119, Tryz.ntmps119
 go_wp2
 go_loop [7] (fun i => ∃ k : Nat, k ≤ n ∧ i = .int .i64 k ∧ Hid (∀ j, j < k → p.getD (f + j) 0 = 0)) (fun i => n - (intOf i).toNat)
 case atStart => exact ⟨0, by omega, rfl, fun j hj => by omega⟩
 case round =>
  obtain ⟨k, hk, rfl, H⟩ := hrel
  by_cases hkn : k < n
  ·obtain ⟨j, hj⟩ : ∃ j, f + k = j := ⟨_, rfl⟩
   have hj8 : j < 8 := by omega
   have hcj := HC.out j hj8
   have hidx : (f : Int) + (k : Int) = (j : Int) := by omega
   obtain ⟨x, hx⟩ : ∃ x, p.getD j 0 = x := ⟨_, rfl⟩
   rw [hx] at hcj
   by_cases hx0 : x = 0
   ·subst hx0
    have HN : Hid (∀ i, i < k + 1 → p.getD (f + i) 0 = 0) := fun i hi => by
     by_cases hik : i = k
     ·subst hik; rw [hj]; exact hx
     ·exact H.out i (by omega)
    have hne : ((0 : Int) != 0) = false := by decide
    clear hx hj
    go_wp2
    go_round
    case rel => exact ⟨k + 1, by omega, by go_num, HN⟩
    case measure => simp [intOf]; omega
   ·have HF := Lib.hid (zr_no p f n k hkn (by rw [HL.out]; exact hfn) (by rw [hj, hx]; exact hx0))
    have hne : (x != 0) = true := by rw [bne_iff_ne]; exact hx0
    clear hx hj hx0
    go_wp2
    go_ret
    exact ⟨zaQ HF.out.symm, rfl⟩
  ·have HF := Lib.hid (zr_yes p f n (by rw [HL.out]; exact hfn) (fun j hj => H.out j (by omega)))
   go_wp2
   go_ret
   exact ⟨zaQ HF.out.symm, rfl⟩
end
section
open Go.RowKit
def zrBB (bs : List Bool) (f n : Nat) : Bool := ((bs.drop f).take n).all id
theorem zr_BB (p : List Int) (f n : Nat) : zrB p f n = zrBB (zbX p) f n := by
 unfold zrB zrBB zbX
 rw [← List.map_drop, ← List.map_take, List.all_map]
 rfl
def cands : List (Nat × Nat) := [(8, 0), (7, 0), (7, 1), (6, 0), (6, 1), (6, 2), (5, 0), (5, 1), (5, 2), (5, 3), (4, 0), (4, 1), (4, 2), (4, 3), (4, 4), (3, 0), (3, 1), (3, 2), (3, 3), (3, 4), (3, 5), (2, 0), (2, 1), (2, 2), (2, 3), (2, 4), (2, 5), (2, 6)]
theorem z3C : ∀ n f : Fin 9, 2 ≤ n.val → f.val + n.val ≤ 8 → (n.val, f.val) ∈ cands := by decide +kernel
def yaC (bs : List Bool) : Bool :=
 cands.all (fun c => !(zrBB bs c.2 c.1) || decide (c.1 < (lrAt bs 8).2.2 - (lrAt bs 8).2.1) || (decide (c.1 = (lrAt bs 8).2.2 - (lrAt bs 8).2.1) && decide ((lrAt bs 8).2.1 ≤ c.2))) &&
  (decide ((lrAt bs 8).2.1 = (lrAt bs 8).2.2) || (decide (2 ≤ (lrAt bs 8).2.2 - (lrAt bs 8).2.1) && zrBB bs (lrAt bs 8).2.1 ((lrAt bs 8).2.2 - (lrAt bs 8).2.1)))
theorem spec8 : ∀ b0 b1 b2 b3 b4 b5 b6 b7 : Bool, yaC [b0, b1, b2, b3, b4, b5, b6, b7] = true := by decide +kernel
theorem z5V {p : List Int} (hp : p.length = 8) : yaC (zbX p) = true := by
 match p, hp with
 | [x0, x1, x2, x3, x4, x5, x6, x7], _ => exact spec8 _ _ _ _ _ _ _ _
theorem yaM {p : List Int} (hp : p.length = 8) {n f : Nat} (h2 : 2 ≤ n) (h8 : f + n ≤ 8) (hz : zrB p f n = true) :
  n < (lrAt (zbX p) 8).2.2 - (lrAt (zbX p) 8).2.1 ∨ (n = (lrAt (zbX p) 8).2.2 - (lrAt (zbX p) 8).2.1 ∧ (lrAt (zbX p) 8).2.1 ≤ f) := by
 have h := z5V hp
 unfold yaC at h
 rw [Bool.and_eq_true] at h
 have hc := List.all_eq_true.1 h.1 (n, f) (z3C ⟨n, by omega⟩ ⟨f, by omega⟩ h2 h8)
 rw [zr_BB] at hz
 simp only [hz, Bool.not_true, Bool.false_or, Bool.or_eq_true, Bool.and_eq_true, decide_eq_true_eq] at hc
 exact hc
theorem z8A {p : List Int} (hp : p.length = 8) (h : (lrAt (zbX p) 8).2.1 ≠ (lrAt (zbX p) 8).2.2) :
  2 ≤ (lrAt (zbX p) 8).2.2 - (lrAt (zbX p) 8).2.1 ∧ zrB p (lrAt (zbX p) 8).2.1 ((lrAt (zbX p) 8).2.2 - (lrAt (zbX p) 8).2.1) = true := by
 have hs := z5V hp
 unfold yaC at hs
 rw [Bool.and_eq_true] at hs
 rw [zr_BB]
 have := hs.2
 simp only [Bool.or_eq_true, Bool.and_eq_true, decide_eq_true_eq] at this
 rcases this with e | e
 ·exact absurd e h
 ·exact e
theorem z1I {p : List Int} (hp : p.length = 8) {n f : Nat} (h2 : 2 ≤ n) (h8 : f + n ≤ 8) (hz : zrB p f n = true) (hn : ∀ m g, n < m → g + m ≤ 8 → zrB p g m = false) (hf : ∀ g, g < f → g + n ≤ 8 → zrB p g n = false) :
  zjN p = zbD (p.take f) ++ [58, 58] ++ zbD (p.drop (f + n)) := by
 have hle := zlZ p
 have hne : (lrAt (zbX p) 8).2.1 ≠ (lrAt (zbX p) 8).2.2 := by
  rcases yaM hp h2 h8 hz with h | h <;> omega
 have his := z8A hp hne
 have e1 : (lrAt (zbX p) 8).2.2 - (lrAt (zbX p) 8).2.1 = n ∧ (lrAt (zbX p) 8).2.1 = f := by
  rcases yaM hp h2 h8 hz with h | h
  ·have := hn _ (lrAt (zbX p) 8).2.1 h (by omega)
   rw [his.2] at this
   cases this
  ·refine ⟨h.1.symm, ?_⟩
   by_cases e : (lrAt (zbX p) 8).2.1 = f
   ·exact e
   ·have := hf (lrAt (zbX p) 8).2.1 (by omega) (by omega)
    rw [h.1, his.2] at this
    cases this
 unfold zjN
 rw [if_neg hne, e1.2, show (lrAt (zbX p) 8).2.2 = f + n from by omega]
theorem z5J {p : List Int} (hp : p.length = 8) (hn : ∀ m g, 1 < m → g + m ≤ 8 → zrB p g m = false) : zjN p = zbD p := by
 unfold zjN
 by_cases h : (lrAt (zbX p) 8).2.1 = (lrAt (zbX p) 8).2.2
 ·rw [if_pos h]
 ·have hle := zlZ p
  have his := z8A hp h
  have := hn _ (lrAt (zbX p) 8).2.1 (by omega) (show _ + ((lrAt (zbX p) 8).2.2 - (lrAt (zbX p) 8).2.1) ≤ 8 from by omega)
  rw [his.2] at this
  cases this
theorem zrD (x : World) : x.drew.heap = x.heap := rfl
theorem zkO {W x : World} (h : W.heap = x.heap) {a : Addr} : W.cell? a = x.cell? a := by simp [World.cell?, h]
theorem z1M (B j : Nat) (hj : j ≤ 8) : ∃ ao, (∀ W, (Instr.slice 103 (.slice (some ⟨B, 0, none⟩) 8 8) (some (.int .i64 (j : Int))) none none).run Tryz.prog W = .ok (.slice ao (8 - j) (8 - j)) W) ∧ (j < 8 → ao = some ⟨B, j, none⟩) := by
 by_cases h8 : j = 8
 ·subst h8
  refine ⟨some ⟨B, 0, none⟩, fun W => ?_, fun h => by omega⟩
  rw [run_slice_l W 103 (some ⟨B, 0, none⟩) 8 8 (by simp [Program.elem, Tryz.underlying103]) .i64 _ (by omega) (by omega)]
  go_simp
 ·refine ⟨some ⟨B, j, none⟩, fun W => ?_, fun _ => rfl⟩
  rw [run_slice_l W 103 (some ⟨B, 0, none⟩) 8 8 (by simp [Program.elem, Tryz.underlying103]) .i64 _ (by omega) (by omega)]
  go_simp
  omega
theorem zwA (B f : Nat) (hf : f ≤ 8) (W : World) : (Instr.slice 103 (.slice (some ⟨B, 0, none⟩) 8 8) none (some (.int .i64 (f : Int))) none).run Tryz.prog W = .ok (.slice (some ⟨B, 0, none⟩) f 8) W := by
 rw [run_slice_h W 103 (some ⟨B, 0, none⟩) 8 8 (by simp [Program.elem, Tryz.underlying103]) .i64 _ (by omega) (by omega)]
 go_simp
theorem zrR (hi lo : Int) (w : World) (h0 : 0 ≤ hi) (h1 : hi ≤ 18446744073709551615) (l0 : 0 ≤ lo) (l1 : lo ≤ 18446744073709551615) :
  Calls Tryz.prog 92 #[.int .u64 hi, .int .u64 lo] w (zgN w (zcV hi lo)) := by
 have HIN := Lib.hid (zoR h0 h1 l0 l1)
 go_enter Tryz.func92, Tryz.ntmps92
 go_wp2_with fail
 refine (zqK hi lo _ h0 h1 l0 l1).mono ?_
 rintro e x1 ⟨B, rfl, hB, hcl, hb1⟩
 have hpl : (pcs hi lo).length = 8 := rfl
 have HTX : Hid (zcV hi lo = zjN (pcs hi lo)) := rfl
 generalize pcs hi lo = p at *
 have HCL := Lib.hid hcl
 have HPL := Lib.hid hpl
 clear hcl hpl
 go_wp2
 go_loop [6] (fun i => ∃ n : Nat, 1 ≤ n ∧ n ≤ 8 ∧ i = .int .i64 n ∧ Hid (∀ m g, n < m → g + m ≤ 8 → zrB p g m = false)) (fun i => (intOf i).toNat)
 case atStart => exact ⟨8, by omega, by omega, rfl, fun m g h1 h2 => by omega⟩
 case round =>
  obtain ⟨n, hn1, hn8, rfl, HN⟩ := hrel
  by_cases hn2 : 2 ≤ n
  ·have hd : decide ((2 : Int) ≤ (n : Int)) = true := decide_eq_true (by omega)
   go_wp2
   go_loop [7] (fun i => ∃ f : Nat, f ≤ 8 ∧ i = .int .i64 f ∧ Hid (∀ g, g < f → g + n ≤ 8 → zrB p g n = false)) (fun i => 9 - (intOf i).toNat)
   case atStart => exact ⟨0, by omega, rfl, fun g h1 h2 => by omega⟩
   case round =>
    obtain ⟨f, hf8, rfl, HF⟩ := hrel
    by_cases hfn : f + n ≤ 8
    ·have hd2 : decide ((f : Int) + (n : Int) ≤ 8) = true := decide_eq_true (by omega)
     cases hz : zrB p f n with
     | false =>
      have HF2 : Hid (∀ g, g < f + 1 → g + n ≤ 8 → zrB p g n = false) := fun g h1 h2 => by
       by_cases e : g = f
       ·subst e; exact hz
       ·exact HF.out g (by omega) h2
      have HZC := Lib.hid (zkS B 8 f n p x1 HCL.out HPL.out hfn)
      rw [hz] at HZC
      clear hz
      go_wp2_with (go_at_call 119; refine HZC.out.mono ?_; rintro e w' ⟨rfl, rfl⟩)
      go_round
      case rel => exact ⟨f + 1, by omega, by go_num, HF2⟩
      case measure => simp [intOf]; omega
     | true =>
      have HZC := Lib.hid (zkS B 8 f n p x1 HCL.out HPL.out hfn)
      rw [hz] at HZC
      have HE := Lib.hid (HTX.out.trans (z1I HPL.out hn2 hfn hz HN.out HF.out))
      clear hz
      go_wp2_with (go_at_call 119; refine HZC.out.mono ?_; rintro e w' ⟨rfl, rfl⟩)
      obtain ⟨j, hj⟩ : ∃ j, f + n = j := ⟨_, rfl⟩
      rw [hj] at HE
      obtain ⟨ao, hs2, hao⟩ := z1M B j (by omega)
      have hs1 := zwA B f (by omega)
      have HJ1 : Hid (∀ W, W.heap = x1.heap → Calls Tryz.prog 120 #[.slice (some ⟨B, 0, none⟩) f 8] W fun e w' => e = .returned (.string ⟨(zbD (p.take f)).toArray⟩) ∧ W = w') := fun W hW => by
       have hl : (p.take f).length = f := by rw [List.length_take, HPL.out]; omega
       have hq := ziG (some ⟨B, 0, none⟩) 8 (p.take f) W (zfA.of_row fun i hi => by
        rw [Nat.zero_add, zoX p f i (by omega)]
        rw [zkO hW]
        exact HCL.out i (by omega)) (HIN.out.take f) (by omega)
       rwa [hl] at hq
      have HJ2 : Hid (∀ W, W.heap = x1.heap → Calls Tryz.prog 120 #[.slice ao (8 - j) (8 - j)] W fun e w' => e = .returned (.string ⟨(zbD (p.drop j)).toArray⟩) ∧ W = w') := fun W hW => by
       have hl : (p.drop j).length = 8 - j := by rw [List.length_drop, HPL.out]
       have hq := ziG ao (8 - j) (p.drop j) W (fun i hi => by
        rw [hl] at hi
        refine ⟨B, j, hao (by omega), ?_⟩
        rw [zoQ p j i]
        rw [zkO hW]
        exact HCL.out (j + i) (by omega)) (HIN.out.drop j) (by omega)
       rwa [hl] at hq
      have hl1 : (zbD (p.take f)).length ≤ 40 := Nat.le_trans (zeZ (HIN.out.take f)) (by rw [List.length_take]; omega)
      have hl2 : (zbD (p.drop j)).length ≤ 40 := Nat.le_trans (zeZ (HIN.out.drop j)) (by rw [List.length_drop, HPL.out]; omega)
      generalize zbD (p.take f) = X at *
      generalize zbD (p.drop j) = Y at *
      have hadd1 : ∀ W, (Op.stringOp .add ⟨X.toArray⟩ ⟨#[58, 58]⟩).run Tryz.prog W = .ok (.string ⟨(X ++ [58, 58]).toArray⟩) W := fun W => by
       rw [run_string_add_sum W _ _ (by rw [zaD]; show X.length + 2 ≤ _; omega), show (ByteArray.mk #[58, 58]) = ByteArray.mk [58, 58].toArray from rfl, cat2]
      have hadd2 : ∀ W, (Op.stringOp .add ⟨(X ++ [58, 58]).toArray⟩ ⟨Y.toArray⟩).run Tryz.prog W = .ok (.string ⟨(X ++ [58, 58] ++ Y).toArray⟩) W := fun W => by
       rw [run_string_add_sum W _ _ (by rw [zaD, zaD, List.length_append]; show X.length + 2 + Y.length ≤ _; omega), cat2]
      have hw : IntKind.i64.wrap ((f : Int) + (n : Int)) = (j : Int) := by rw [IntKind.wrap_i64]; omega
      have HE2 : Hid (X ++ 58 :: 58 :: Y = zcV hi lo) := by show X ++ 58 :: 58 :: Y = zcV hi lo; rw [HE.out]; simp
      clear hao hj
      go_region_held3 (fun _ => True) (exact trivial)
       (first
        | (go_simp; go_at_call 120; ((with_reducible refine (HJ1.out _ (zrD _)).mono ?_); rintro e w4 ⟨rfl, rfl⟩))
        | (go_simp; go_at_call 120; ((with_reducible refine (HJ2.out _ (zrD _)).mono ?_); rintro e w5 ⟨rfl, rfl⟩)))
      go_wp2
      go_ret
      exact ⟨congrArg (fun l : List UInt8 => Ending.returned (.string ⟨l.toArray⟩)) HE2.out, hb1.drew⟩
    ·have hd2 : decide ((f : Int) + (n : Int) ≤ 8) = false := decide_eq_false (by omega)
     have HN2 : Hid (∀ m g, n - 1 < m → g + m ≤ 8 → zrB p g m = false) := fun m g h1 h2 => by
      by_cases e : m = n
      ·subst e; exact HF.out g (by omega) h2
      ·exact HN.out m g (by omega) h2
     go_wp2
     go_round
     case rel => exact ⟨n - 1, by omega, by omega, congrArg (Value.int .i64) (by omega), HN2⟩
     case measure => simp [intOf]; omega
  ·obtain rfl : n = 1 := by omega
   have HE := Lib.hid (HTX.out.trans (z5J HPL.out HN.out))
   rw [show ((1 : Nat) : Int) = 1 from rfl]
   have HJ : Hid (Calls Tryz.prog 120 #[.slice (some ⟨B, 0, none⟩) 8 8] x1 fun e w' => e = .returned (.string ⟨(zbD p).toArray⟩) ∧ x1 = w') := by
    show Calls _ _ _ _ _
    have := ziG (some ⟨B, 0, none⟩) 8 p x1 (zfA.of_row fun j hj => by rw [Nat.zero_add]; exact HCL.out j (by rw [HPL.out] at hj; exact hj)) HIN.out (by rw [HPL.out]; omega)
    rwa [HPL.out] at this
   go_wp2_with fail
   refine HJ.out.mono ?_
   rintro e w' ⟨rfl, rfl⟩
   go_wp2
   go_ret
   exact ⟨congrArg (fun l : List UInt8 => Ending.returned (.string ⟨l.toArray⟩)) HE.out.symm, hb1⟩
end
section
open Go.RowKit
theorem ycU : ∀ d : Fin 16, (dgt d.val).toNat ≠ 58 ∧ (dgt d.val).toNat ≠ 46 := by decide +kernel
theorem yaL (d : Nat) (h : d < 16) : (dgt d).toNat ≠ 58 ∧ (dgt d).toNat ≠ 46 := ycU ⟨d, h⟩
theorem z4H (a : List UInt8) (c : UInt8) : valP 16 (a ++ [c]) = valP 16 a * 16 + valZ (c.toNat : Int) := by simp [valP]
theorem z2F (a : List UInt8) (c : UInt8) : zbL 16 (a ++ [c]) = (zbL 16 a && digC 16 c) := by simp [zbL]
theorem zeV (u : Nat) : zbL 16 (hexD u) = true ∧ valP 16 (hexD u) = (u : Int) ∧ hexD u ≠ [] ∧ ∀ c ∈ hexD u, c.toNat ≠ 58 ∧ c.toNat ≠ 46 := by
 induction u using Nat.strongRecOn with
 | ind u ih =>
  by_cases h : u < 16
  ·rw [zfZ u h]
   refine ⟨?_, ?_, by simp, fun c hc => ?_⟩
   ·simp [zbL, z3A 16 u h (by omega)]
   ·simp [valP, zqQ u h]
   ·simp at hc; subst hc; exact yaL u h
  ·rw [ziT u (by omega)]
   obtain ⟨h1, h2, h3, h4⟩ := ih (u / 16) (by omega)
   have hm : u % 16 < 16 := by omega
   refine ⟨?_, ?_, by simp, fun c hc => ?_⟩
   ·rw [z2F, h1, z3A 16 _ hm (by omega)]; rfl
   ·rw [z4H, h2, zqQ _ hm]; omega
   ·rcases List.mem_append.1 hc with hc | hc
    ·exact h4 c hc
    ·simp at hc; subst hc; exact yaL _ hm
theorem yaJ {k c : UInt8} (h : c.toNat ≠ k.toNat) : hasB [k] c = false := by
 have : k ≠ c := fun e => h (by rw [e])
 simp [hasB, this]
theorem z0R {x : Int} (h : 0 ≤ x ∧ x ≤ 65535) : zeA (hexI x) = (x, true) := by
 obtain ⟨h1, h2, h3, _⟩ := zeV x.toNat
 have hl : (hexD x.toNat).length ≤ 4 := zlK h
 have hp : 0 < (hexD x.toNat).length := List.length_pos_iff.2 h3
 unfold hexI
 rw [zoO (by omega) h1]
 congr 1
 rw [h2]; omega
theorem zwR (x : Int) : (zaO (hexI x)).2 = false := by
 unfold hexI
 rw [zpK]
 rw [zkB _ (fun c hc => yaJ ((zeV x.toNat).2.2.2 c hc).2)]
 simp
theorem zwG (a r : List UInt8) (h : ∀ c ∈ a, hasB [58] c = false) : zcU (a ++ [58] ++ r) = a :: zcU r := by
 unfold zcU splitB spl
 rw [List.foldl_append, List.foldl_append, zlG _ a [] [] h]
 have e : [58].foldl (zaW (hasB [58])) (([] : List (List UInt8)), ([] : List UInt8) ++ a) = ([a], []) := by simp [zaW, hasB]
 rw [e, zmB _ r [a] []]
 simp
theorem zyW (a : List UInt8) (h : ∀ c ∈ a, hasB [58] c = false) : zcU a = [a] := by
 unfold zcU splitB spl
 rw [zlG _ a [] [] h]
 simp
theorem join_cons (sep x y : List UInt8) (z : List (List UInt8)) : Lib.join (x :: y :: z) sep = x ++ sep ++ Lib.join (y :: z) sep := by simp [Lib.join, List.intercalate]
theorem zxO (x : Int) : ∀ c ∈ hexI x, hasB [58] c = false := fun c hc => yaJ ((zeV x.toNat).2.2.2 c hc).1
theorem zvO (l : List Int) (h : l ≠ []) : zcU (zbD l) = l.map hexI := by
 induction l with
 | nil => exact absurd rfl h
 | cons x r ih =>
  cases r with
  | nil => simp only [zbD, List.map_cons, List.map_nil]; rw [show Lib.join [hexI x] [58] = hexI x from by simp [Lib.join]]; exact zyW _ (zxO x)
  | cons y r =>
   have e : zbD (x :: y :: r) = hexI x ++ [58] ++ zbD (y :: r) := join_cons _ _ _ _
   rw [e, zwG _ _ (zxO x), ih (by simp)]
   rfl
theorem z8G (last : Bool) (l : List Int) (h : In16 l) : ∀ acc, rowP last acc (l.map hexI) = (acc ++ l, true) := by
 induction l with
 | nil => intro acc; simp [rowP]
 | cons x r ih =>
  intro acc
  rw [List.map_cons, zjH (x := x) (fun hc => by rw [zwR] at hc; exact absurd hc.2.2 (by decide)) (z0R (h x (by simp))), ih (fun y hy => h y (by simp [hy]))]
  simp
theorem zyF (l : List Int) (h : l ≠ []) : zbD l ≠ [] := by
 cases l with
 | nil => exact absurd rfl h
 | cons x r =>
  have hx : hexI x ≠ [] := (zeV x.toNat).2.2.1
  cases r with
  | nil => simpa [zbD, Lib.join] using hx
  | cons y r =>
   rw [show zbD (x :: y :: r) = hexI x ++ [58] ++ zbD (y :: r) from join_cons _ _ _ _]
   simp
theorem zlV (last : Bool) (l : List Int) (h : In16 l) : rowZ (zbD l) last = (l, true) := by
 by_cases e : l = []
 ·subst e; rfl
 ·unfold rowZ
  rw [if_neg (zyF l e), zvO l e, z8G last l h]
  rfl
theorem zpW (x y : List UInt8) (h : ∀ c ∈ x, c ≠ 58) : ccAt (x ++ y) = (ccAt y).map (· + x.length) := by
 induction x with
 | nil => show ccAt y = _; cases ccAt y <;> rfl
 | cons a r ih =>
  rw [List.cons_append, ccAt, if_neg (fun hc => h a (by simp) hc.1), ih (fun c hc => h c (by simp [hc]))]
  cases ccAt y with
  | none => rfl
  | some k => simp; omega
theorem zyG (z : List UInt8) (h : z.head? ≠ some 58) : ccAt (58 :: z) = (ccAt z).map (· + 1) := by
 rw [ccAt, if_neg (fun hc => h hc.2)]
theorem zhG (x : Int) : ∀ c ∈ hexI x, c ≠ 58 := fun c hc e => ((zeV x.toNat).2.2.2 c hc).1 (by rw [e]; rfl)
theorem zoE (l : List Int) : (zbD l).head? ≠ some 58 := by
 cases l with
 | nil => simp [zbD, Lib.join]
 | cons x r =>
  have hx := (zeV x.toNat).2.2.1
  have h58 := zhG x
  have key : ∀ y, (hexI x ++ y).head? ≠ some 58 := fun y => by
   cases e : hexI x with
   | nil => exact absurd e hx
   | cons c s =>
    rw [e] at h58
    intro hc
    simp at hc
    exact h58 c (by simp) hc
  cases r with
  | nil => have := key []; simpa [zbD, Lib.join] using this
  | cons y r =>
   rw [show zbD (x :: y :: r) = hexI x ++ [58] ++ zbD (y :: r) from join_cons _ _ _ _, List.append_assoc]
   exact key _
theorem ycH (l : List Int) : ccAt (zbD l) = none := by
 induction l with
 | nil => rfl
 | cons x r ih =>
  cases r with
  | nil =>
   rw [show zbD [x] = hexI x ++ [] from by simp [zbD, Lib.join], zpW _ _ (zhG x)]
   rfl
  | cons y r =>
   rw [show zbD (x :: y :: r) = hexI x ++ [58] ++ zbD (y :: r) from join_cons _ _ _ _, List.append_assoc, zpW _ _ (zhG x)]
   rw [show [58] ++ zbD (y :: r) = 58 :: zbD (y :: r) from rfl, zyG _ (zoE _), ih]
   rfl
theorem cc_two (l : List Int) (y : List UInt8) : ccAt (zbD l ++ 58 :: 58 :: y) = some (zbD l).length := by
 induction l with
 | nil => rfl
 | cons x r ih =>
  cases r with
  | nil =>
   rw [show zbD [x] = hexI x from by simp [zbD, Lib.join], zpW _ _ (zhG x)]
   rw [show ccAt (58 :: 58 :: y) = some 0 from by rw [ccAt, if_pos ⟨rfl, rfl⟩]]
   simp
  | cons z r =>
   rw [show zbD (x :: z :: r) = hexI x ++ [58] ++ zbD (z :: r) from join_cons _ _ _ _, List.append_assoc, List.append_assoc, zpW _ _ (zhG x)]
   have hh : (zbD (z :: r) ++ 58 :: 58 :: y).head? ≠ some 58 := by
    have h1 := zoE (z :: r)
    have h2 := zyF (z :: r) (by simp)
    cases e : zbD (z :: r) with
    | nil => exact absurd e h2
    | cons c s => rw [e] at h1; simpa using h1
   rw [show [58] ++ (zbD (z :: r) ++ 58 :: 58 :: y) = 58 :: (zbD (z :: r) ++ 58 :: 58 :: y) from rfl, zyG _ hh, ih]
   simp only [Option.map_some, List.length_append, List.length_singleton]
   congr 1
   omega
theorem ybS {p : List Int} {f n : Nat} (hl : f + n ≤ p.length) (h : zrB p f n = true) : p.take f ++ List.replicate n 0 ++ p.drop (f + n) = p := by
 have e : (p.drop f).take n = List.replicate n 0 := by
  rw [List.eq_replicate_iff]
  refine ⟨by simp; omega, fun x hx => ?_⟩
  have := List.all_eq_true.1 h x hx
  exact of_decide_eq_true this
 rw [← e, ← List.drop_drop, List.append_assoc, List.take_append_drop, List.take_append_drop]
theorem z3W {p : List Int} (hp : p.length = 8) (hin : In16 p) : sixL (zjN p) = (p, true) := by
 have hle := zlZ p
 unfold zjN
 split
 ·rw [zsX (ycH p) (zlV true p hin), if_pos ⟨rfl, hp⟩]
 ·rename_i hne
  have his := z8A hp hne
  generalize (lrAt (zbX p) 8).2.1 = F at *
  generalize (lrAt (zbX p) 8).2.2 = T at *
  have hcat : zbD (p.take F) ++ [58, 58] ++ zbD (p.drop T) = zbD (p.take F) ++ 58 :: 58 :: zbD (p.drop T) := by simp
  rw [hcat]
  have h1 : (zbD (p.take F) ++ 58 :: 58 :: zbD (p.drop T)).take (zbD (p.take F)).length = zbD (p.take F) := List.take_left
  have h2 : (zbD (p.take F) ++ 58 :: 58 :: zbD (p.drop T)).drop ((zbD (p.take F)).length + 2) = zbD (p.drop T) := by
   rw [← List.drop_drop, List.drop_left]; rfl
  rw [zuD (T := p.take F) (U := p.drop T) (b := true) (c := true) (cc_two (p.take F) (zbD (p.drop T))) (by rw [h1]; exact zlV false _ (hin.take F)) (by rw [h2]; exact zlV true _ (hin.drop T))]
  have hlen : (p.take F).length + (p.drop T).length = 8 - (T - F) := by rw [List.length_take, List.length_drop, hp]; omega
  rw [if_pos ⟨rfl, rfl, by omega⟩, hlen, show 8 - (8 - (T - F)) = T - F from by omega]
  have := ybS (p := p) (f := F) (n := T - F) (by omega) his.2
  rw [show F + (T - F) = T from by omega] at this
  rw [this]
theorem zxM {hi lo : Int} (h0 : 0 ≤ hi) (h1 : hi ≤ 18446744073709551615) (l0 : 0 ≤ lo) (l1 : lo ≤ 18446744073709551615) : sixZ (zcV hi lo) = ((hi, lo), true) := by
 unfold sixZ zcV
 rw [z3W rfl (zoR h0 h1 l0 l1), ycD, ycK]
theorem z6J (ps : List (List UInt8)) (h : ∀ p ∈ ps, p.length ≤ 4) (hn : ps ≠ []) : (Lib.join ps [58]).length + 1 ≤ 5 * ps.length := by
 induction ps with
 | nil => exact absurd rfl hn
 | cons p r ih =>
  have h1 := h p (by simp)
  cases r with
  | nil => simp [Lib.join]; omega
  | cons q r =>
   have h2 := ih (fun x hx => h x (by simp [hx])) (by simp)
   rw [join_cons, List.length_append, List.length_append, List.length_cons (a := p)]
   simp only [List.length_singleton]
   omega
theorem znR {hi lo : Int} (h0 : 0 ≤ hi) (h1 : hi ≤ 18446744073709551615) (l0 : 0 ≤ lo) (l1 : lo ≤ 18446744073709551615) : (zcV hi lo).length ≤ 39 := by
 have hin := zoR h0 h1 l0 l1
 have hp : (pcs hi lo).length = 8 := rfl
 unfold zcV
 generalize pcs hi lo = p at *
 have hle := zlZ p
 unfold zjN
 split
 ·have := z6J (p.map hexI) (fun q hq => by
   obtain ⟨x, hx, rfl⟩ := List.mem_map.1 hq
   exact zlK (hin x hx)) (by intro e; rw [List.map_eq_nil_iff] at e; rw [e] at hp; cases hp)
  rw [List.length_map, hp] at this
  unfold zbD
  omega
 ·rename_i hne
  have his := z8A hp hne
  have a1 := zeZ (hin.take (lrAt (zbX p) 8).2.1)
  have a2 := zeZ (hin.drop (lrAt (zbX p) 8).2.2)
  rw [List.length_take, hp] at a1
  rw [List.length_drop, hp] at a2
  simp only [List.length_append, List.length_cons, List.length_nil]
  omega
end
end

end Go.Proofs.YtphapecoimlngaaGreatDoor
