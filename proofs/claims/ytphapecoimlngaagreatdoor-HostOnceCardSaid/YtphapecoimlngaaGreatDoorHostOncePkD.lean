/-
  What the law HostOnce leans on, and its walk (4 of 18).
-/
import Derived.Lib.Strings
import Derived.Test.YtphapecoimlngaaGreatDoorHostOncePkC
import Derived.Test.YtphapecoimlngaaGreatDoorHostOncePkA
namespace Go.Proofs.YtphapecoimlngaaGreatDoor
set_option maxRecDepth 100000
set_option maxHeartbeats 16000000
section
open Go.RowKit
def badL : List UInt8 := [34, 35, 37, 47, 58, 60, 62, 63, 64, 91, 92, 93, 94, 96, 123, 124, 125]
def ziB (c : UInt8) : Bool := decide (33 ≤ c.toNat ∧ c.toNat ≤ 126) && !hasB badL c
def zaQ (l : List UInt8) : List (List UInt8) := (zaF l).take (zfL (zaF l))
def zmD (l : List UInt8) : Nat := if l.getLast? = some 46 then l.length - 1 else l.length
def zhD (w : List UInt8) : Bool := decide (1 ≤ w.length ∧ w.length ≤ 63)
def zhY (w : List UInt8) : Bool := Lib.hasPrefix w [120, 110, 45, 45]
def zgE (l : List UInt8) : Bool := decide (zmD l ≤ 253) && (zaQ l).all zhD
def zhB (l : List UInt8) : Bool := l.all ziB
def zdR (l : List UInt8) : Bool := l.all fun c => decide (c.toNat < 128)
def zpE (l : List UInt8) : Int := if (zgE l && zhB l) = false then 6 else if (zaQ l).any zhY = true then 7 else 0
def zhC (l : List UInt8) : Int := if zdR l = false then 7 else zpE (zbQ l)
def zbM (l : List UInt8) : List UInt8 × Int := if zhC l = 0 then (zbQ l, 0) else ([], zhC l)
def zlI (n m : List UInt8) : Bool := decide ((zaQ m).length < (zaQ n).length) && (zaQ m).any (fun w => !w.isEmpty) && (zaQ n).drop ((zaQ n).length - (zaQ m).length) == zaQ m
theorem zvJ (r : List UInt8) (c : UInt8) : Lib.hasSuffix r [c] = decide (r.getLast? = some c) := by
 rw [Bool.eq_iff_iff, decide_eq_true_iff]
 unfold Lib.hasSuffix
 rw [List.isSuffixOf_iff_suffix, List.getLast?_eq_some_iff]
 exact ⟨fun ⟨t, h⟩ => ⟨t, h.symm⟩, fun ⟨t, h⟩ => ⟨t, h.symm⟩⟩
theorem zjZ (r : List UInt8) (c : UInt8) : Lib.trimSuffix r [c] = if r.getLast? = some c then r.dropLast else r := by
 unfold Lib.trimSuffix
 rw [zvJ]
 simp [List.dropLast_eq_take]
theorem z1Y (l : List UInt8) : (Lib.trimSuffix l [46]).length = zmD l := by
 rw [zjZ]
 unfold zmD
 split <;> simp
theorem z1W (p : UInt8 → Bool) (h : ∀ n : Fin 256, p (UInt8.ofNat n.val) = true) (c : UInt8) : p c = true := by
 have := h ⟨c.toNat, c.toNat_lt⟩
 rwa [show UInt8.ofNat c.toNat = c from by simp] at this
theorem z8V (c : UInt8) : lowC (lowC c) = lowC c := by simpa using z1W (fun c => lowC (lowC c) == lowC c) (by decide +kernel) c
theorem z2K (c : UInt8) (h : c.toNat < 128) : (lowC c).toNat < 128 := by
 have := z1W (fun c => !decide (c.toNat < 128) || decide ((lowC c).toNat < 128)) (by decide +kernel) c
 simpa [h] using this
theorem zsG (c : UInt8) (h : ziB c = true) : c.toNat < 128 ∧ c.toNat ≠ 37 ∧ c.toNat ≠ 91 := by
 have := z1W (fun c => !ziB c || (decide (c.toNat < 128) && (decide (c.toNat ≠ 37) && decide (c.toNat ≠ 91)))) (by decide +kernel) c
 simpa [h] using this
theorem zjH (a b : List UInt8) : zbQ (a ++ b) = zbQ a ++ zbQ b := by simp [zbQ]
theorem zlB (l : List UInt8) : zbQ (zbQ l) = zbQ l := by simp [zbQ, z8V]
theorem zkZ {l : List UInt8} : zdR l = true ↔ ∀ c ∈ l, c.toNat < 128 := by simp [zdR]
theorem zuG {l : List UInt8} (h : zdR l = true) : zdR (zbQ l) = true := by
 rw [zkZ] at *
 intro c hc
 obtain ⟨d, hd, rfl⟩ := List.mem_map.1 hc
 exact z2K d (h d hd)
/-- what is a name: its text in small letters, and that is one -/
structure zcF (n : List UInt8) : Prop where
 low : zbQ n = n
 size : zmD n ≤ 253
 lab : ∀ w ∈ zaQ n, 1 ≤ w.length ∧ w.length ≤ 63
 sign : ∀ c ∈ n, ziB c = true
 code : ∀ w ∈ zaQ n, zhY w = false
theorem zvN {l : List UInt8} (hl : zbQ l = l) : zpE l = 0 ↔ zcF l := by
 unfold zpE zgE zhB
 constructor
 ·intro h
  split at h
  ·cases h
  ·rename_i h1
   split at h
   ·cases h
   ·rename_i h2
    simp [zhD] at h1 h2
    exact ⟨hl, h1.1, fun w hw => h1.2.1 w hw, h1.2.2, h2⟩
 ·intro h
  rw [if_neg, if_neg]
  ·simpa using h.code
  ·have h1 : (zaQ l).all zhD = true := List.all_eq_true.2 fun w hw => decide_eq_true (h.lab w hw)
   have h2 : l.all ziB = true := List.all_eq_true.2 h.sign
   rw [h1, h2, decide_eq_true h.size]
   simp
theorem zcF.plain {n : List UInt8} (h : zcF n) : zdR n = true := zkZ.2 fun c hc => (zsG c (h.sign c hc)).1
theorem z1L {l : List UInt8} (hp : zdR l = true) (h : zcF (zbQ l)) : zhC l = 0 := by
 unfold zhC
 rw [if_neg (by simp [hp]), (zvN (zlB l)).2 h]
theorem z1V {l : List UInt8} (h : zhC l = 0) : zdR l = true ∧ zcF (zbQ l) := by
 unfold zhC at h
 cases hp : zdR l with
 | false => rw [hp] at h; cases h
 | true => rw [hp] at h; exact ⟨rfl, (zvN (zlB l)).1 h⟩
theorem z2U {l n : List UInt8} (hp : zdR l = true) (e : zbQ l = n) (h : zcF n) : zbM l = (n, 0) := by
 subst e
 unfold zbM
 rw [if_pos (z1L hp h)]
theorem zcF.canon {n : List UInt8} (h : zcF n) : zbM n = (n, 0) := z2U h.plain h.low h
theorem zpT {l : List UInt8} (h : (zbM l).2 = 0) : zbM l = (zbQ l, 0) ∧ zcF (zbQ l) := by
 unfold zbM at *
 split at h
 ·rename_i h0
  rw [if_pos h0]
  exact ⟨rfl, (z1V h0).2⟩
 ·rename_i h0
  exact absurd h h0
theorem ziQ {l : List UInt8} (h : (zbM l).2 = 0) : zcF (zbM l).1 := by
 have := zpT h
 rw [this.1]
 exact this.2
theorem z2S {l : List UInt8} (h : (zbM l).2 ≠ 0) : (zbM l).1 = [] := by
 unfold zbM at *
 split
 ·rename_i h0; rw [if_pos h0] at h; exact absurd rfl h
 ·rfl
theorem z3O (l : List UInt8) : (zbM l).2 = 0 ∨ (zbM l).2 = 6 ∨ (zbM l).2 = 7 := by
 unfold zbM zhC zpE
 repeat' split
 all_goals simp_all
theorem zgL (l : List UInt8) : 0 < (zaF l).length := by simp [zaF, splitB]
theorem zpL {ps : List (List UInt8)} (h : 0 < ps.length) : 0 < zfL ps := by unfold zfL; split <;> omega
theorem zvZ (l : List UInt8) : 0 < (zaQ l).length := by
 unfold zaQ
 rw [List.length_take]
 have := zgL l
 have := zpL this
 omega
theorem zuD (a b : List UInt8) : zaF (a ++ [46] ++ b) = zaF a ++ zaF b := by
 have e : spl (hasB [46]) (a ++ [46] ++ b) = (zaF a ++ (spl (hasB [46]) b).1, (spl (hasB [46]) b).2) := by
  rw [ziS, zxQ, zkF]
  rfl
 show (spl (hasB [46]) (a ++ [46] ++ b)).1 ++ [(spl (hasB [46]) (a ++ [46] ++ b)).2] = _
 rw [e]
 simp [zaF, splitB]
theorem zrK (xs ys : List (List UInt8)) (h : 0 < ys.length) (h1 : ys ≠ [[]]) : zfL (xs ++ ys) = xs.length + zfL ys := by
 have hd : (xs ++ ys).getD ((xs ++ ys).length - 1) [] = ys.getD (ys.length - 1) [] := by
  simp only [List.getD, List.length_append]
  rw [List.getElem?_append_right (by omega), show xs.length + ys.length - 1 - xs.length = ys.length - 1 from by omega]
 unfold zfL
 rw [hd, List.length_append]
 match ys, h with
 | [y], _ =>
  have hy : y ≠ [] := fun e => h1 (by rw [e])
  rw [if_neg (fun h => hy h.2), if_neg (fun h => hy h.2)]
 | y :: z :: ys, _ =>
  simp only [List.length_cons]
  by_cases e : (y :: z :: ys).getD (ys.length + 1 + 1 - 1) [] = []
  ·rw [if_pos ⟨by omega, e⟩, if_pos ⟨by omega, e⟩]; omega
  ·rw [if_neg (fun h => e h.2), if_neg (fun h => e h.2)]
theorem zkO (a b : List UInt8) (h : zaF b ≠ [[]]) : zaQ (a ++ [46] ++ b) = zaF a ++ zaQ b := by
 unfold zaQ
 rw [zuD, zrK _ _ (zgL b) h, List.take_append, List.take_of_length_le (by omega), show (zaF a).length + zfL (zaF b) - (zaF a).length = zfL (zaF b) from by omega]
theorem zcF.ne {n : List UInt8} (h : zcF n) : zaF n ≠ [[]] := fun e => by
 have := (h.lab [] (by unfold zaQ; rw [e]; decide)).1
 simp at this
theorem ztD {a : List UInt8} (hn : a ≠ []) (h : a.getLast hn ≠ 46) : zaQ a = zaF a := by
 unfold zaQ
 have := zdD (spl (hasB [46]) a).1.length (zaF a) (by rw [zlC]; simp) (.inr (by rw [zlC, z2F]; exact z4R a hn h))
 rw [this, List.take_of_length_le (by rw [zlC]; simp)]
theorem z9D (p : UInt8 → Bool) : ∀ (l : List UInt8) (st : List (List UInt8) × List UInt8) (P : UInt8 → Prop), (∀ c ∈ l, P c) → (∀ w ∈ st.1, ∀ c ∈ w, P c ∧ p c = false) → (∀ c ∈ st.2, P c ∧ p c = false) →
  (∀ w ∈ (l.foldl (zaR p) st).1, ∀ c ∈ w, P c ∧ p c = false) ∧ ∀ c ∈ (l.foldl (zaR p) st).2, P c ∧ p c = false := by
 intro l
 induction l with
 | nil => intro st P _ h1 h2; exact ⟨h1, h2⟩
 | cons d l ih =>
  intro st P h0 h1 h2
  rw [List.foldl_cons]
  refine ih _ P (fun c hc => h0 c (by simp [hc])) ?_ ?_
  ·unfold zaR
   split
   ·intro w hw
    rcases List.mem_append.1 hw with h | h
    ·exact h1 w h
    ·rw [List.mem_singleton.1 h]; exact h2
   ·exact h1
  ·unfold zaR
   split
   ·intro c hc; cases hc
   ·rename_i hp
    intro c hc
    rcases List.mem_append.1 hc with h | h
    ·exact h2 c h
    ·rw [List.mem_singleton.1 h]; exact ⟨h0 d (by simp), by simpa using hp⟩
theorem z3T {l w : List UInt8} (h : w ∈ zaF l) : ∀ c ∈ w, c ∈ l ∧ hasB [46] c = false := by
 have k := z9D (hasB [46]) l ([], []) (· ∈ l) (fun _ h => h) (by simp) (by simp)
 rcases List.mem_append.1 h with h | h
 ·exact k.1 w h
 ·rw [List.mem_singleton.1 h]; exact k.2
theorem zxH {l w : List UInt8} (h : w ∈ zaQ l) : w ∈ zaF l := List.mem_of_mem_take h
theorem zjX (l : List UInt8) : l.length ≤ zmD l + 1 := by unfold zmD; split <;> omega
theorem z0P {l : List UInt8} (h : zgE l = true) : l.length ≤ 254 := by
 unfold zgE at h
 have := of_decide_eq_true (Bool.and_eq_true_iff.1 h).1
 have := zjX l
 omega
theorem zoX (l : List UInt8) : zmD l ≤ l.length := by unfold zmD; split <;> omega
/-- a label of a name is a name -/
theorem zcF.label {n w : List UInt8} (h : zcF n) (hw : w ∈ zaQ n) : zcF w := by
 have hin := z3T (zxH hw)
 have hd : zaF w = [w] := ziM w fun c hc => (hin c hc).2
 have hl : zaQ w = [w] := by
  unfold zaQ
  rw [hd, zdD 0 [w] rfl (.inl rfl)]
  rfl
 obtain ⟨h1, h2⟩ := h.lab w hw
 refine ⟨?_, Nat.le_trans (zoX w) (by omega), ?_, fun c hc => h.sign c (hin c hc).1, ?_⟩
 ·have key : ∀ l : List UInt8, zbQ l = l → ∀ c ∈ l, lowC c = c := by
   intro l
   induction l with
   | nil => intro _ c hc; cases hc
   | cons d l ih =>
    intro he c hc
    have he' : lowC d :: zbQ l = d :: l := he
    injection he' with e1 e2
    rcases List.mem_cons.1 hc with rfl | h
    ·exact e1
    ·exact ih e2 c h
  have hk := key n h.low
  unfold zbQ
  conv => rhs; rw [← List.map_id w]
  exact List.map_congr_left fun c hc => hk c (hin c hc).1
 ·rw [hl]; intro v hv; rw [List.mem_singleton.1 hv]; exact ⟨h1, h2⟩
 ·rw [hl]; intro v hv; rw [List.mem_singleton.1 hv]; exact h.code w hw
theorem zyD {xs : List (List UInt8)} {x n : List UInt8} (hn : zcF n) (hx : zaQ x = xs ++ zaQ n) (h0 : 0 < xs.length) : zlI x n = true := by
 unfold zlI
 have h1 : (zaQ n).any (fun w => !w.isEmpty) = true := by
  have hp := zvZ n
  match e : zaQ n, hp with
  | w :: ws, _ =>
   have := (hn.lab w (by rw [e]; simp)).1
   cases w with
   | nil => simp at this
   | cons c w => simp
 rw [h1, hx, List.length_append, decide_eq_true (by omega), show xs.length + (zaQ n).length - (zaQ n).length = xs.length from by omega, List.drop_left]
 simp
theorem zrP {n m : List UInt8} (h : (zaQ n).length ≤ (zaQ m).length) : zlI n m = false := by
 unfold zlI
 rw [decide_eq_false (by omega)]
 rfl
theorem zcF.join {a b : List UInt8} (ha : zcF a) (hb : zcF b) (hl : a.length + b.length ≤ 250) (hn : a ≠ []) (hd : a.getLast hn ≠ 46) : zcF (a ++ [46] ++ b) ∧ zaQ (a ++ [46] ++ b) = zaQ a ++ zaQ b := by
 have e : zaQ (a ++ [46] ++ b) = zaQ a ++ zaQ b := by rw [zkO a b hb.ne, ztD hn hd]
 refine ⟨⟨?_, Nat.le_trans (zoX _) (by simp; omega), ?_, ?_, ?_⟩, e⟩
 ·rw [zjH, zjH, ha.low, hb.low]; rfl
 ·rw [e]; intro w hw
  rcases List.mem_append.1 hw with h | h
  ·exact ha.lab w h
  ·exact hb.lab w h
 ·intro c hc
  rcases List.mem_append.1 hc with h | h
  ·rcases List.mem_append.1 h with h | h
   ·exact ha.sign c h
   ·rw [List.mem_singleton.1 h]; decide
  ·exact hb.sign c h
 ·rw [e]; intro w hw
  rcases List.mem_append.1 hw with h | h
  ·exact ha.code w h
  ·exact hb.code w h
/-- what stands below a name, with a label more ahead -/
theorem zcF.more {a n : List UInt8} (hn : zcF n) : zlI (a ++ [46] ++ n) n = true ∧ zlI n (a ++ [46] ++ n) = false ∧ zlI n n = false := by
 have e := zkO a n hn.ne
 exact ⟨zyD hn e (zgL a), zrP (by rw [e, List.length_append]; omega), zrP (Nat.le_refl _)⟩
end

section
open Go.RowKit
/-- texts that lie in a row from the beginning of block g on -/
def Seen (w : World) (g : Nat) (ps : List (List UInt8)) : Prop := g < w.heap.size ∧ ∀ j, j < ps.length → w.cell? ⟨g, j, none⟩ = some (.string ⟨(ps.getD j []).toArray⟩)
theorem Seen.keep {w w' : World} {g : Nat} {ps : List (List UInt8)} (h : Seen w g ps) (hb : Below w.heap.size w w') : Seen w' g ps := ⟨Nat.lt_of_lt_of_le h.1 hb.size, fun j hj => (hb.cell (p := ⟨g, j, none⟩) h.1).trans (h.2 j hj)⟩
def z0H (w : World) (ps : List (List UInt8)) (e : Ending) (w' : World) : Prop := ∃ g c, e = .returned (.slice (some ⟨g, 0, none⟩) ps.length c) ∧ ps.length ≤ c ∧ Seen w' g ps ∧ Below w.heap.size w w'
theorem zgV {w w' : World} {ps qs : List (List UInt8)} {g c n k : Nat} (hq : ps.take k = qs) (hk : k ≤ ps.length) (hn : n = k) (hcap : k ≤ c) (hg : g < w'.heap.size) (hc : ∀ j, j < ps.length → w'.cell? ⟨g, j, none⟩ = some (.string ⟨(ps.getD j []).toArray⟩)) (hb : Below w.heap.size w w') : z0H w qs (.returned (.slice (some ⟨g, 0, none⟩) n c)) w' := by
 subst hq hn
 refine ⟨g, c, by rw [List.length_take, Nat.min_eq_left hk], by rw [List.length_take, Nat.min_eq_left hk]; exact hcap, ⟨hg, fun j hj => ?_⟩, hb⟩
 rw [List.length_take, Nat.min_eq_left hk] at hj
 rw [hc j (by omega)]
 simp [List.getD, hj]
theorem zcL (s : ByteArray) (w : World) : Calls Tryz.prog 14 #[.string s] w fun e w' => e = .returned (.string s) ∧ w = w' := by
 go_enter Tryz.func14, Tryz.ntmps14
 go_wp2
 go_ret
 exact ⟨rfl, rfl⟩
theorem zqY (l : List UInt8) : ∃ L x, (zaF l).length = L + 1 ∧ (zaF l).getD L [] = x ∧ L ≤ l.length ∧ (0 < L ∧ x = [] ∧ zfL (zaF l) = L ∨ (L = 0 ∨ x ≠ []) ∧ zfL (zaF l) = L + 1) := by
 have h0 := zgL l
 have hl := zcU (hasB [46]) l
 obtain ⟨L, hL⟩ : ∃ L, (zaF l).length = L + 1 := ⟨(zaF l).length - 1, by omega⟩
 refine ⟨L, _, hL, rfl, by unfold zaF at hL; omega, ?_⟩
 by_cases h : 0 < L ∧ (zaF l).getD L [] = []
 ·obtain ⟨h1, h2⟩ := h
  refine .inl ⟨h1, h2, ?_⟩
  obtain ⟨n, rfl⟩ : ∃ n, L = n + 1 := ⟨L - 1, by omega⟩
  exact zgK n _ hL h2
 ·have hc : L = 0 ∨ (zaF l).getD L [] ≠ [] := by
   by_cases e : L = 0
   ·exact .inl e
   ·exact .inr fun e2 => h ⟨by omega, e2⟩
  exact .inr ⟨hc, zdD L _ hL hc⟩
theorem zmO (l : List UInt8) : (zaQ l).length ≤ l.length + 1 := by
 have h1 := zcU (hasB [46]) l
 unfold zaQ zaF
 rw [List.length_take]
 omega
theorem zmH (s : ByteArray) (w : World) (hs : s.size ≤ 1073741824) :
  Calls Tryz.prog 16 #[.string s] w (z0H w (zaQ s.data.toList)) := by
 obtain ⟨L, x, hL, hx, hLl, hc⟩ := zqY s.data.toList
 rw [zaM] at hLl
 go_enter Tryz.func16, Tryz.ntmps16
 go_wp2_with fail
 refine (zcL s _).mono ?_
 rintro e w' ⟨rfl, rfl⟩
 go_wp2_with fail
 refine (zcJ s _ _ hs).mono ?_
 rintro e w1 ⟨v, rfl, hp, hb1⟩
 have hp' : zbZ w.heap.size w1 v (zaF s.data.toList) := hp
 obtain ⟨g, cap, rfl, hcap, hg, hcell⟩ := hp'.form2 (by omega)
 rw [hL] at hcap ⊢
 have hcx := hcell L (by omega)
 rw [hx] at hcx
 have HC := Lib.hid hcell
 have HL := Lib.hid hL
 have HX := Lib.hid hx
 clear hcell hp hp' hL hx
 rcases hc with ⟨h1, rfl, hk⟩ | ⟨rfl | hne, hk⟩
 ·have HK := Lib.hid hk
  obtain ⟨n, rfl⟩ : ∃ n, L = n + 1 := ⟨L - 1, by omega⟩
  clear hk h1
  go_wp2
  go_ret
  exact zgV (k := n + 1) (by unfold zaQ; rw [HK.out]) (by rw [HL.out]; omega) (by omega) (by omega) hg HC.out hb1
 ·have HK := Lib.hid hk
  clear hk
  go_wp2
  go_ret
  exact zgV (k := 1) (by unfold zaQ; rw [HK.out]) (by rw [HL.out]; omega) (by omega) (by omega) hg HC.out hb1
 ·have HK := Lib.hid hk
  have hxe : x.isEmpty = false := zdJ hne
  clear hk hne
  by_cases h0 : L = 0
  ·subst h0
   go_wp2
   go_ret
   exact zgV (k := 1) (by unfold zaQ; rw [HK.out]) (by rw [HL.out]; omega) (by omega) (by omega) hg HC.out hb1
  ·obtain ⟨n, rfl⟩ : ∃ n, L = n + 1 := ⟨L - 1, by omega⟩
   go_wp2
   go_ret
   exact zgV (k := n + 2) (by unfold zaQ; rw [HK.out]) (by rw [HL.out]; omega) (by omega) (by omega) hg HC.out hb1
end

section
open Go.RowKit
theorem z2H (q : List UInt8) (w : World) : Calls Tryz.prog 41 #[.string ⟨q.toArray⟩] w fun e w' => e = .returned (.bool (zhY q)) ∧ w = w' := by
 go_enter Tryz.func41, Tryz.ntmps41
 go_wp2_with fail
 refine (Tryz.strings_HasPrefix ⟨q.toArray⟩ _ _).mono ?_
 rintro e w' ⟨rfl, rfl⟩
 go_wp2
 go_ret
 exact ⟨rfl, rfl⟩
theorem z6T {p : List UInt8 → Bool} {ps : List (List UInt8)} {k : Nat} {q : List UInt8} (hk : k < ps.length) (hq : ps.getD k [] = q) (h : p q = false) : ps.all p = false := by
 rw [List.all_eq_false]
 refine ⟨q, ?_, by simp [h]⟩
 rw [← hq, List.getD, List.getElem?_eq_getElem hk]
 exact List.getElem_mem hk
theorem z8Y {p : List UInt8 → Bool} {ps : List (List UInt8)} (h : ∀ j, j < ps.length → p (ps.getD j []) = true) : ps.all p = true := by
 rw [List.all_eq_true]
 intro x hx
 obtain ⟨j, hj, rfl⟩ := List.getElem_of_mem hx
 have := h j hj
 rwa [List.getD, List.getElem?_eq_getElem hj] at this
theorem ztC (s : ByteArray) (w : World) (hs : s.size ≤ 140737488355328) : Calls Tryz.prog 67 #[.string s, .string ⟨#[46]⟩] w fun e w' => ∃ t : ByteArray, e = .returned (.string t) ∧ t.size = zmD s.data.toList ∧ w = w' := by
 refine (Tryz.strings_TrimSuffix s ⟨#[46]⟩ w (by omega)).mono ?_
 rintro e w' ⟨rfl, rfl⟩
 exact ⟨_, rfl, by rw [zaG]; exact z1Y _, rfl⟩
theorem z3A (s : ByteArray) (w : World) (hs : s.size ≤ 140737488355328) :
  Calls Tryz.prog 38 #[.string s] w (zfA w (zgE s.data.toList)) := by
 obtain ⟨ps, hps⟩ : ∃ ps, zaQ s.data.toList = ps := ⟨_, rfl⟩
 have HLB := Lib.hid (fun W h => zmH s W h)
 rw [hps] at HLB
 have hlg := zjX s.data.toList
 rw [zaM] at hlg
 have HS : Hid (zgE s.data.toList = (decide (zmD s.data.toList ≤ 253) && ps.all zhD)) := by show _ = _; rw [← hps]; rfl
 have hpl : ps.length ≤ s.size + 1 := by rw [← hps]; have := zmO s.data.toList; rwa [zaM] at this
 clear hps
 go_enter Tryz.func38, Tryz.ntmps38
 go_wp2_with fail
 refine (zcL s _).mono ?_
 rintro e w' ⟨rfl, rfl⟩
 go_wp2_with fail
 refine (ztC s _ hs).mono ?_
 rintro e w' ⟨t, rfl, ht, rfl⟩
 rw [← ht] at HS hlg
 clear ht
 by_cases hb : 253 < t.size
 ·have hd : decide (253 < (t.size : Int)) = true := decide_eq_true (by omega)
  have HF := Lib.hid (show zgE s.data.toList = false by rw [HS.out, decide_eq_false (by omega)]; rfl)
  go_wp2
  go_ret
  exact zaZ HF.out (Below.refl _ _)
 have hd : decide (253 < (t.size : Int)) = false := decide_eq_false (by omega)
 have HF : Hid (zgE s.data.toList = ps.all zhD) := by show _ = _; rw [HS.out, decide_eq_true (by omega)]; rfl
 have hss : s.size ≤ 254 := by omega
 clear hb HS hlg
 go_wp2_with fail
 refine (HLB.out _ (by omega)).mono ?_
 rintro e w1 ⟨g, c, rfl, -, hseen, hb1⟩
 have HC := Lib.hid hseen.2
 have hg := hseen.1
 clear hseen hd HLB
 go_wp2
 go_loop [13] (fun i => ∃ k : Nat, k ≤ ps.length ∧ i = .int .i64 k ∧ Hid (∀ j, j < k → zhD (ps.getD j []) = true)) (fun i => ps.length - (intOf i).toNat)
 case atStart => exact ⟨0, Nat.zero_le _, rfl, fun j h => absurd h (Nat.not_lt_zero j)⟩
 case round =>
  obtain ⟨k, hk, rfl, H⟩ := hrel
  by_cases hlt : k < ps.length
  ·have hcl := HC.out k hlt
   obtain ⟨q, hq⟩ : ∃ q, ps.getD k [] = q := ⟨_, rfl⟩
   rw [hq] at hcl
   have HQ := Lib.hid hq
   clear hq
   by_cases h1 : q = []
   ·subst h1
    have HN := Lib.hid (z6T hlt HQ.out (show zhD [] = false from rfl))
    go_wp2
    go_ret
    exact zaZ (HF.out.trans HN.out) hb1
   ·have hqe : q.isEmpty = false := zdJ h1
    have hq0 : 0 < q.length := List.length_pos_iff.2 h1
    by_cases h2 : 63 < q.length
    ·have HN := Lib.hid (z6T hlt HQ.out (show zhD q = false from decide_eq_false (by omega)))
     have hd : decide (63 < (q.length : Int)) = true := decide_eq_true (by omega)
     clear h1
     go_wp2
     go_ret
     exact zaZ (HF.out.trans HN.out) hb1
    ·have HY := Lib.hid (show zhD q = true from decide_eq_true (by omega))
     have hd : decide (63 < (q.length : Int)) = false := decide_eq_false (by omega)
     clear h1
     go_wp2
     go_round
     case rel =>
      refine ⟨k + 1, by omega, by go_num, fun j hj => ?_⟩
      by_cases e : j = k
      ·subst e; rw [HQ.out]; exact HY.out
      ·exact H.out j (by omega)
     case measure => simp [intOf]; omega
  ·have HN := Lib.hid (z8Y (p := zhD) (ps := ps) fun j hj => H.out j (by omega))
   go_wp2
   go_ret
   exact zaZ (HF.out.trans HN.out) hb1
theorem z8X (c : UInt8) (w : World) (hc : c.toNat < 128) : Calls Tryz.prog 68 #[.string ⟨#[34, 35, 37, 47, 58, 60, 62, 63, 64, 91, 92, 93, 94, 96, 123, 124, 125]⟩, .int .i32 (c.toNat : Int)] w fun e w' => e = .returned (.bool (hasB badL c)) ∧ w = w' := by
 refine (Tryz.strings_ContainsRune_ascii _ _ w (by omega) (by omega)).mono ?_
 rintro e w' ⟨rfl, rfl⟩
 rw [znY]
 refine ⟨?_, rfl⟩
 show Ending.returned (.bool (decide (0 ≤ Lib.indexByte badL c))) = _
 cases h : hasB badL c with
 | true => rw [decide_eq_true ((zgX _ _).1 h)]
 | false => rw [(zgX _ _).2 h]; rfl
theorem z5M {s : ByteArray} {k : Nat} (hk : k < s.size) (h : ziB s[k] = false) : zhB s.data.toList = false := by
 unfold zhB
 rw [List.all_eq_false]
 refine ⟨s[k], ?_, by simp [h]⟩
 show s.data[k] ∈ _
 simp
theorem zzK {s : ByteArray} (h : ∀ k (h : k < s.size), ziB s[k] = true) : zhB s.data.toList = true := by
 unfold zhB
 rw [List.all_eq_true]
 intro x hx
 obtain ⟨j, hj, rfl⟩ := List.getElem_of_mem hx
 exact h j (by simpa using hj)
theorem zxX (s : ByteArray) (k : Nat) (h : k < s.size) (hp : s[k].toNat < 128) : Utf8.decode s k = (s[k].toNat, 1) := by
 have := zvC s k h
 rw [zfG, if_pos (by omega), this]
theorem zyX (s : ByteArray) (w : World) (hp : zdR s.data.toList = true) :
  Calls Tryz.prog 39 #[.string s] w (zfA w (zhB s.data.toList)) := by
 have HP : Hid (∀ k (h : k < s.size), s[k].toNat < 128) := fun k h => zkZ.1 hp _ (by show s.data[k] ∈ _; simp)
 clear hp
 go_enter Tryz.func39, Tryz.ntmps39
 go_wp2_with fail
 refine (zcL s _).mono ?_
 rintro e w' ⟨rfl, rfl⟩
 go_wp2
 go_loopw [] (fun wr => ∃ k : Nat, wr.heap[w.heap.size]? = some (.stringIter s k) ∧ Below w.heap.size w wr ∧ k ≤ s.size ∧ Hid (∀ j (h : j < s.size), j < k → ziB s[j] = true)) (fun wr => s.size - wr.iterPos w.heap.size)
 case atStart => exact ⟨0, World.iter_heap w s 0, (Below.refl _ w).alloc (Nat.le_refl _) _, Nat.zero_le _, fun j _ h => absurd h (Nat.not_lt_zero j)⟩
 case round =>
  obtain ⟨k, hit, hbw, hk, H⟩ := hrel
  by_cases hlt : k < s.size
  ·have hnx : ∀ ty, (Instr.next (.pointer (some ⟨w.heap.size, 0, none⟩)) true ty).run Tryz.prog wr = _ := fun ty => Lib.run_next_any_at wr w.heap.size s k ty hit hlt
   have hp := HP.out k hlt
   rw [zxX s k hlt hp] at hnx
   have hit2 := Lib.iterAt_heap wr w.heap.size s k (k + 1) hit
   have hbw2 := Lib.below_iterAt hbw (k := w.heap.size) (Nat.le_refl _) s (k + 1)
   have HWP : Hid (wr.iterPos w.heap.size = k) := by
    show wr.iterPos w.heap.size = k
    simp only [World.iterPos, hit]
   simp only at hnx
   generalize wr.iterAt w.heap.size s (k + 1) = wi at *
   have HBA := Lib.hid (fun W => z8X s[k] W hp)
   have HSC := Lib.hid (show ziB s[k] = (decide (33 ≤ s[k].toNat ∧ s[k].toNat ≤ 126) && !hasB badL s[k]) from rfl)
   have HNO := Lib.hid (fun h => z5M hlt h)
   obtain ⟨c, hc⟩ : ∃ c, s[k].toNat = c := ⟨_, rfl⟩
   generalize hbd : hasB badL s[k] = bd at HBA HSC
   rw [hc] at hp hnx HBA HSC
   clear hbd
   have HC := Lib.hid hc
   clear hc
   by_cases h1 : c < 33
   ·have HF := Lib.hid (HNO.out (by rw [HSC.out, decide_eq_false (by omega)]; rfl))
    have hd : decide ((c : Int) < 33) = true := decide_eq_true (by omega)
    go_wp2
    go_ret
    exact zaZ HF.out hbw2
   ·have hd1 : decide ((c : Int) < 33) = false := decide_eq_false (by omega)
    by_cases h2 : 126 < c
    ·have HF := Lib.hid (HNO.out (by rw [HSC.out, decide_eq_false (by omega)]; rfl))
     have hd : decide (126 < (c : Int)) = true := decide_eq_true (by omega)
     go_wp2
     go_ret
     exact zaZ HF.out hbw2
    ·have hd2 : decide (126 < (c : Int)) = false := decide_eq_false (by omega)
     cases bd with
     | true =>
      have HF := Lib.hid (HNO.out (by rw [HSC.out]; simp))
      go_wp2_with (go_at_call 68; refine (HBA.out _).mono ?_; rintro e w' ⟨rfl, rfl⟩)
      go_ret
      exact zaZ HF.out hbw2
     | false =>
      have HY := Lib.hid (show ziB s[k] = true by rw [HSC.out, decide_eq_true (by omega)]; rfl)
      go_wp2_with (go_at_call 68; refine (HBA.out _).mono ?_; rintro e w' ⟨rfl, rfl⟩)
      go_roundw
      case rel =>
       refine ⟨k + 1, hit2, hbw2, by omega, fun j hj hjk => ?_⟩
       by_cases e : j = k
       ·subst e; exact HY.out
       ·exact H.out j hj (by omega)
      case measure =>
       rw [HWP.out]
       simp only [World.iterPos, hit2]
       omega
  ·have hnx : ∀ ty, (Instr.next (.pointer (some ⟨w.heap.size, 0, none⟩)) true ty).run Tryz.prog wr = _ := fun ty => Lib.run_next_end_at wr w.heap.size s k ty hit hlt
   have HF := Lib.hid (zzK (s := s) fun j hj => H.out j hj (by omega))
   go_wp2
   go_ret
   exact zaZ HF.out hbw
end

section
open Go.RowKit
theorem zcN {w x1 x2 : World} (h1 : Below w.heap.size w x1) (h2 : Below x1.heap.size x1 x2) : Below w.heap.size w x2 := h1.trans (h2.mono h1.size)
theorem anyF (f : Nat) (p : List UInt8 → Bool) (hf : ∀ (q : List UInt8) (w : World), Calls Tryz.prog f #[.string ⟨q.toArray⟩] w fun e w' => e = .returned (.bool (p q)) ∧ w = w') (ef : ∀ args w, (callFunc f args).run Tryz.prog w = .ok (.enter f args) w) (g c : Nat) (ps : List (List UInt8)) (w : World) (hs : Seen w g ps) (hl : ps.length ≤ 9223372036854775807) :
  Calls Tryz.prog 40 #[.slice (some ⟨g, 0, none⟩) ps.length c, .func (.func f) #[] #[]] w fun e w' => e = .returned (.bool (ps.any p)) ∧ Below w.heap.size w w' := by
 refine (Tryz.slices_ContainsFunc strC p f #[] ef g 0 ps.length c ps w (fun W x _ => (hf x W).mono fun e w' h => ⟨h.1, 0, by rw [← h.2]; rfl⟩) (Nat.le_refl _) hl (fun j hj => ?_)).mono ?_
 ·rw [Nat.zero_add, hs.2 j hj]
  simp [strC, List.getD, List.getElem?_eq_getElem hj]
 ·rintro e w' ⟨rfl, q, rfl⟩
  rw [List.take_length]
  exact ⟨rfl, zcI (Below.refl _ _) q⟩
theorem codedF (g c : Nat) (ps : List (List UInt8)) (w : World) (hs : Seen w g ps) (hl : ps.length ≤ 9223372036854775807) :
  Calls Tryz.prog 40 #[.slice (some ⟨g, 0, none⟩) ps.length c, .func (.func 41) #[] #[]] w fun e w' => e = .returned (.bool (ps.any zhY)) ∧ Below w.heap.size w w' :=
 anyF _ _ z2H (enters_of Tryz.func41 (by kernel_rfl) rfl) g c ps w hs hl
theorem z4F {l : List UInt8} (h : zdR l = false) : zbM l = ([], 7) := by
 unfold zbM zhC
 rw [if_pos h, if_neg (by decide)]
theorem zhO {l : List UInt8} (hp : zdR l = true) {e : Int} (h : zpE (zbQ l) = e) : zbM l = if e = 0 then (zbQ l, 0) else ([], e) := by
 have e1 : zhC l = e := by unfold zhC; rw [if_neg (by simp [hp]), h]
 unfold zbM
 rw [e1]
theorem zuI {l : List UInt8} (hp : zdR l = true) (h : (zgE (zbQ l) && zhB (zbQ l)) = false) : zbM l = ([], 6) := (zhO (e := 6) hp (by unfold zpE; rw [if_pos h])).trans (if_neg (by decide))
theorem zuN {l : List UInt8} (hp : zdR l = true) (h1 : zgE (zbQ l) = true) (h2 : zhB (zbQ l) = true) {b : Bool} (h3 : (zaQ (zbQ l)).any zhY = b) : zbM l = if b = true then ([], 7) else (zbQ l, 0) := by
 cases b
 ·exact zhO (e := 0) hp (by unfold zpE; rw [if_neg (by simp [h1, h2]), if_neg (by simp [h3])])
 ·exact zhO (e := 7) hp (by unfold zpE; rw [if_neg (by simp [h1, h2]), if_pos h3])
def z2V (w : World) (x : List UInt8 × Int) (e : Ending) (w' : World) : Prop := e = .returned (.tuple #[.string ⟨x.1.toArray⟩, .int .i64 x.2]) ∧ Below w.heap.size w w'
theorem zfM {w w' : World} {x : List UInt8 × Int} {l : List UInt8} {n : Int} (h : x = (l, n)) (hb : Below w.heap.size w w') : z2V w x (.returned (.tuple #[.string ⟨l.toArray⟩, .int .i64 n])) w' := by
 subst h; exact ⟨rfl, hb⟩
theorem zgO (s : ByteArray) (w : World) (hs : s.size ≤ 140737488355328) :
  Calls Tryz.prog 11 #[.string s] w (z2V w (zbM s.data.toList)) := by
 cases hp : zdR s.data.toList with
 | false =>
  have HF := Lib.hid (z4F hp)
  go_enter Tryz.func11, Tryz.ntmps11
  go_wp2_with fail
  refine (zpP s _ hs).mono ?_
  rw [show zkD s = false from hp]
  rintro e w' ⟨rfl, rfl⟩
  go_wp2
  go_ret2
  exact zfM HF.out (Below.refl _ _)
 | true =>
  have HP := Lib.hid hp
  obtain ⟨t, ht⟩ : ∃ t, zbQ s.data.toList = t := ⟨_, rfl⟩
  have htl : t.length = s.size := by rw [← ht, zlE, zaM]
  have htp : zdR t = true := by rw [← ht]; exact zuG hp
  have HT := Lib.hid ht
  clear hp
  go_enter Tryz.func11, Tryz.ntmps11
  go_wp2_with fail
  refine (zpP s _ hs).mono ?_
  rw [show zkD s = true from HP.out]
  rintro e w' ⟨rfl, rfl⟩
  go_wp2_with fail
  refine (zyV s _ hs).mono ?_
  rw [ht]
  rintro e w1 ⟨rfl, hb1⟩
  go_wp2_with fail
  refine (z3A ⟨t.toArray⟩ _ (by rw [zaG]; omega)).mono ?_
  rw [zaJ]
  rintro e w2 ⟨rfl, hb2⟩
  have hc2 := zcN hb1 hb2
  clear hb1 hb2 ht
  cases h1 : zgE t with
  | false =>
   have HF := Lib.hid (zuI HP.out (by rw [HT.out, h1]; rfl))
   go_wp2
   go_ret2
   exact zfM HF.out hc2
  | true =>
   have H1 := Lib.hid h1
   have htl4 := z0P h1
   clear h1
   go_wp2_with fail
   refine (zyX ⟨t.toArray⟩ _ (by rw [zaJ]; exact htp)).mono ?_
   rw [zaJ]
   rintro e w3 ⟨rfl, hb3⟩
   have hc3 := zcN hc2 hb3
   clear hc2 hb3
   cases h2 : zhB t with
   | false =>
    have HF := Lib.hid (zuI HP.out (by rw [HT.out, h2, Bool.and_false]))
    go_wp2
    go_ret2
    exact zfM HF.out hc3
   | true =>
    have H2 := Lib.hid h2
    clear h2
    go_wp2_with fail
    refine (zmH ⟨t.toArray⟩ _ (by rw [zaG]; omega)).mono ?_
    rw [zaJ]
    rintro e w4 ⟨g, c, rfl, -, hse, hb4⟩
    have hc4 := zcN hc3 hb4
    clear hc3 hb4
    go_wp2_with fail
    refine (codedF g c _ _ hse (by have := zmO t; omega)).mono ?_
    rintro e w5 ⟨rfl, hb5⟩
    have hc5 := zcN hc4 hb5
    clear hc4 hb5 hse
    cases h3 : (zaQ t).any zhY with
    | false =>
     have HF := Lib.hid (zuN (b := false) HP.out (by rw [HT.out]; exact H1.out) (by rw [HT.out]; exact H2.out) (by rw [HT.out]; exact h3))
     rw [if_neg (by decide), HT.out] at HF
     go_wp2
     go_ret2
     exact zfM HF.out hc5
    | true =>
     have HF := Lib.hid (zuN (b := true) HP.out (by rw [HT.out]; exact H1.out) (by rw [HT.out]; exact H2.out) (by rw [HT.out]; exact h3))
     rw [if_pos rfl] at HF
     go_wp2
     go_ret2
     exact zfM HF.out hc5
/-- is it a name, as it stands -/
def zjA (l : List UInt8) : Bool := decide ((zbM l).2 = 0) && (zbM l).1 == l
theorem zwA (l : List UInt8) : zjA l = true ↔ zcF l := by
 unfold zjA
 constructor
 ·intro h
  simp at h
  have := ziQ h.1
  rwa [h.2] at this
 ·intro h
  rw [h.canon]
  simp
theorem zuF (s : ByteArray) (w : World) (hs : s.size ≤ 140737488355328) :
  Calls Tryz.prog 13 #[.string s] w (zfA w (zjA s.data.toList)) := by
 obtain ⟨n, er, hc⟩ : ∃ n er, zbM s.data.toList = (n, er) := ⟨_, _, rfl⟩
 have hce := z3O s.data.toList
 have HR := Lib.hid (show zjA s.data.toList = (decide (er = 0) && n == s.data.toList) by unfold zjA; rw [hc])
 rw [hc] at hce
 go_enter Tryz.func13, Tryz.ntmps13
 go_wp2_with fail
 refine (zgO s _ hs).mono ?_
 rw [hc]
 rintro e w1 ⟨rfl, hb1⟩
 clear hc
 by_cases h0 : er = 0
 ·subst h0
  clear hce
  cases hq : n == s.toList with
  | true =>
   have HF := Lib.hid (HR.out.trans (show (decide ((0 : Int) = 0) && n == s.data.toList) = true by rw [← Lib.toList_data, hq]; rfl))
   go_wp2_with (go_at_call 14; refine (zcL _ _).mono ?_; rintro e w' ⟨rfl, rfl⟩)
   go_ret
   exact zaZ HF.out hb1
  | false =>
   have HF := Lib.hid (HR.out.trans (show (decide ((0 : Int) = 0) && n == s.data.toList) = false by rw [← Lib.toList_data, hq]; rfl))
   go_wp2_with (go_at_call 14; refine (zcL _ _).mono ?_; rintro e w' ⟨rfl, rfl⟩)
   go_ret
   exact zaZ HF.out hb1
 ·have HF := Lib.hid (HR.out.trans (show (decide (er = 0) && n == s.data.toList) = false by rw [decide_eq_false h0]; rfl))
  have hd : (er == (0 : Int)) = false := beq_eq_false_iff_ne.2 h0
  clear hce
  go_wp2
  go_ret
  exact zaZ HF.out hb1
end

end Go.Proofs.YtphapecoimlngaaGreatDoor
