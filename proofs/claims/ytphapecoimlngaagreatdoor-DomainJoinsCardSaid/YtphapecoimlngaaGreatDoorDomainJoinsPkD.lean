/-
  What the law DomainJoins leans on, and its walk (4 of 17).
-/
import Derived.Lib.Strings
import Derived.Test.YtphapecoimlngaaGreatDoorDomainJoinsPkC
import Derived.Test.YtphapecoimlngaaGreatDoorDomainJoinsPkA
namespace Go.Proofs.YtphapecoimlngaaGreatDoor
set_option maxRecDepth 100000
set_option maxHeartbeats 16000000
section
open Go.RowKit
def badL : List UInt8 := [34, 35, 37, 47, 58, 60, 62, 63, 64, 91, 92, 93, 94, 96, 123, 124, 125]
def zkW (c : UInt8) : Bool := decide (33 ≤ c.toNat ∧ c.toNat ≤ 126) && !hasB badL c
def zaM (l : List UInt8) : List (List UInt8) := (zaF l).take (zfJ (zaF l))
def zlA (l : List UInt8) : Nat := if l.getLast? = some 46 then l.length - 1 else l.length
def zgP (w : List UInt8) : Bool := decide (1 ≤ w.length ∧ w.length ≤ 63)
def zlP (w : List UInt8) : Bool := Lib.hasPrefix w [120, 110, 45, 45]
def zfV (l : List UInt8) : Bool := decide (zlA l ≤ 253) && (zaM l).all zgP
def zgO (l : List UInt8) : Bool := l.all zkW
def zcW (l : List UInt8) : Bool := l.all fun c => decide (c.toNat < 128)
def zoG (l : List UInt8) : Int := if (zfV l && zgO l) = false then 6 else if (zaM l).any zlP = true then 7 else 0
def zgR (l : List UInt8) : Int := if zcW l = false then 7 else zoG (zbM l)
def zbO (l : List UInt8) : List UInt8 × Int := if zgR l = 0 then (zbM l, 0) else ([], zgR l)
def zgF (n m : List UInt8) : Bool := decide ((zaM m).length < (zaM n).length) && (zaM m).any (fun w => !w.isEmpty) && (zaM n).drop ((zaM n).length - (zaM m).length) == zaM m
theorem z3E (r : List UInt8) (c : UInt8) : Lib.hasSuffix r [c] = decide (r.getLast? = some c) := by
 rw [Bool.eq_iff_iff, decide_eq_true_iff]
 unfold Lib.hasSuffix
 rw [List.isSuffixOf_iff_suffix, List.getLast?_eq_some_iff]
 exact ⟨fun ⟨t, h⟩ => ⟨t, h.symm⟩, fun ⟨t, h⟩ => ⟨t, h.symm⟩⟩
theorem z2T (r : List UInt8) (c : UInt8) : Lib.trimSuffix r [c] = if r.getLast? = some c then r.dropLast else r := by
 unfold Lib.trimSuffix
 rw [z3E]
 simp [List.dropLast_eq_take]
theorem zxP (l : List UInt8) : (Lib.trimSuffix l [46]).length = zlA l := by
 rw [z2T]
 unfold zlA
 split <;> simp
theorem zsS (p : UInt8 → Bool) (h : ∀ n : Fin 256, p (UInt8.ofNat n.val) = true) (c : UInt8) : p c = true := by
 have := h ⟨c.toNat, c.toNat_lt⟩
 rwa [show UInt8.ofNat c.toNat = c from by simp] at this
theorem z4V (c : UInt8) : lowC (lowC c) = lowC c := by simpa using zsS (fun c => lowC (lowC c) == lowC c) (by decide +kernel) c
theorem zyY (c : UInt8) (h : c.toNat < 128) : (lowC c).toNat < 128 := by
 have := zsS (fun c => !decide (c.toNat < 128) || decide ((lowC c).toNat < 128)) (by decide +kernel) c
 simpa [h] using this
theorem z3T (c : UInt8) (h : zkW c = true) : c.toNat < 128 ∧ c.toNat ≠ 37 ∧ c.toNat ≠ 91 := by
 have := zsS (fun c => !zkW c || (decide (c.toNat < 128) && (decide (c.toNat ≠ 37) && decide (c.toNat ≠ 91)))) (by decide +kernel) c
 simpa [h] using this
theorem zeH (a b : List UInt8) : zbM (a ++ b) = zbM a ++ zbM b := by simp [zbM]
theorem zjM (l : List UInt8) : zbM (zbM l) = zbM l := by simp [zbM, z4V]
theorem zjJ {l : List UInt8} : zcW l = true ↔ ∀ c ∈ l, c.toNat < 128 := by simp [zcW]
theorem zqG {l : List UInt8} (h : zcW l = true) : zcW (zbM l) = true := by
 rw [zjJ] at *
 intro c hc
 obtain ⟨d, hd, rfl⟩ := List.mem_map.1 hc
 exact zyY d (h d hd)
/-- what is a name: its text in small letters, and that is one -/
structure zcD (n : List UInt8) : Prop where
 low : zbM n = n
 size : zlA n ≤ 253
 lab : ∀ w ∈ zaM n, 1 ≤ w.length ∧ w.length ≤ 63
 sign : ∀ c ∈ n, zkW c = true
 code : ∀ w ∈ zaM n, zlP w = false
theorem zsK {l : List UInt8} (hl : zbM l = l) : zoG l = 0 ↔ zcD l := by
 unfold zoG zfV zgO
 constructor
 ·intro h
  split at h
  ·cases h
  ·rename_i h1
   split at h
   ·cases h
   ·rename_i h2
    simp [zgP] at h1 h2
    exact ⟨hl, h1.1, fun w hw => h1.2.1 w hw, h1.2.2, h2⟩
 ·intro h
  rw [if_neg, if_neg]
  ·simpa using h.code
  ·have h1 : (zaM l).all zgP = true := List.all_eq_true.2 fun w hw => decide_eq_true (h.lab w hw)
   have h2 : l.all zkW = true := List.all_eq_true.2 h.sign
   rw [h1, h2, decide_eq_true h.size]
   simp
theorem zcD.plain {n : List UInt8} (h : zcD n) : zcW n = true := zjJ.2 fun c hc => (z3T c (h.sign c hc)).1
theorem zwU {l : List UInt8} (hp : zcW l = true) (h : zcD (zbM l)) : zgR l = 0 := by
 unfold zgR
 rw [if_neg (by simp [hp]), (zsK (zjM l)).2 h]
theorem zxT {l : List UInt8} (h : zgR l = 0) : zcW l = true ∧ zcD (zbM l) := by
 unfold zgR at h
 cases hp : zcW l with
 | false => rw [hp] at h; cases h
 | true => rw [hp] at h; exact ⟨rfl, (zsK (zjM l)).1 h⟩
theorem zoS {l n : List UInt8} (hp : zcW l = true) (e : zbM l = n) (h : zcD n) : zbO l = (n, 0) := by
 subst e
 unfold zbO
 rw [if_pos (zwU hp h)]
theorem zcD.canon {n : List UInt8} (h : zcD n) : zbO n = (n, 0) := zoS h.plain h.low h
theorem zkR {l : List UInt8} (h : (zbO l).2 = 0) : zbO l = (zbM l, 0) ∧ zcD (zbM l) := by
 unfold zbO at *
 split at h
 ·rename_i h0
  rw [if_pos h0]
  exact ⟨rfl, (zxT h0).2⟩
 ·rename_i h0
  exact absurd h h0
theorem zvF {l : List UInt8} (h : (zbO l).2 = 0) : zcD (zbO l).1 := by
 have := zkR h
 rw [this.1]
 exact this.2
theorem z0K {l : List UInt8} (h : (zbO l).2 ≠ 0) : (zbO l).1 = [] := by
 unfold zbO at *
 split
 ·rename_i h0; rw [if_pos h0] at h; exact absurd rfl h
 ·rfl
theorem ziH {l n : List UInt8} {e : Int} (h : zbO l = (n, e)) : n.length ≤ l.length := by
 by_cases h0 : e = 0
 ·have := (zkR (l := l) (by rw [h]; exact h0)).1
  rw [h] at this
  injection this with h1 _
  rw [h1, zgG]
  exact Nat.le_refl _
 ·have := z0K (l := l) (by rw [h]; exact h0)
  rw [h] at this
  rw [show n = [] from this]
  exact Nat.zero_le _
theorem z0W (l : List UInt8) : (zbO l).2 = 0 ∨ (zbO l).2 = 6 ∨ (zbO l).2 = 7 := by
 unfold zbO zgR zoG
 repeat' split
 all_goals simp_all
theorem zhD (l : List UInt8) : 0 < (zaF l).length := by simp [zaF, splitB]
theorem z0L {ps : List (List UInt8)} (h : 0 < ps.length) : 0 < zfJ ps := by unfold zfJ; split <;> omega
theorem zlD (l : List UInt8) : 0 < (zaM l).length := by
 unfold zaM
 rw [List.length_take]
 have := zhD l
 have := z0L this
 omega
theorem zrQ (a b : List UInt8) : zaF (a ++ [46] ++ b) = zaF a ++ zaF b := by
 have e : spl (hasB [46]) (a ++ [46] ++ b) = (zaF a ++ (spl (hasB [46]) b).1, (spl (hasB [46]) b).2) := by
  rw [ziC, zvZ, zyT]
  rfl
 show (spl (hasB [46]) (a ++ [46] ++ b)).1 ++ [(spl (hasB [46]) (a ++ [46] ++ b)).2] = _
 rw [e]
 simp [zaF, splitB]
theorem zpK (xs ys : List (List UInt8)) (h : 0 < ys.length) (h1 : ys ≠ [[]]) : zfJ (xs ++ ys) = xs.length + zfJ ys := by
 have hd : (xs ++ ys).getD ((xs ++ ys).length - 1) [] = ys.getD (ys.length - 1) [] := by
  simp only [List.getD, List.length_append]
  rw [List.getElem?_append_right (by omega), show xs.length + ys.length - 1 - xs.length = ys.length - 1 from by omega]
 unfold zfJ
 rw [hd, List.length_append]
 match ys, h with
 | [y], _ =>
  have hy : y ≠ [] := fun e => h1 (by rw [e])
  rw [if_neg (fun h => hy h.2), if_neg (fun h => hy h.2)]
 | y :: z :: ys, _ =>
  simp only [List.length_cons]
  by_cases e : (y :: z :: ys).getD (ys.length + 1 + 1 - 1) [] = []
  ·rw [if_pos ⟨by omega, e⟩, if_pos ⟨by omega, e⟩]; omega
  ·rw [if_neg (fun h => e h.2), if_neg (fun h => e h.2)]
theorem zkS (a b : List UInt8) (h : zaF b ≠ [[]]) : zaM (a ++ [46] ++ b) = zaF a ++ zaM b := by
 unfold zaM
 rw [zrQ, zpK _ _ (zhD b) h, List.take_append, List.take_of_length_le (by omega), show (zaF a).length + zfJ (zaF b) - (zaF a).length = zfJ (zaF b) from by omega]
theorem zcD.ne {n : List UInt8} (h : zcD n) : zaF n ≠ [[]] := fun e => by
 have := (h.lab [] (by unfold zaM; rw [e]; decide)).1
 simp at this
theorem zqM {a : List UInt8} (hn : a ≠ []) (h : a.getLast hn ≠ 46) : zaM a = zaF a := by
 unfold zaM
 have := zdV (spl (hasB [46]) a).1.length (zaF a) (by rw [zkA]; simp) (.inr (by rw [zkA, zwH]; exact z0T a hn h))
 rw [this, List.take_of_length_le (by rw [zkA]; simp)]
theorem z5P (p : UInt8 → Bool) : ∀ (l : List UInt8) (st : List (List UInt8) × List UInt8) (P : UInt8 → Prop), (∀ c ∈ l, P c) → (∀ w ∈ st.1, ∀ c ∈ w, P c ∧ p c = false) → (∀ c ∈ st.2, P c ∧ p c = false) →
  (∀ w ∈ (l.foldl (zaT p) st).1, ∀ c ∈ w, P c ∧ p c = false) ∧ ∀ c ∈ (l.foldl (zaT p) st).2, P c ∧ p c = false := by
 intro l
 induction l with
 | nil => intro st P _ h1 h2; exact ⟨h1, h2⟩
 | cons d l ih =>
  intro st P h0 h1 h2
  rw [List.foldl_cons]
  refine ih _ P (fun c hc => h0 c (by simp [hc])) ?_ ?_
  ·unfold zaT
   split
   ·intro w hw
    rcases List.mem_append.1 hw with h | h
    ·exact h1 w h
    ·rw [List.mem_singleton.1 h]; exact h2
   ·exact h1
  ·unfold zaT
   split
   ·intro c hc; cases hc
   ·rename_i hp
    intro c hc
    rcases List.mem_append.1 hc with h | h
    ·exact h2 c h
    ·rw [List.mem_singleton.1 h]; exact ⟨h0 d (by simp), by simpa using hp⟩
theorem z1I {l w : List UInt8} (h : w ∈ zaF l) : ∀ c ∈ w, c ∈ l ∧ hasB [46] c = false := by
 have k := z5P (hasB [46]) l ([], []) (· ∈ l) (fun _ h => h) (by simp) (by simp)
 rcases List.mem_append.1 h with h | h
 ·exact k.1 w h
 ·rw [List.mem_singleton.1 h]; exact k.2
theorem zuD {l w : List UInt8} (h : w ∈ zaM l) : w ∈ zaF l := List.mem_of_mem_take h
theorem zsP (l : List UInt8) : l.length ≤ zlA l + 1 := by unfold zlA; split <;> omega
theorem zzK {l : List UInt8} (h : zfV l = true) : l.length ≤ 254 := by
 unfold zfV at h
 have := of_decide_eq_true (Bool.and_eq_true_iff.1 h).1
 have := zsP l
 omega
theorem zsM (l : List UInt8) : zlA l ≤ l.length := by unfold zlA; split <;> omega
/-- a label of a name is a name -/
theorem zcD.label {n w : List UInt8} (h : zcD n) (hw : w ∈ zaM n) : zcD w := by
 have hin := z1I (zuD hw)
 have hd : zaF w = [w] := zuT w fun c hc => (hin c hc).2
 have hl : zaM w = [w] := by
  unfold zaM
  rw [hd, zdV 0 [w] rfl (.inl rfl)]
  rfl
 obtain ⟨h1, h2⟩ := h.lab w hw
 refine ⟨?_, Nat.le_trans (zsM w) (by omega), ?_, fun c hc => h.sign c (hin c hc).1, ?_⟩
 ·have key : ∀ l : List UInt8, zbM l = l → ∀ c ∈ l, lowC c = c := by
   intro l
   induction l with
   | nil => intro _ c hc; cases hc
   | cons d l ih =>
    intro he c hc
    have he' : lowC d :: zbM l = d :: l := he
    injection he' with e1 e2
    rcases List.mem_cons.1 hc with rfl | h
    ·exact e1
    ·exact ih e2 c h
  have hk := key n h.low
  unfold zbM
  conv => rhs; rw [← List.map_id w]
  exact List.map_congr_left fun c hc => hk c (hin c hc).1
 ·rw [hl]; intro v hv; rw [List.mem_singleton.1 hv]; exact ⟨h1, h2⟩
 ·rw [hl]; intro v hv; rw [List.mem_singleton.1 hv]; exact h.code w hw
theorem zuX {xs : List (List UInt8)} {x n : List UInt8} (hn : zcD n) (hx : zaM x = xs ++ zaM n) (h0 : 0 < xs.length) : zgF x n = true := by
 unfold zgF
 have h1 : (zaM n).any (fun w => !w.isEmpty) = true := by
  have hp := zlD n
  match e : zaM n, hp with
  | w :: ws, _ =>
   have := (hn.lab w (by rw [e]; simp)).1
   cases w with
   | nil => simp at this
   | cons c w => simp
 rw [h1, hx, List.length_append, decide_eq_true (by omega), show xs.length + (zaM n).length - (zaM n).length = xs.length from by omega, List.drop_left]
 simp
theorem zpN {n m : List UInt8} (h : (zaM n).length ≤ (zaM m).length) : zgF n m = false := by
 unfold zgF
 rw [decide_eq_false (by omega)]
 rfl
theorem zcD.join {a b : List UInt8} (ha : zcD a) (hb : zcD b) (hl : a.length + b.length ≤ 250) (hn : a ≠ []) (hd : a.getLast hn ≠ 46) : zcD (a ++ [46] ++ b) ∧ zaM (a ++ [46] ++ b) = zaM a ++ zaM b := by
 have e : zaM (a ++ [46] ++ b) = zaM a ++ zaM b := by rw [zkS a b hb.ne, zqM hn hd]
 refine ⟨⟨?_, Nat.le_trans (zsM _) (by simp; omega), ?_, ?_, ?_⟩, e⟩
 ·rw [zeH, zeH, ha.low, hb.low]; rfl
 ·rw [e]; intro w hw
  rcases List.mem_append.1 hw with h | h
  ·exact ha.lab w h
  ·exact hb.lab w h
 ·intro c hc
  rcases List.mem_append.1 hc with h | h
  ·rcases List.mem_append.1 h with h | h
   ·exact ha.sign c h
   ·rw [List.mem_singleton.1 h]; decide
  ·exact hb.sign c h
 ·rw [e]; intro w hw
  rcases List.mem_append.1 hw with h | h
  ·exact ha.code w h
  ·exact hb.code w h
/-- what stands below a name, with a label more ahead -/
theorem zcD.more {a n : List UInt8} (hn : zcD n) : zgF (a ++ [46] ++ n) n = true ∧ zgF n (a ++ [46] ++ n) = false ∧ zgF n n = false := by
 have e := zkS a n hn.ne
 exact ⟨zuX hn e (zhD a), zpN (by rw [e, List.length_append]; omega), zpN (Nat.le_refl _)⟩
end

section
open Go.RowKit
/-- texts that lie in a row from the beginning of block g on -/
def Seen (w : World) (g : Nat) (ps : List (List UInt8)) : Prop := g < w.heap.size ∧ ∀ j, j < ps.length → w.cell? ⟨g, j, none⟩ = some (.string ⟨(ps.getD j []).toArray⟩)
theorem Seen.keep {w w' : World} {g : Nat} {ps : List (List UInt8)} (h : Seen w g ps) (hb : Below w.heap.size w w') : Seen w' g ps := ⟨Nat.lt_of_lt_of_le h.1 hb.size, fun j hj => (hb.cell (p := ⟨g, j, none⟩) h.1).trans (h.2 j hj)⟩
def zjX (w : World) (ps : List (List UInt8)) (e : Ending) (w' : World) : Prop := ∃ g c, e = .returned (.slice (some ⟨g, 0, none⟩) ps.length c) ∧ ps.length ≤ c ∧ Seen w' g ps ∧ Below w.heap.size w w'
theorem zgJ {w w' : World} {ps qs : List (List UInt8)} {g c n k : Nat} (hq : ps.take k = qs) (hk : k ≤ ps.length) (hn : n = k) (hcap : k ≤ c) (hg : g < w'.heap.size) (hc : ∀ j, j < ps.length → w'.cell? ⟨g, j, none⟩ = some (.string ⟨(ps.getD j []).toArray⟩)) (hb : Below w.heap.size w w') : zjX w qs (.returned (.slice (some ⟨g, 0, none⟩) n c)) w' := by
 subst hq hn
 refine ⟨g, c, by rw [List.length_take, Nat.min_eq_left hk], by rw [List.length_take, Nat.min_eq_left hk]; exact hcap, ⟨hg, fun j hj => ?_⟩, hb⟩
 rw [List.length_take, Nat.min_eq_left hk] at hj
 rw [hc j (by omega)]
 simp [List.getD, hj]
theorem zfD (s : ByteArray) (w : World) : Calls Tryz.prog 14 #[.string s] w fun e w' => e = .returned (.string s) ∧ w = w' := by
 go_enter Tryz.func14, Tryz.ntmps14
 go_wp2
 go_ret
 exact ⟨rfl, rfl⟩
theorem zoJ (l : List UInt8) : ∃ L x, (zaF l).length = L + 1 ∧ (zaF l).getD L [] = x ∧ L ≤ l.length ∧ (0 < L ∧ x = [] ∧ zfJ (zaF l) = L ∨ (L = 0 ∨ x ≠ []) ∧ zfJ (zaF l) = L + 1) := by
 have h0 := zhD l
 have hl := zcL (hasB [46]) l
 obtain ⟨L, hL⟩ : ∃ L, (zaF l).length = L + 1 := ⟨(zaF l).length - 1, by omega⟩
 refine ⟨L, _, hL, rfl, by unfold zaF at hL; omega, ?_⟩
 by_cases h : 0 < L ∧ (zaF l).getD L [] = []
 ·obtain ⟨h1, h2⟩ := h
  refine .inl ⟨h1, h2, ?_⟩
  obtain ⟨n, rfl⟩ : ∃ n, L = n + 1 := ⟨L - 1, by omega⟩
  exact zfZ n _ hL h2
 ·have hc : L = 0 ∨ (zaF l).getD L [] ≠ [] := by
   by_cases e : L = 0
   ·exact .inl e
   ·exact .inr fun e2 => h ⟨by omega, e2⟩
  exact .inr ⟨hc, zdV L _ hL hc⟩
theorem zdD (l : List UInt8) : (zaM l).length ≤ l.length + 1 := by
 have h1 := zcL (hasB [46]) l
 unfold zaM zaF
 rw [List.length_take]
 omega
theorem zdE (s : ByteArray) (w : World) (hs : s.size ≤ 1073741824) :
  Calls Tryz.prog 16 #[.string s] w (zjX w (zaM s.data.toList)) := by
 obtain ⟨L, x, hL, hx, hLl, hc⟩ := zoJ s.data.toList
 rw [zaK] at hLl
 go_enter Tryz.func16, Tryz.ntmps16
 go_wp2_with fail
 refine (zfD s _).mono ?_
 rintro e w' ⟨rfl, rfl⟩
 go_wp2_with fail
 refine (zcE s _ _ hs).mono ?_
 rintro e w1 ⟨v, rfl, hp, hb1⟩
 have hp' : zbY w.heap.size w1 v (zaF s.data.toList) := hp
 obtain ⟨g, cap, rfl, hcap, hg, hcell⟩ := hp'.form2 (by omega)
 rw [hL] at hcap ⊢
 have hcx := hcell L (by omega)
 rw [hx] at hcx
 have HC := Lib.hid hcell
 have HL := Lib.hid hL
 have HX := Lib.hid hx
 clear hcell hp hp' hL hx
 rcases hc with ⟨h1, rfl, hk⟩ | ⟨rfl | hne, hk⟩
 ·have HK := Lib.hid hk
  obtain ⟨n, rfl⟩ : ∃ n, L = n + 1 := ⟨L - 1, by omega⟩
  clear hk h1
  go_wp2
  go_ret
  exact zgJ (k := n + 1) (by unfold zaM; rw [HK.out]) (by rw [HL.out]; omega) (by omega) (by omega) hg HC.out hb1
 ·have HK := Lib.hid hk
  clear hk
  go_wp2
  go_ret
  exact zgJ (k := 1) (by unfold zaM; rw [HK.out]) (by rw [HL.out]; omega) (by omega) (by omega) hg HC.out hb1
 ·have HK := Lib.hid hk
  have hxe : x.isEmpty = false := zcY hne
  clear hk hne
  by_cases h0 : L = 0
  ·subst h0
   go_wp2
   go_ret
   exact zgJ (k := 1) (by unfold zaM; rw [HK.out]) (by rw [HL.out]; omega) (by omega) (by omega) hg HC.out hb1
  ·obtain ⟨n, rfl⟩ : ∃ n, L = n + 1 := ⟨L - 1, by omega⟩
   go_wp2
   go_ret
   exact zgJ (k := n + 2) (by unfold zaM; rw [HK.out]) (by rw [HL.out]; omega) (by omega) (by omega) hg HC.out hb1
end

section
open Go.RowKit
theorem zwS (q : List UInt8) (w : World) : Calls Tryz.prog 41 #[.string ⟨q.toArray⟩] w fun e w' => e = .returned (.bool (zlP q)) ∧ w = w' := by
 go_enter Tryz.func41, Tryz.ntmps41
 go_wp2_with fail
 refine (Tryz.strings_HasPrefix ⟨q.toArray⟩ _ _).mono ?_
 rintro e w' ⟨rfl, rfl⟩
 go_wp2
 go_ret
 exact ⟨rfl, rfl⟩
theorem zzZ (q : List UInt8) (w : World) : Calls Tryz.prog 47 #[.string ⟨q.toArray⟩] w fun e w' => e = .returned (.bool (!q.isEmpty)) ∧ w = w' := by
 cases hq : q with
 | nil =>
  go_enter Tryz.func47, Tryz.ntmps47
  go_wp2
  go_ret
  exact ⟨rfl, rfl⟩
 | cons c l =>
  have hqe : (c :: l).isEmpty = false := rfl
  generalize c :: l = q at *
  go_enter Tryz.func47, Tryz.ntmps47
  go_wp2
  go_ret
  exact ⟨zaX (by rw [hqe]; rfl), rfl⟩
theorem z3P {p : List UInt8 → Bool} {ps : List (List UInt8)} {k : Nat} {q : List UInt8} (hk : k < ps.length) (hq : ps.getD k [] = q) (h : p q = false) : ps.all p = false := by
 rw [List.all_eq_false]
 refine ⟨q, ?_, by simp [h]⟩
 rw [← hq, List.getD, List.getElem?_eq_getElem hk]
 exact List.getElem_mem hk
theorem z5S {p : List UInt8 → Bool} {ps : List (List UInt8)} (h : ∀ j, j < ps.length → p (ps.getD j []) = true) : ps.all p = true := by
 rw [List.all_eq_true]
 intro x hx
 obtain ⟨j, hj, rfl⟩ := List.getElem_of_mem hx
 have := h j hj
 rwa [List.getD, List.getElem?_eq_getElem hj] at this
theorem zsB (s : ByteArray) (w : World) (hs : s.size ≤ 9223372036854775807) : Calls Tryz.prog 67 #[.string s, .string ⟨#[46]⟩] w fun e w' => ∃ t : ByteArray, e = .returned (.string t) ∧ t.size = zlA s.data.toList ∧ w = w' := by
 refine (Tryz.strings_TrimSuffix s ⟨#[46]⟩ w (by omega)).mono ?_
 rintro e w' ⟨rfl, rfl⟩
 exact ⟨_, rfl, by rw [zaH]; exact zxP _, rfl⟩
theorem zzB (s : ByteArray) (w : World) (hs : s.size ≤ 9223372036854775807) :
  Calls Tryz.prog 38 #[.string s] w (zdK w (zfV s.data.toList)) := by
 obtain ⟨ps, hps⟩ : ∃ ps, zaM s.data.toList = ps := ⟨_, rfl⟩
 have HLB := Lib.hid (fun W h => zdE s W h)
 rw [hps] at HLB
 have hlg := zsP s.data.toList
 rw [zaK] at hlg
 have HS : Hid (zfV s.data.toList = (decide (zlA s.data.toList ≤ 253) && ps.all zgP)) := by show _ = _; rw [← hps]; rfl
 have hpl : ps.length ≤ s.size + 1 := by rw [← hps]; have := zdD s.data.toList; rwa [zaK] at this
 clear hps
 go_enter Tryz.func38, Tryz.ntmps38
 go_wp2_with fail
 refine (zfD s _).mono ?_
 rintro e w' ⟨rfl, rfl⟩
 go_wp2_with fail
 refine (zsB s _ hs).mono ?_
 rintro e w' ⟨t, rfl, ht, rfl⟩
 rw [← ht] at HS hlg
 clear ht
 by_cases hb : 253 < t.size
 ·have hd : decide (253 < (t.size : Int)) = true := decide_eq_true (by omega)
  have HF := Lib.hid (show zfV s.data.toList = false by rw [HS.out, decide_eq_false (by omega)]; rfl)
  go_wp2
  go_ret
  exact zaY HF.out (Below.refl _ _)
 have hd : decide (253 < (t.size : Int)) = false := decide_eq_false (by omega)
 have HF : Hid (zfV s.data.toList = ps.all zgP) := by show _ = _; rw [HS.out, decide_eq_true (by omega)]; rfl
 have hss : s.size ≤ 254 := by omega
 clear hb HS hlg
 go_wp2_with fail
 refine (HLB.out _ (by omega)).mono ?_
 rintro e w1 ⟨g, c, rfl, -, hseen, hb1⟩
 have HC := Lib.hid hseen.2
 have hg := hseen.1
 clear hseen hd HLB
 go_wp2
 go_loop [13] (fun i => ∃ k : Nat, k ≤ ps.length ∧ i = .int .i64 k ∧ Hid (∀ j, j < k → zgP (ps.getD j []) = true)) (fun i => ps.length - (intOf i).toNat)
 case atStart => exact ⟨0, Nat.zero_le _, rfl, fun j h => absurd h (Nat.not_lt_zero j)⟩
 case round =>
  obtain ⟨k, hk, rfl, H⟩ := hrel
  by_cases hlt : k < ps.length
  ·have hcl := HC.out k hlt
   obtain ⟨q, hq⟩ : ∃ q, ps.getD k [] = q := ⟨_, rfl⟩
   rw [hq] at hcl
   have HQ := Lib.hid hq
   clear hq
   by_cases h1 : q = []
   ·subst h1
    have HN := Lib.hid (z3P hlt HQ.out (show zgP [] = false from rfl))
    go_wp2
    go_ret
    exact zaY (HF.out.trans HN.out) hb1
   ·have hqe : q.isEmpty = false := zcY h1
    have hq0 : 0 < q.length := List.length_pos_iff.2 h1
    by_cases h2 : 63 < q.length
    ·have HN := Lib.hid (z3P hlt HQ.out (show zgP q = false from decide_eq_false (by omega)))
     have hd : decide (63 < (q.length : Int)) = true := decide_eq_true (by omega)
     clear h1
     go_wp2
     go_ret
     exact zaY (HF.out.trans HN.out) hb1
    ·have HY := Lib.hid (show zgP q = true from decide_eq_true (by omega))
     have hd : decide (63 < (q.length : Int)) = false := decide_eq_false (by omega)
     clear h1
     go_wp2
     go_round
     case rel =>
      refine ⟨k + 1, by omega, by go_num, fun j hj => ?_⟩
      by_cases e : j = k
      ·subst e; rw [HQ.out]; exact HY.out
      ·exact H.out j (by omega)
     case measure => simp [intOf]; omega
  ·have HN := Lib.hid (z5S (p := zgP) (ps := ps) fun j hj => H.out j (by omega))
   go_wp2
   go_ret
   exact zaY (HF.out.trans HN.out) hb1
theorem z5L (c : UInt8) (w : World) (hc : c.toNat < 128) : Calls Tryz.prog 68 #[.string ⟨#[34, 35, 37, 47, 58, 60, 62, 63, 64, 91, 92, 93, 94, 96, 123, 124, 125]⟩, .int .i32 (c.toNat : Int)] w fun e w' => e = .returned (.bool (hasB badL c)) ∧ w = w' := by
 refine (Tryz.strings_ContainsRune_ascii _ _ w (by omega) (by omega)).mono ?_
 rintro e w' ⟨rfl, rfl⟩
 rw [zmU]
 refine ⟨?_, rfl⟩
 show Ending.returned (.bool (decide (0 ≤ Lib.indexByte badL c))) = _
 cases h : hasB badL c with
 | true => rw [decide_eq_true ((zgH _ _).1 h)]
 | false => rw [(zgH _ _).2 h]; rfl
theorem z0S {s : ByteArray} {k : Nat} (hk : k < s.size) (h : zkW s[k] = false) : zgO s.data.toList = false := by
 unfold zgO
 rw [List.all_eq_false]
 refine ⟨s[k], ?_, by simp [h]⟩
 show s.data[k] ∈ _
 simp
theorem zxO {s : ByteArray} (h : ∀ k (h : k < s.size), zkW s[k] = true) : zgO s.data.toList = true := by
 unfold zgO
 rw [List.all_eq_true]
 intro x hx
 obtain ⟨j, hj, rfl⟩ := List.getElem_of_mem hx
 exact h j (by simpa using hj)
theorem zuE (s : ByteArray) (k : Nat) (h : k < s.size) (hp : s[k].toNat < 128) : Utf8.decode s k = (s[k].toNat, 1) := by
 have := ztI s k h
 rw [zfB, if_pos (by omega), this]
theorem zwC (s : ByteArray) (w : World) (hp : zcW s.data.toList = true) :
  Calls Tryz.prog 39 #[.string s] w (zdK w (zgO s.data.toList)) := by
 have HP : Hid (∀ k (h : k < s.size), s[k].toNat < 128) := fun k h => zjJ.1 hp _ (by show s.data[k] ∈ _; simp)
 clear hp
 go_enter Tryz.func39, Tryz.ntmps39
 go_wp2_with fail
 refine (zfD s _).mono ?_
 rintro e w' ⟨rfl, rfl⟩
 go_wp2
 go_loopw [] (fun wr => ∃ k : Nat, wr.heap[w.heap.size]? = some (.stringIter s k) ∧ Below w.heap.size w wr ∧ k ≤ s.size ∧ Hid (∀ j (h : j < s.size), j < k → zkW s[j] = true)) (fun wr => s.size - wr.iterPos w.heap.size)
 case atStart => exact ⟨0, World.iter_heap w s 0, (Below.refl _ w).alloc (Nat.le_refl _) _, Nat.zero_le _, fun j _ h => absurd h (Nat.not_lt_zero j)⟩
 case round =>
  obtain ⟨k, hit, hbw, hk, H⟩ := hrel
  by_cases hlt : k < s.size
  ·have hnx : ∀ ty, (Instr.next (.pointer (some ⟨w.heap.size, 0, none⟩)) true ty).run Tryz.prog wr = _ := fun ty => Lib.run_next_any_at wr w.heap.size s k ty hit hlt
   have hp := HP.out k hlt
   rw [zuE s k hlt hp] at hnx
   have hit2 := Lib.iterAt_heap wr w.heap.size s k (k + 1) hit
   have hbw2 := Lib.below_iterAt hbw (k := w.heap.size) (Nat.le_refl _) s (k + 1)
   have HWP : Hid (wr.iterPos w.heap.size = k) := by
    show wr.iterPos w.heap.size = k
    simp only [World.iterPos, hit]
   simp only at hnx
   generalize wr.iterAt w.heap.size s (k + 1) = wi at *
   have HBA := Lib.hid (fun W => z5L s[k] W hp)
   have HSC := Lib.hid (show zkW s[k] = (decide (33 ≤ s[k].toNat ∧ s[k].toNat ≤ 126) && !hasB badL s[k]) from rfl)
   have HNO := Lib.hid (fun h => z0S hlt h)
   obtain ⟨c, hc⟩ : ∃ c, s[k].toNat = c := ⟨_, rfl⟩
   generalize hbd : hasB badL s[k] = bd at HBA HSC
   rw [hc] at hp hnx HBA HSC
   clear hbd
   have HC := Lib.hid hc
   clear hc
   by_cases h1 : c < 33
   ·have HF := Lib.hid (HNO.out (by rw [HSC.out, decide_eq_false (by omega)]; rfl))
    have hd : decide ((c : Int) < 33) = true := decide_eq_true (by omega)
    go_wp2
    go_ret
    exact zaY HF.out hbw2
   ·have hd1 : decide ((c : Int) < 33) = false := decide_eq_false (by omega)
    by_cases h2 : 126 < c
    ·have HF := Lib.hid (HNO.out (by rw [HSC.out, decide_eq_false (by omega)]; rfl))
     have hd : decide (126 < (c : Int)) = true := decide_eq_true (by omega)
     go_wp2
     go_ret
     exact zaY HF.out hbw2
    ·have hd2 : decide (126 < (c : Int)) = false := decide_eq_false (by omega)
     cases bd with
     | true =>
      have HF := Lib.hid (HNO.out (by rw [HSC.out]; simp))
      go_wp2_with (go_at_call 68; refine (HBA.out _).mono ?_; rintro e w' ⟨rfl, rfl⟩)
      go_ret
      exact zaY HF.out hbw2
     | false =>
      have HY := Lib.hid (show zkW s[k] = true by rw [HSC.out, decide_eq_true (by omega)]; rfl)
      go_wp2_with (go_at_call 68; refine (HBA.out _).mono ?_; rintro e w' ⟨rfl, rfl⟩)
      go_roundw
      case rel =>
       refine ⟨k + 1, hit2, hbw2, by omega, fun j hj hjk => ?_⟩
       by_cases e : j = k
       ·subst e; exact HY.out
       ·exact H.out j hj (by omega)
      case measure =>
       rw [HWP.out]
       simp only [World.iterPos, hit2]
       omega
  ·have hnx : ∀ ty, (Instr.next (.pointer (some ⟨w.heap.size, 0, none⟩)) true ty).run Tryz.prog wr = _ := fun ty => Lib.run_next_end_at wr w.heap.size s k ty hit hlt
   have HF := Lib.hid (zxO (s := s) fun j hj => H.out j hj (by omega))
   go_wp2
   go_ret
   exact zaY HF.out hbw
end

section
open Go.RowKit
theorem zcK {w x1 x2 : World} (h1 : Below w.heap.size w x1) (h2 : Below x1.heap.size x1 x2) : Below w.heap.size w x2 := h1.trans (h2.mono h1.size)
theorem anyF (f : Nat) (p : List UInt8 → Bool) (hf : ∀ (q : List UInt8) (w : World), Calls Tryz.prog f #[.string ⟨q.toArray⟩] w fun e w' => e = .returned (.bool (p q)) ∧ w = w') (ef : ∀ args w, (callFunc f args).run Tryz.prog w = .ok (.enter f args) w) (g c : Nat) (ps : List (List UInt8)) (w : World) (hs : Seen w g ps) (hl : ps.length ≤ 9223372036854775807) :
  Calls Tryz.prog 40 #[.slice (some ⟨g, 0, none⟩) ps.length c, .func (.func f) #[] #[]] w fun e w' => e = .returned (.bool (ps.any p)) ∧ Below w.heap.size w w' := by
 refine (Tryz.slices_ContainsFunc strC p f #[] ef g 0 ps.length c ps w (fun W x _ => (hf x W).mono fun e w' h => ⟨h.1, 0, by rw [← h.2]; rfl⟩) (Nat.le_refl _) hl (fun j hj => ?_)).mono ?_
 ·rw [Nat.zero_add, hs.2 j hj]
  simp [strC, List.getD, List.getElem?_eq_getElem hj]
 ·rintro e w' ⟨rfl, q, rfl⟩
  rw [List.take_length]
  exact ⟨rfl, zcA (Below.refl _ _) q⟩
theorem codedF (g c : Nat) (ps : List (List UInt8)) (w : World) (hs : Seen w g ps) (hl : ps.length ≤ 9223372036854775807) :
  Calls Tryz.prog 40 #[.slice (some ⟨g, 0, none⟩) ps.length c, .func (.func 41) #[] #[]] w fun e w' => e = .returned (.bool (ps.any zlP)) ∧ Below w.heap.size w w' :=
 anyF _ _ zwS (enters_of Tryz.func41 (by kernel_rfl) rfl) g c ps w hs hl
theorem thereF (g c : Nat) (ps : List (List UInt8)) (w : World) (hs : Seen w g ps) (hl : ps.length ≤ 9223372036854775807) :
  Calls Tryz.prog 40 #[.slice (some ⟨g, 0, none⟩) ps.length c, .func (.func 47) #[] #[]] w fun e w' => e = .returned (.bool (ps.any fun q => !q.isEmpty)) ∧ Below w.heap.size w w' :=
 anyF _ _ zzZ (enters_of Tryz.func47 (by kernel_rfl) rfl) g c ps w hs hl
theorem ztF {l : List UInt8} (h : zcW l = false) : zbO l = ([], 7) := by
 unfold zbO zgR
 rw [if_pos h, if_neg (by decide)]
theorem zhA {l : List UInt8} (hp : zcW l = true) {e : Int} (h : zoG (zbM l) = e) : zbO l = if e = 0 then (zbM l, 0) else ([], e) := by
 have e1 : zgR l = e := by unfold zgR; rw [if_neg (by simp [hp]), h]
 unfold zbO
 rw [e1]
theorem ztH {l : List UInt8} (hp : zcW l = true) (h : (zfV (zbM l) && zgO (zbM l)) = false) : zbO l = ([], 6) := (zhA (e := 6) hp (by unfold zoG; rw [if_pos h])).trans (if_neg (by decide))
theorem zsZ {l : List UInt8} (hp : zcW l = true) (h1 : zfV (zbM l) = true) (h2 : zgO (zbM l) = true) {b : Bool} (h3 : (zaM (zbM l)).any zlP = b) : zbO l = if b = true then ([], 7) else (zbM l, 0) := by
 cases b
 ·exact zhA (e := 0) hp (by unfold zoG; rw [if_neg (by simp [h1, h2]), if_neg (by simp [h3])])
 ·exact zhA (e := 7) hp (by unfold zoG; rw [if_neg (by simp [h1, h2]), if_pos h3])
def zyP (w : World) (x : List UInt8 × Int) (e : Ending) (w' : World) : Prop := e = .returned (.tuple #[.string ⟨x.1.toArray⟩, .int .i64 x.2]) ∧ Below w.heap.size w w'
theorem zeU {w w' : World} {x : List UInt8 × Int} {l : List UInt8} {n : Int} (h : x = (l, n)) (hb : Below w.heap.size w w') : zyP w x (.returned (.tuple #[.string ⟨l.toArray⟩, .int .i64 n])) w' := by
 subst h; exact ⟨rfl, hb⟩
theorem zdZ (s : ByteArray) (w : World) (hs : s.size ≤ 9223372036854775807) :
  Calls Tryz.prog 11 #[.string s] w (zyP w (zbO s.data.toList)) := by
 cases hp : zcW s.data.toList with
 | false =>
  have HF := Lib.hid (ztF hp)
  go_enter Tryz.func11, Tryz.ntmps11
  go_wp2_with fail
  refine (zpQ s _ hs).mono ?_
  rw [show zkK s = false from hp]
  rintro e w' ⟨rfl, rfl⟩
  go_wp2
  go_ret2
  exact zeU HF.out (Below.refl _ _)
 | true =>
  have HP := Lib.hid hp
  obtain ⟨t, ht⟩ : ∃ t, zbM s.data.toList = t := ⟨_, rfl⟩
  have htl : t.length = s.size := by rw [← ht, zgG, zaK]
  have htp : zcW t = true := by rw [← ht]; exact zqG hp
  have HT := Lib.hid ht
  clear hp
  go_enter Tryz.func11, Tryz.ntmps11
  go_wp2_with fail
  refine (zpQ s _ hs).mono ?_
  rw [show zkK s = true from HP.out]
  rintro e w' ⟨rfl, rfl⟩
  go_wp2_with fail
  refine (zzM s _ hs).mono ?_
  rw [ht]
  rintro e w1 ⟨rfl, hb1⟩
  go_wp2_with fail
  refine (zzB ⟨t.toArray⟩ _ (by rw [zaH]; omega)).mono ?_
  rw [zaJ]
  rintro e w2 ⟨rfl, hb2⟩
  have hc2 := zcK hb1 hb2
  clear hb1 hb2 ht
  cases h1 : zfV t with
  | false =>
   have HF := Lib.hid (ztH HP.out (by rw [HT.out, h1]; rfl))
   go_wp2
   go_ret2
   exact zeU HF.out hc2
  | true =>
   have H1 := Lib.hid h1
   have htl4 := zzK h1
   clear h1
   go_wp2_with fail
   refine (zwC ⟨t.toArray⟩ _ (by rw [zaJ]; exact htp)).mono ?_
   rw [zaJ]
   rintro e w3 ⟨rfl, hb3⟩
   have hc3 := zcK hc2 hb3
   clear hc2 hb3
   cases h2 : zgO t with
   | false =>
    have HF := Lib.hid (ztH HP.out (by rw [HT.out, h2, Bool.and_false]))
    go_wp2
    go_ret2
    exact zeU HF.out hc3
   | true =>
    have H2 := Lib.hid h2
    clear h2
    go_wp2_with fail
    refine (zdE ⟨t.toArray⟩ _ (by rw [zaH]; omega)).mono ?_
    rw [zaJ]
    rintro e w4 ⟨g, c, rfl, -, hse, hb4⟩
    have hc4 := zcK hc3 hb4
    clear hc3 hb4
    go_wp2_with fail
    refine (codedF g c _ _ hse (by have := zdD t; omega)).mono ?_
    rintro e w5 ⟨rfl, hb5⟩
    have hc5 := zcK hc4 hb5
    clear hc4 hb5 hse
    cases h3 : (zaM t).any zlP with
    | false =>
     have HF := Lib.hid (zsZ (b := false) HP.out (by rw [HT.out]; exact H1.out) (by rw [HT.out]; exact H2.out) (by rw [HT.out]; exact h3))
     rw [if_neg (by decide), HT.out] at HF
     go_wp2
     go_ret2
     exact zeU HF.out hc5
    | true =>
     have HF := Lib.hid (zsZ (b := true) HP.out (by rw [HT.out]; exact H1.out) (by rw [HT.out]; exact H2.out) (by rw [HT.out]; exact h3))
     rw [if_pos rfl] at HF
     go_wp2
     go_ret2
     exact zeU HF.out hc5
/-- is it a name, as it stands -/
def zoM (l : List UInt8) : Bool := decide ((zbO l).2 = 0) && (zbO l).1 == l
theorem ztO (l : List UInt8) : zoM l = true ↔ zcD l := by
 unfold zoM
 constructor
 ·intro h
  simp at h
  have := zvF h.1
  rwa [h.2] at this
 ·intro h
  rw [h.canon]
  simp
theorem zqF (s : ByteArray) (w : World) (hs : s.size ≤ 9223372036854775807) :
  Calls Tryz.prog 13 #[.string s] w (zdK w (zoM s.data.toList)) := by
 obtain ⟨n, er, hc⟩ : ∃ n er, zbO s.data.toList = (n, er) := ⟨_, _, rfl⟩
 have hce := z0W s.data.toList
 have HR := Lib.hid (show zoM s.data.toList = (decide (er = 0) && n == s.data.toList) by unfold zoM; rw [hc])
 rw [hc] at hce
 go_enter Tryz.func13, Tryz.ntmps13
 go_wp2_with fail
 refine (zdZ s _ hs).mono ?_
 rw [hc]
 rintro e w1 ⟨rfl, hb1⟩
 clear hc
 by_cases h0 : er = 0
 ·subst h0
  clear hce
  cases hq : n == s.toList with
  | true =>
   have HF := Lib.hid (HR.out.trans (show (decide ((0 : Int) = 0) && n == s.data.toList) = true by rw [← Lib.toList_data, hq]; rfl))
   go_wp2_with (go_at_call 14; refine (zfD _ _).mono ?_; rintro e w' ⟨rfl, rfl⟩)
   go_ret
   exact zaY HF.out hb1
  | false =>
   have HF := Lib.hid (HR.out.trans (show (decide ((0 : Int) = 0) && n == s.data.toList) = false by rw [← Lib.toList_data, hq]; rfl))
   go_wp2_with (go_at_call 14; refine (zfD _ _).mono ?_; rintro e w' ⟨rfl, rfl⟩)
   go_ret
   exact zaY HF.out hb1
 ·have HF := Lib.hid (HR.out.trans (show (decide (er = 0) && n == s.data.toList) = false by rw [decide_eq_false h0]; rfl))
  have hd : (er == (0 : Int)) = false := beq_eq_false_iff_ne.2 h0
  clear hce
  go_wp2
  go_ret
  exact zaY HF.out hb1
theorem zwZ {xs ys : List (List UInt8)} : bas xs = bas ys ↔ xs = ys := by
 refine ⟨fun h => ?_, fun h => by rw [h]⟩
 have := congrArg (List.map fun b : ByteArray => b.data.toList) h
 simpa [bas, Function.comp_def] using this
theorem zyO (g1 o1 c1 g2 o2 c2 : Nat) (xs ys : List (List UInt8)) (w : World) (hx : xs.length ≤ 9223372036854775807) (hy : ys.length ≤ 9223372036854775807) (h1 : ∀ j, j < xs.length → w.cell? ⟨g1, o1 + j, none⟩ = some (.string ⟨(xs.getD j []).toArray⟩)) (h2 : ∀ j, j < ys.length → w.cell? ⟨g2, o2 + j, none⟩ = some (.string ⟨(ys.getD j []).toArray⟩)) :
  Calls Tryz.prog 48 #[.slice (some ⟨g1, o1, none⟩) xs.length c1, .slice (some ⟨g2, o2, none⟩) ys.length c2] w fun e w' => e = .returned (.bool (xs == ys)) ∧ Below w.heap.size w w' := by
 have lx : (bas xs).length = xs.length := by simp [bas]
 have ly : (bas ys).length = ys.length := by simp [bas]
 refine (Tryz.slices_Equal_string g1 o1 xs.length c1 g2 o2 ys.length c2 (bas xs) (bas ys) w (by omega) (by omega) hx hy (fun j hj => ?_) (fun j hj => ?_)).mono ?_
 ·rw [h1 j (by omega), zsG xs j (by omega)]
 ·rw [h2 j (by omega), zsG ys j (by omega)]
 ·rintro e w' ⟨rfl, q, rfl⟩
  rw [List.take_of_length_le (by omega), List.take_of_length_le (by omega)]
  refine ⟨zaX ?_, zcA (Below.refl _ _) q⟩
  by_cases h : xs = ys
  ·rw [decide_eq_true (zwZ.2 h), h]; simp
  ·rw [decide_eq_false (fun e => h (zwZ.1 e))]; simp [h]
theorem z0A (n m : ByteArray) (w : World) (hn : n.size ≤ 1073741824) (hm : m.size ≤ 1073741824) :
  Calls Tryz.prog 15 #[.string n, .string m] w (zdK w (zgF n.data.toList m.data.toList)) := by
 have HLN := Lib.hid (fun W => zdE n W hn)
 have HLM := Lib.hid (fun W => zdE m W hm)
 have HB := Lib.hid (show zgF n.data.toList m.data.toList = (decide ((zaM m.data.toList).length < (zaM n.data.toList).length) && (zaM m.data.toList).any (fun w => !w.isEmpty) && (zaM n.data.toList).drop ((zaM n.data.toList).length - (zaM m.data.toList).length) == zaM m.data.toList) from rfl)
 have l1 := zdD n.data.toList
 have l2 := zdD m.data.toList
 rw [zaK] at l1 l2
 have p2 := zlD m.data.toList
 generalize zaM n.data.toList = ps at *
 generalize zaM m.data.toList = qs at *
 go_enter Tryz.func15, Tryz.ntmps15
 go_wp2_with fail
 refine (HLN.out _).mono ?_
 rintro e w1 ⟨g1, c1, rfl, hcap1, hs1, hb1⟩
 go_wp2_with fail
 refine (HLM.out _).mono ?_
 rintro e w2 ⟨g2, c2, rfl, hcap2, hs2, hb2⟩
 have hs1' := hs1.keep hb2
 have hc2 := zcK hb1 hb2
 clear hb1 hb2 hs1 HLN HLM
 by_cases hlt : qs.length < ps.length
 ·obtain ⟨k, hk⟩ : ∃ k, ps.length = qs.length + (k + 1) := ⟨ps.length - qs.length - 1, by omega⟩
  have HD : Hid (zgF n.data.toList m.data.toList = (qs.any (fun w => !w.isEmpty) && ps.drop (k + 1) == qs)) := by
   show _ = _
   rw [HB.out, decide_eq_true hlt, show ps.length - qs.length = k + 1 by omega]
   rfl
  clear HB hlt
  have HS1 := Lib.hid hs1'
  have HS2 := Lib.hid hs2
  clear hs1' hs2
  rw [hk] at hcap1 ⊢
  have hkb : k ≤ 1073741824 := by omega
  have HK := Lib.hid hk
  clear hk
  have hm : wrap64 ((qs.length : Int) + ((k : Int) + 1) - (qs.length : Int)) = (k : Int) + 1 := by rw [show (qs.length : Int) + ((k : Int) + 1) - (qs.length : Int) = (k : Int) + 1 by omega]; unfold wrap64; omega
  have hp0 : 0 < qs.length := p2
  go_wp2_with fail
  refine (thereF g2 c2 qs _ HS2.out (by omega)).mono ?_
  rintro e w3 ⟨rfl, hb3⟩
  have HS3 := Lib.hid (HS1.out.keep hb3)
  have HS4 := Lib.hid (HS2.out.keep hb3)
  have hc3 := zcK hc2 hb3
  clear hb3 hc2
  cases ha : qs.any (fun w => !w.isEmpty) with
  | false =>
   have HF := Lib.hid (HD.out.trans (show (qs.any (fun w => !w.isEmpty) && ps.drop (k + 1) == qs) = false by rw [ha]; rfl))
   go_wp2
   go_ret
   exact zaY HF.out hc3
  | true =>
   have HF := Lib.hid (HD.out.trans (show (qs.any (fun w => !w.isEmpty) && ps.drop (k + 1) == qs) = (ps.drop (k + 1) == qs) by rw [ha]; rfl))
   clear ha
   have hl : (ps.drop (k + 1)).length = qs.length := by rw [List.length_drop, HK.out]; omega
   have HE := Lib.hid (zyO g1 (k + 1) (c1 - (k + 1)) g2 0 c2 (ps.drop (k + 1)) qs w3 (by omega) (by omega) (fun j hj => by rw [HS3.out.2 (k + 1 + j) (by rw [List.length_drop] at hj; omega)]; simp [List.getD]) (fun j hj => by rw [Nat.zero_add]; exact HS4.out.2 j hj))
   rw [hl] at HE
   clear hl
   go_wp2_with fail
   refine HE.out.mono ?_
   rintro e w4 ⟨rfl, hb4⟩
   go_wp2
   go_ret
   exact zaY HF.out (zcK hc3 hb4)
 ·have HF := Lib.hid (HB.out.trans (show (decide (qs.length < ps.length) && qs.any (fun w => !w.isEmpty) && ps.drop (ps.length - qs.length) == qs) = false by rw [decide_eq_false hlt]; rfl))
  go_wp2
  go_ret
  exact zaY HF.out hc2
end

end Go.Proofs.YtphapecoimlngaaGreatDoor
