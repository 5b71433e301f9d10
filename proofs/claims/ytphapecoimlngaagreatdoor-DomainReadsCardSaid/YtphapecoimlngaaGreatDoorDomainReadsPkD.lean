/-
  What the law DomainReads leans on, and its walk (4 of 17).
-/
import Derived.Lib.Strings
import Derived.Test.YtphapecoimlngaaGreatDoorDomainReadsPkC
import Derived.Test.YtphapecoimlngaaGreatDoorDomainReadsPkA
namespace Go.Proofs.YtphapecoimlngaaGreatDoor
set_option maxRecDepth 100000
set_option maxHeartbeats 16000000
section
open Go.RowKit
def badL : List UInt8 := [34, 35, 37, 47, 58, 60, 62, 63, 64, 91, 92, 93, 94, 96, 123, 124, 125]
def zhS (c : UInt8) : Bool := decide (33 ≤ c.toNat ∧ c.toNat ≤ 126) && !hasB badL c
def zaQ (l : List UInt8) : List (List UInt8) := (zaF l).take (zfF (zaF l))
def zfD (l : List UInt8) : Nat := if l.getLast? = some 46 then l.length - 1 else l.length
def zfR (w : List UInt8) : Bool := decide (1 ≤ w.length ∧ w.length ≤ 63)
def zgM (w : List UInt8) : Bool := Lib.hasPrefix w [120, 110, 45, 45]
def zeE (l : List UInt8) : Bool := decide (zfD l ≤ 253) && (zaQ l).all zfR
def zfP (l : List UInt8) : Bool := l.all zhS
def zdW (l : List UInt8) : Bool := l.all fun c => decide (c.toNat < 128)
def zuL (l : List UInt8) : Int := if (zeE l && zfP l) = false then 6 else if (zaQ l).any zgM = true then 7 else 0
def zlQ (l : List UInt8) : Int := if zdW l = false then 7 else zuL (zbM l)
def zcW (l : List UInt8) : List UInt8 × Int := if zlQ l = 0 then (zbM l, 0) else ([], zlQ l)
def zkL (n m : List UInt8) : Bool := decide ((zaQ m).length < (zaQ n).length) && (zaQ m).any (fun w => !w.isEmpty) && (zaQ n).drop ((zaQ n).length - (zaQ m).length) == zaQ m
theorem z0T (r : List UInt8) (c : UInt8) : Lib.hasSuffix r [c] = decide (r.getLast? = some c) := by
 rw [Bool.eq_iff_iff, decide_eq_true_iff]
 unfold Lib.hasSuffix
 rw [List.isSuffixOf_iff_suffix, List.getLast?_eq_some_iff]
 exact ⟨fun ⟨t, h⟩ => ⟨t, h.symm⟩, fun ⟨t, h⟩ => ⟨t, h.symm⟩⟩
theorem z1U (r : List UInt8) (c : UInt8) : Lib.trimSuffix r [c] = if r.getLast? = some c then r.dropLast else r := by
 unfold Lib.trimSuffix
 rw [z0T]
 simp [List.dropLast_eq_take]
theorem zzU (l : List UInt8) : (Lib.trimSuffix l [46]).length = zfD l := by
 rw [z1U]
 unfold zfD
 split <;> simp
theorem zsX (p : UInt8 → Bool) (h : ∀ n : Fin 256, p (UInt8.ofNat n.val) = true) (c : UInt8) : p c = true := by
 have := h ⟨c.toNat, c.toNat_lt⟩
 rwa [show UInt8.ofNat c.toNat = c from by simp] at this
theorem zxY (c : UInt8) (h : c.toNat < 128) : (lowC c).toNat < 128 := by
 have := zsX (fun c => !decide (c.toNat < 128) || decide ((lowC c).toNat < 128)) (by decide +kernel) c
 simpa [h] using this
theorem z5W (c : UInt8) (h : zhS c = true) : c.toNat < 128 ∧ c.toNat ≠ 37 ∧ c.toNat ≠ 91 := by
 have := zsX (fun c => !zhS c || (decide (c.toNat < 128) && (decide (c.toNat ≠ 37) && decide (c.toNat ≠ 91)))) (by decide +kernel) c
 simpa [h] using this
theorem ziO (a b : List UInt8) : zbM (a ++ b) = zbM a ++ zbM b := by simp [zbM]
theorem zkI {l : List UInt8} : zdW l = true ↔ ∀ c ∈ l, c.toNat < 128 := by simp [zdW]
theorem zqF {l : List UInt8} (h : zdW l = true) : zdW (zbM l) = true := by
 rw [zkI] at *
 intro c hc
 obtain ⟨d, hd, rfl⟩ := List.mem_map.1 hc
 exact zxY d (h d hd)
/-- what is a name: its text in small letters, and that is one -/
structure zeL (n : List UInt8) : Prop where
 low : zbM n = n
 size : zfD n ≤ 253
 lab : ∀ w ∈ zaQ n, 1 ≤ w.length ∧ w.length ≤ 63
 sign : ∀ c ∈ n, zhS c = true
 code : ∀ w ∈ zaQ n, zgM w = false
theorem zeL.plain {n : List UInt8} (h : zeL n) : zdW n = true := zkI.2 fun c hc => (z5W c (h.sign c hc)).1
theorem z3K (l : List UInt8) : (zcW l).2 = 0 ∨ (zcW l).2 = 6 ∨ (zcW l).2 = 7 := by
 unfold zcW zlQ zuL
 repeat' split
 all_goals simp_all
theorem zhE (l : List UInt8) : 0 < (zaF l).length := by simp [zaF, splitB]
theorem zzG {ps : List (List UInt8)} (h : 0 < ps.length) : 0 < zfF ps := by unfold zfF; split <;> omega
theorem zvN (l : List UInt8) : 0 < (zaQ l).length := by
 unfold zaQ
 rw [List.length_take]
 have := zhE l
 have := zzG this
 omega
theorem zrW (a b : List UInt8) : zaF (a ++ [46] ++ b) = zaF a ++ zaF b := by
 have e : spl (hasB [46]) (a ++ [46] ++ b) = (zaF a ++ (spl (hasB [46]) b).1, (spl (hasB [46]) b).2) := by
  rw [ziE, ztT, z0K]
  rfl
 show (spl (hasB [46]) (a ++ [46] ++ b)).1 ++ [(spl (hasB [46]) (a ++ [46] ++ b)).2] = _
 rw [e]
 simp [zaF, splitB]
theorem zpC (xs ys : List (List UInt8)) (h : 0 < ys.length) (h1 : ys ≠ [[]]) : zfF (xs ++ ys) = xs.length + zfF ys := by
 have hd : (xs ++ ys).getD ((xs ++ ys).length - 1) [] = ys.getD (ys.length - 1) [] := by
  simp only [List.getD, List.length_append]
  rw [List.getElem?_append_right (by omega), show xs.length + ys.length - 1 - xs.length = ys.length - 1 from by omega]
 unfold zfF
 rw [hd, List.length_append]
 match ys, h with
 | [y], _ =>
  have hy : y ≠ [] := fun e => h1 (by rw [e])
  rw [if_neg (fun h => hy h.2), if_neg (fun h => hy h.2)]
 | y :: z :: ys, _ =>
  simp only [List.length_cons]
  by_cases e : (y :: z :: ys).getD (ys.length + 1 + 1 - 1) [] = []
  ·rw [if_pos ⟨by omega, e⟩, if_pos ⟨by omega, e⟩]; omega
  ·rw [if_neg (fun h => e h.2), if_neg (fun h => e h.2)]
theorem zkB (a b : List UInt8) (h : zaF b ≠ [[]]) : zaQ (a ++ [46] ++ b) = zaF a ++ zaQ b := by
 unfold zaQ
 rw [zrW, zpC _ _ (zhE b) h, List.take_append, List.take_of_length_le (by omega), show (zaF a).length + zfF (zaF b) - (zaF a).length = zfF (zaF b) from by omega]
theorem zeL.ne {n : List UInt8} (h : zeL n) : zaF n ≠ [[]] := fun e => by
 have := (h.lab [] (by unfold zaQ; rw [e]; decide)).1
 simp at this
theorem zrT {a : List UInt8} (hn : a ≠ []) (h : a.getLast hn ≠ 46) : zaQ a = zaF a := by
 unfold zaQ
 have := zdT (spl (hasB [46]) a).1.length (zaF a) (by rw [zjO]; simp) (.inr (by rw [zjO, zyU]; exact z2T a hn h))
 rw [this, List.take_of_length_le (by rw [zjO]; simp)]
theorem z3W (p : UInt8 → Bool) : ∀ (l : List UInt8) (st : List (List UInt8) × List UInt8) (P : UInt8 → Prop), (∀ c ∈ l, P c) → (∀ w ∈ st.1, ∀ c ∈ w, P c ∧ p c = false) → (∀ c ∈ st.2, P c ∧ p c = false) →
  (∀ w ∈ (l.foldl (zaU p) st).1, ∀ c ∈ w, P c ∧ p c = false) ∧ ∀ c ∈ (l.foldl (zaU p) st).2, P c ∧ p c = false := by
 intro l
 induction l with
 | nil => intro st P _ h1 h2; exact ⟨h1, h2⟩
 | cons d l ih =>
  intro st P h0 h1 h2
  rw [List.foldl_cons]
  refine ih _ P (fun c hc => h0 c (by simp [hc])) ?_ ?_
  ·unfold zaU
   split
   ·intro w hw
    rcases List.mem_append.1 hw with h | h
    ·exact h1 w h
    ·rw [List.mem_singleton.1 h]; exact h2
   ·exact h1
  ·unfold zaU
   split
   ·intro c hc; cases hc
   ·rename_i hp
    intro c hc
    rcases List.mem_append.1 hc with h | h
    ·exact h2 c h
    ·rw [List.mem_singleton.1 h]; exact ⟨h0 d (by simp), by simpa using hp⟩
theorem z2O {l w : List UInt8} (h : w ∈ zaF l) : ∀ c ∈ w, c ∈ l ∧ hasB [46] c = false := by
 have k := z3W (hasB [46]) l ([], []) (· ∈ l) (fun _ h => h) (by simp) (by simp)
 rcases List.mem_append.1 h with h | h
 ·exact k.1 w h
 ·rw [List.mem_singleton.1 h]; exact k.2
theorem zvP {l w : List UInt8} (h : w ∈ zaQ l) : w ∈ zaF l := List.mem_of_mem_take h
theorem ztE (l : List UInt8) : l.length ≤ zfD l + 1 := by unfold zfD; split <;> omega
theorem zzP {l : List UInt8} (h : zeE l = true) : l.length ≤ 254 := by
 unfold zeE at h
 have := of_decide_eq_true (Bool.and_eq_true_iff.1 h).1
 have := ztE l
 omega
theorem ziZ (l : List UInt8) : zfD l ≤ l.length := by unfold zfD; split <;> omega
/-- a label of a name is a name -/
theorem zeL.label {n w : List UInt8} (h : zeL n) (hw : w ∈ zaQ n) : zeL w := by
 have hin := z2O (zvP hw)
 have hd : zaF w = [w] := zvW w fun c hc => (hin c hc).2
 have hl : zaQ w = [w] := by
  unfold zaQ
  rw [hd, zdT 0 [w] rfl (.inl rfl)]
  rfl
 obtain ⟨h1, h2⟩ := h.lab w hw
 refine ⟨?_, Nat.le_trans (ziZ w) (by omega), ?_, fun c hc => h.sign c (hin c hc).1, ?_⟩
 ·have key : ∀ l : List UInt8, zbM l = l → ∀ c ∈ l, lowC c = c := by
   intro l
   induction l with
   | nil => intro _ c hc; cases hc
   | cons d l ih =>
    intro he c hc
    have he' : lowC d :: zbM l = d :: l := he
    injection he' with e1 e2
    rcases List.mem_cons.1 hc with rfl | h
    ·exact e1
    ·exact ih e2 c h
  have hk := key n h.low
  unfold zbM
  conv => rhs; rw [← List.map_id w]
  exact List.map_congr_left fun c hc => hk c (hin c hc).1
 ·rw [hl]; intro v hv; rw [List.mem_singleton.1 hv]; exact ⟨h1, h2⟩
 ·rw [hl]; intro v hv; rw [List.mem_singleton.1 hv]; exact h.code w hw
theorem zwD {xs : List (List UInt8)} {x n : List UInt8} (hn : zeL n) (hx : zaQ x = xs ++ zaQ n) (h0 : 0 < xs.length) : zkL x n = true := by
 unfold zkL
 have h1 : (zaQ n).any (fun w => !w.isEmpty) = true := by
  have hp := zvN n
  match e : zaQ n, hp with
  | w :: ws, _ =>
   have := (hn.lab w (by rw [e]; simp)).1
   cases w with
   | nil => simp at this
   | cons c w => simp
 rw [h1, hx, List.length_append, decide_eq_true (by omega), show xs.length + (zaQ n).length - (zaQ n).length = xs.length from by omega, List.drop_left]
 simp
theorem znM {n m : List UInt8} (h : (zaQ n).length ≤ (zaQ m).length) : zkL n m = false := by
 unfold zkL
 rw [decide_eq_false (by omega)]
 rfl
theorem zeL.join {a b : List UInt8} (ha : zeL a) (hb : zeL b) (hl : a.length + b.length ≤ 250) (hn : a ≠ []) (hd : a.getLast hn ≠ 46) : zeL (a ++ [46] ++ b) ∧ zaQ (a ++ [46] ++ b) = zaQ a ++ zaQ b := by
 have e : zaQ (a ++ [46] ++ b) = zaQ a ++ zaQ b := by rw [zkB a b hb.ne, zrT hn hd]
 refine ⟨⟨?_, Nat.le_trans (ziZ _) (by simp; omega), ?_, ?_, ?_⟩, e⟩
 ·rw [ziO, ziO, ha.low, hb.low]; rfl
 ·rw [e]; intro w hw
  rcases List.mem_append.1 hw with h | h
  ·exact ha.lab w h
  ·exact hb.lab w h
 ·intro c hc
  rcases List.mem_append.1 hc with h | h
  ·rcases List.mem_append.1 h with h | h
   ·exact ha.sign c h
   ·rw [List.mem_singleton.1 h]; decide
  ·exact hb.sign c h
 ·rw [e]; intro w hw
  rcases List.mem_append.1 hw with h | h
  ·exact ha.code w h
  ·exact hb.code w h
/-- what stands below a name, with a label more ahead -/
theorem zeL.more {a n : List UInt8} (hn : zeL n) : zkL (a ++ [46] ++ n) n = true ∧ zkL n (a ++ [46] ++ n) = false ∧ zkL n n = false := by
 have e := zkB a n hn.ne
 exact ⟨zwD hn e (zhE a), znM (by rw [e, List.length_append]; omega), znM (Nat.le_refl _)⟩
end

section
open Go.RowKit
/-- texts that lie in a row from the beginning of block g on -/
def Seen (w : World) (g : Nat) (ps : List (List UInt8)) : Prop := g < w.heap.size ∧ ∀ j, j < ps.length → w.cell? ⟨g, j, none⟩ = some (.string ⟨(ps.getD j []).toArray⟩)
theorem Seen.keep {w w' : World} {g : Nat} {ps : List (List UInt8)} (h : Seen w g ps) (hb : Below w.heap.size w w') : Seen w' g ps := ⟨Nat.lt_of_lt_of_le h.1 hb.size, fun j hj => (hb.cell (p := ⟨g, j, none⟩) h.1).trans (h.2 j hj)⟩
def zrA (w : World) (ps : List (List UInt8)) (e : Ending) (w' : World) : Prop := ∃ g c, e = .returned (.slice (some ⟨g, 0, none⟩) ps.length c) ∧ ps.length ≤ c ∧ Seen w' g ps ∧ Below w.heap.size w w'
theorem zcV {w w' : World} {ps qs : List (List UInt8)} {g c n k : Nat} (hq : ps.take k = qs) (hk : k ≤ ps.length) (hn : n = k) (hcap : k ≤ c) (hg : g < w'.heap.size) (hc : ∀ j, j < ps.length → w'.cell? ⟨g, j, none⟩ = some (.string ⟨(ps.getD j []).toArray⟩)) (hb : Below w.heap.size w w') : zrA w qs (.returned (.slice (some ⟨g, 0, none⟩) n c)) w' := by
 subst hq hn
 refine ⟨g, c, by rw [List.length_take, Nat.min_eq_left hk], by rw [List.length_take, Nat.min_eq_left hk]; exact hcap, ⟨hg, fun j hj => ?_⟩, hb⟩
 rw [List.length_take, Nat.min_eq_left hk] at hj
 rw [hc j (by omega)]
 simp [List.getD, hj]
theorem zfB (s : ByteArray) (w : World) : Calls Tryz.prog 14 #[.string s] w fun e w' => e = .returned (.string s) ∧ w = w' := by
 go_enter Tryz.func14, Tryz.ntmps14
 go_wp2
 go_ret
 exact ⟨rfl, rfl⟩
theorem ziI (l : List UInt8) : ∃ L x, (zaF l).length = L + 1 ∧ (zaF l).getD L [] = x ∧ L ≤ l.length ∧ (0 < L ∧ x = [] ∧ zfF (zaF l) = L ∨ (L = 0 ∨ x ≠ []) ∧ zfF (zaF l) = L + 1) := by
 have h0 := zhE l
 have hl := zcJ (hasB [46]) l
 obtain ⟨L, hL⟩ : ∃ L, (zaF l).length = L + 1 := ⟨(zaF l).length - 1, by omega⟩
 refine ⟨L, _, hL, rfl, by unfold zaF at hL; omega, ?_⟩
 by_cases h : 0 < L ∧ (zaF l).getD L [] = []
 ·obtain ⟨h1, h2⟩ := h
  refine .inl ⟨h1, h2, ?_⟩
  obtain ⟨n, rfl⟩ : ∃ n, L = n + 1 := ⟨L - 1, by omega⟩
  exact zgA n _ hL h2
 ·have hc : L = 0 ∨ (zaF l).getD L [] ≠ [] := by
   by_cases e : L = 0
   ·exact .inl e
   ·exact .inr fun e2 => h ⟨by omega, e2⟩
  exact .inr ⟨hc, zdT L _ hL hc⟩
theorem ziD (l : List UInt8) : (zaQ l).length ≤ l.length + 1 := by
 have h1 := zcJ (hasB [46]) l
 unfold zaQ zaF
 rw [List.length_take]
 omega
theorem zlY (s : ByteArray) (w : World) (hs : s.size ≤ 1073741824) :
  Calls Tryz.prog 16 #[.string s] w (zrA w (zaQ s.data.toList)) := by
 obtain ⟨L, x, hL, hx, hLl, hc⟩ := ziI s.data.toList
 rw [zaL] at hLl
 go_enter Tryz.func16, Tryz.ntmps16
 go_wp2_with fail
 refine (zfB s _).mono ?_
 rintro e w' ⟨rfl, rfl⟩
 go_wp2_with fail
 refine (zcD s _ _ hs).mono ?_
 rintro e w1 ⟨v, rfl, hp, hb1⟩
 have hp' : zbP w.heap.size w1 v (zaF s.data.toList) := hp
 obtain ⟨g, cap, rfl, hcap, hg, hcell⟩ := hp'.form2 (by omega)
 rw [hL] at hcap ⊢
 have hcx := hcell L (by omega)
 rw [hx] at hcx
 have HC := Lib.hid hcell
 have HL := Lib.hid hL
 have HX := Lib.hid hx
 clear hcell hp hp' hL hx
 rcases hc with ⟨h1, rfl, hk⟩ | ⟨rfl | hne, hk⟩
 ·have HK := Lib.hid hk
  obtain ⟨n, rfl⟩ : ∃ n, L = n + 1 := ⟨L - 1, by omega⟩
  clear hk h1
  go_wp2
  go_ret
  exact zcV (k := n + 1) (by unfold zaQ; rw [HK.out]) (by rw [HL.out]; omega) (by omega) (by omega) hg HC.out hb1
 ·have HK := Lib.hid hk
  clear hk
  go_wp2
  go_ret
  exact zcV (k := 1) (by unfold zaQ; rw [HK.out]) (by rw [HL.out]; omega) (by omega) (by omega) hg HC.out hb1
 ·have HK := Lib.hid hk
  have hxe : x.isEmpty = false := zcL hne
  clear hk hne
  by_cases h0 : L = 0
  ·subst h0
   go_wp2
   go_ret
   exact zcV (k := 1) (by unfold zaQ; rw [HK.out]) (by rw [HL.out]; omega) (by omega) (by omega) hg HC.out hb1
  ·obtain ⟨n, rfl⟩ : ∃ n, L = n + 1 := ⟨L - 1, by omega⟩
   go_wp2
   go_ret
   exact zcV (k := n + 2) (by unfold zaQ; rw [HK.out]) (by rw [HL.out]; omega) (by omega) (by omega) hg HC.out hb1
end

section
open Go.RowKit
theorem zyA (q : List UInt8) (w : World) : Calls Tryz.prog 41 #[.string ⟨q.toArray⟩] w fun e w' => e = .returned (.bool (zgM q)) ∧ w = w' := by
 go_enter Tryz.func41, Tryz.ntmps41
 go_wp2_with fail
 refine (Tryz.strings_HasPrefix ⟨q.toArray⟩ _ _).mono ?_
 rintro e w' ⟨rfl, rfl⟩
 go_wp2
 go_ret
 exact ⟨rfl, rfl⟩
theorem zxM {p : List UInt8 → Bool} {ps : List (List UInt8)} {k : Nat} {q : List UInt8} (hk : k < ps.length) (hq : ps.getD k [] = q) (h : p q = false) : ps.all p = false := by
 rw [List.all_eq_false]
 refine ⟨q, ?_, by simp [h]⟩
 rw [← hq, List.getD, List.getElem?_eq_getElem hk]
 exact List.getElem_mem hk
theorem zzY {p : List UInt8 → Bool} {ps : List (List UInt8)} (h : ∀ j, j < ps.length → p (ps.getD j []) = true) : ps.all p = true := by
 rw [List.all_eq_true]
 intro x hx
 obtain ⟨j, hj, rfl⟩ := List.getElem_of_mem hx
 have := h j hj
 rwa [List.getD, List.getElem?_eq_getElem hj] at this
theorem zsK (s : ByteArray) (w : World) (hs : s.size ≤ 140737488355328) : Calls Tryz.prog 67 #[.string s, .string ⟨#[46]⟩] w fun e w' => ∃ t : ByteArray, e = .returned (.string t) ∧ t.size = zfD s.data.toList ∧ w = w' := by
 refine (Tryz.strings_TrimSuffix s ⟨#[46]⟩ w (by omega)).mono ?_
 rintro e w' ⟨rfl, rfl⟩
 exact ⟨_, rfl, by rw [zaH]; exact zzU _, rfl⟩
theorem zxC (s : ByteArray) (w : World) (hs : s.size ≤ 140737488355328) :
  Calls Tryz.prog 38 #[.string s] w (zeQ w (zeE s.data.toList)) := by
 obtain ⟨ps, hps⟩ : ∃ ps, zaQ s.data.toList = ps := ⟨_, rfl⟩
 have HLB := Lib.hid (fun W h => zlY s W h)
 rw [hps] at HLB
 have hlg := ztE s.data.toList
 rw [zaL] at hlg
 have HS : Hid (zeE s.data.toList = (decide (zfD s.data.toList ≤ 253) && ps.all zfR)) := by show _ = _; rw [← hps]; rfl
 have hpl : ps.length ≤ s.size + 1 := by rw [← hps]; have := ziD s.data.toList; rwa [zaL] at this
 clear hps
 go_enter Tryz.func38, Tryz.ntmps38
 go_wp2_with fail
 refine (zfB s _).mono ?_
 rintro e w' ⟨rfl, rfl⟩
 go_wp2_with fail
 refine (zsK s _ hs).mono ?_
 rintro e w' ⟨t, rfl, ht, rfl⟩
 rw [← ht] at HS hlg
 clear ht
 by_cases hb : 253 < t.size
 ·have hd : decide (253 < (t.size : Int)) = true := decide_eq_true (by omega)
  have HF := Lib.hid (show zeE s.data.toList = false by rw [HS.out, decide_eq_false (by omega)]; rfl)
  go_wp2
  go_ret
  exact zbB HF.out (Below.refl _ _)
 have hd : decide (253 < (t.size : Int)) = false := decide_eq_false (by omega)
 have HF : Hid (zeE s.data.toList = ps.all zfR) := by show _ = _; rw [HS.out, decide_eq_true (by omega)]; rfl
 have hss : s.size ≤ 254 := by omega
 clear hb HS hlg
 go_wp2_with fail
 refine (HLB.out _ (by omega)).mono ?_
 rintro e w1 ⟨g, c, rfl, -, hseen, hb1⟩
 have HC := Lib.hid hseen.2
 have hg := hseen.1
 clear hseen hd HLB
 go_wp2
 go_loop [13] (fun i => ∃ k : Nat, k ≤ ps.length ∧ i = .int .i64 k ∧ Hid (∀ j, j < k → zfR (ps.getD j []) = true)) (fun i => ps.length - (intOf i).toNat)
 case atStart => exact ⟨0, Nat.zero_le _, rfl, fun j h => absurd h (Nat.not_lt_zero j)⟩
 case round =>
  obtain ⟨k, hk, rfl, H⟩ := hrel
  by_cases hlt : k < ps.length
  ·have hcl := HC.out k hlt
   obtain ⟨q, hq⟩ : ∃ q, ps.getD k [] = q := ⟨_, rfl⟩
   rw [hq] at hcl
   have HQ := Lib.hid hq
   clear hq
   by_cases h1 : q = []
   ·subst h1
    have HN := Lib.hid (zxM hlt HQ.out (show zfR [] = false from rfl))
    go_wp2
    go_ret
    exact zbB (HF.out.trans HN.out) hb1
   ·have hqe : q.isEmpty = false := zcL h1
    have hq0 : 0 < q.length := List.length_pos_iff.2 h1
    by_cases h2 : 63 < q.length
    ·have HN := Lib.hid (zxM hlt HQ.out (show zfR q = false from decide_eq_false (by omega)))
     have hd : decide (63 < (q.length : Int)) = true := decide_eq_true (by omega)
     clear h1
     go_wp2
     go_ret
     exact zbB (HF.out.trans HN.out) hb1
    ·have HY := Lib.hid (show zfR q = true from decide_eq_true (by omega))
     have hd : decide (63 < (q.length : Int)) = false := decide_eq_false (by omega)
     clear h1
     go_wp2
     go_round
     case rel =>
      refine ⟨k + 1, by omega, by go_num, fun j hj => ?_⟩
      by_cases e : j = k
      ·subst e; rw [HQ.out]; exact HY.out
      ·exact H.out j (by omega)
     case measure => simp [intOf]; omega
  ·have HN := Lib.hid (zzY (p := zfR) (ps := ps) fun j hj => H.out j (by omega))
   go_wp2
   go_ret
   exact zbB (HF.out.trans HN.out) hb1
theorem z4Q (c : UInt8) (w : World) (hc : c.toNat < 128) : Calls Tryz.prog 68 #[.string ⟨#[34, 35, 37, 47, 58, 60, 62, 63, 64, 91, 92, 93, 94, 96, 123, 124, 125]⟩, .int .i32 (c.toNat : Int)] w fun e w' => e = .returned (.bool (hasB badL c)) ∧ w = w' := by
 refine (Tryz.strings_ContainsRune_ascii _ _ w (by omega) (by omega)).mono ?_
 rintro e w' ⟨rfl, rfl⟩
 rw [zmU]
 refine ⟨?_, rfl⟩
 show Ending.returned (.bool (decide (0 ≤ Lib.indexByte badL c))) = _
 cases h : hasB badL c with
 | true => rw [decide_eq_true ((zgF _ _).1 h)]
 | false => rw [(zgF _ _).2 h]; rfl
theorem ztL {s : ByteArray} {k : Nat} (hk : k < s.size) (h : zhS s[k] = false) : zfP s.data.toList = false := by
 unfold zfP
 rw [List.all_eq_false]
 refine ⟨s[k], ?_, by simp [h]⟩
 show s.data[k] ∈ _
 simp
theorem zpL {s : ByteArray} (h : ∀ k (h : k < s.size), zhS s[k] = true) : zfP s.data.toList = true := by
 unfold zfP
 rw [List.all_eq_true]
 intro x hx
 obtain ⟨j, hj, rfl⟩ := List.getElem_of_mem hx
 exact h j (by simpa using hj)
theorem zwA (s : ByteArray) (k : Nat) (h : k < s.size) (hp : s[k].toNat < 128) : Utf8.decode s k = (s[k].toNat, 1) := by
 have := zsZ s k h
 rw [zeU, if_pos (by omega), this]
theorem zzH (s : ByteArray) (w : World) (hp : zdW s.data.toList = true) :
  Calls Tryz.prog 39 #[.string s] w (zeQ w (zfP s.data.toList)) := by
 have HP : Hid (∀ k (h : k < s.size), s[k].toNat < 128) := fun k h => zkI.1 hp _ (by show s.data[k] ∈ _; simp)
 clear hp
 go_enter Tryz.func39, Tryz.ntmps39
 go_wp2_with fail
 refine (zfB s _).mono ?_
 rintro e w' ⟨rfl, rfl⟩
 go_wp2
 go_loopw [] (fun wr => ∃ k : Nat, wr.heap[w.heap.size]? = some (.stringIter s k) ∧ Below w.heap.size w wr ∧ k ≤ s.size ∧ Hid (∀ j (h : j < s.size), j < k → zhS s[j] = true)) (fun wr => s.size - wr.iterPos w.heap.size)
 case atStart => exact ⟨0, World.iter_heap w s 0, (Below.refl _ w).alloc (Nat.le_refl _) _, Nat.zero_le _, fun j _ h => absurd h (Nat.not_lt_zero j)⟩
 case round =>
  obtain ⟨k, hit, hbw, hk, H⟩ := hrel
  by_cases hlt : k < s.size
  ·have hnx : ∀ ty, (Instr.next (.pointer (some ⟨w.heap.size, 0, none⟩)) true ty).run Tryz.prog wr = _ := fun ty => Lib.run_next_any_at wr w.heap.size s k ty hit hlt
   have hp := HP.out k hlt
   rw [zwA s k hlt hp] at hnx
   have hit2 := Lib.iterAt_heap wr w.heap.size s k (k + 1) hit
   have hbw2 := Lib.below_iterAt hbw (k := w.heap.size) (Nat.le_refl _) s (k + 1)
   have HWP : Hid (wr.iterPos w.heap.size = k) := by
    show wr.iterPos w.heap.size = k
    simp only [World.iterPos, hit]
   simp only at hnx
   generalize wr.iterAt w.heap.size s (k + 1) = wi at *
   have HBA := Lib.hid (fun W => z4Q s[k] W hp)
   have HSC := Lib.hid (show zhS s[k] = (decide (33 ≤ s[k].toNat ∧ s[k].toNat ≤ 126) && !hasB badL s[k]) from rfl)
   have HNO := Lib.hid (fun h => ztL hlt h)
   obtain ⟨c, hc⟩ : ∃ c, s[k].toNat = c := ⟨_, rfl⟩
   generalize hbd : hasB badL s[k] = bd at HBA HSC
   rw [hc] at hp hnx HBA HSC
   clear hbd
   have HC := Lib.hid hc
   clear hc
   by_cases h1 : c < 33
   ·have HF := Lib.hid (HNO.out (by rw [HSC.out, decide_eq_false (by omega)]; rfl))
    have hd : decide ((c : Int) < 33) = true := decide_eq_true (by omega)
    go_wp2
    go_ret
    exact zbB HF.out hbw2
   ·have hd1 : decide ((c : Int) < 33) = false := decide_eq_false (by omega)
    by_cases h2 : 126 < c
    ·have HF := Lib.hid (HNO.out (by rw [HSC.out, decide_eq_false (by omega)]; rfl))
     have hd : decide (126 < (c : Int)) = true := decide_eq_true (by omega)
     go_wp2
     go_ret
     exact zbB HF.out hbw2
    ·have hd2 : decide (126 < (c : Int)) = false := decide_eq_false (by omega)
     cases bd with
     | true =>
      have HF := Lib.hid (HNO.out (by rw [HSC.out]; simp))
      go_wp2_with (go_at_call 68; refine (HBA.out _).mono ?_; rintro e w' ⟨rfl, rfl⟩)
      go_ret
      exact zbB HF.out hbw2
     | false =>
      have HY := Lib.hid (show zhS s[k] = true by rw [HSC.out, decide_eq_true (by omega)]; rfl)
      go_wp2_with (go_at_call 68; refine (HBA.out _).mono ?_; rintro e w' ⟨rfl, rfl⟩)
      go_roundw
      case rel =>
       refine ⟨k + 1, hit2, hbw2, by omega, fun j hj hjk => ?_⟩
       by_cases e : j = k
       ·subst e; exact HY.out
       ·exact H.out j hj (by omega)
      case measure =>
       rw [HWP.out]
       simp only [World.iterPos, hit2]
       omega
  ·have hnx : ∀ ty, (Instr.next (.pointer (some ⟨w.heap.size, 0, none⟩)) true ty).run Tryz.prog wr = _ := fun ty => Lib.run_next_end_at wr w.heap.size s k ty hit hlt
   have HF := Lib.hid (zpL (s := s) fun j hj => H.out j hj (by omega))
   go_wp2
   go_ret
   exact zbB HF.out hbw
end

section
open Go.RowKit
theorem ziA {w x1 x2 : World} (h1 : Below w.heap.size w x1) (h2 : Below x1.heap.size x1 x2) : Below w.heap.size w x2 := h1.trans (h2.mono h1.size)
theorem anyF (f : Nat) (p : List UInt8 → Bool) (hf : ∀ (q : List UInt8) (w : World), Calls Tryz.prog f #[.string ⟨q.toArray⟩] w fun e w' => e = .returned (.bool (p q)) ∧ w = w') (ef : ∀ args w, (callFunc f args).run Tryz.prog w = .ok (.enter f args) w) (g c : Nat) (ps : List (List UInt8)) (w : World) (hs : Seen w g ps) (hl : ps.length ≤ 9223372036854775807) :
  Calls Tryz.prog 40 #[.slice (some ⟨g, 0, none⟩) ps.length c, .func (.func f) #[] #[]] w fun e w' => e = .returned (.bool (ps.any p)) ∧ Below w.heap.size w w' := by
 refine (Tryz.slices_ContainsFunc strC p f #[] ef g 0 ps.length c ps w (fun W x _ => (hf x W).mono fun e w' h => ⟨h.1, 0, by rw [← h.2]; rfl⟩) (Nat.le_refl _) hl (fun j hj => ?_)).mono ?_
 ·rw [Nat.zero_add, hs.2 j hj]
  simp [strC, List.getD, List.getElem?_eq_getElem hj]
 ·rintro e w' ⟨rfl, q, rfl⟩
  rw [List.take_length]
  exact ⟨rfl, zcC (Below.refl _ _) q⟩
theorem codedF (g c : Nat) (ps : List (List UInt8)) (w : World) (hs : Seen w g ps) (hl : ps.length ≤ 9223372036854775807) :
  Calls Tryz.prog 40 #[.slice (some ⟨g, 0, none⟩) ps.length c, .func (.func 41) #[] #[]] w fun e w' => e = .returned (.bool (ps.any zgM)) ∧ Below w.heap.size w w' :=
 anyF _ _ zyA (enters_of Tryz.func41 (by kernel_rfl) rfl) g c ps w hs hl
theorem ztC {l : List UInt8} (h : zdW l = false) : zcW l = ([], 7) := by
 unfold zcW zlQ
 rw [if_pos h, if_neg (by decide)]
theorem zgV {l : List UInt8} (hp : zdW l = true) {e : Int} (h : zuL (zbM l) = e) : zcW l = if e = 0 then (zbM l, 0) else ([], e) := by
 have e1 : zlQ l = e := by unfold zlQ; rw [if_neg (by simp [hp]), h]
 unfold zcW
 rw [e1]
theorem zmG {l : List UInt8} (hp : zdW l = true) (h : (zeE (zbM l) && zfP (zbM l)) = false) : zcW l = ([], 6) := (zgV (e := 6) hp (by unfold zuL; rw [if_pos h])).trans (if_neg (by decide))
theorem zjE {l : List UInt8} (hp : zdW l = true) (h1 : zeE (zbM l) = true) (h2 : zfP (zbM l) = true) {b : Bool} (h3 : (zaQ (zbM l)).any zgM = b) : zcW l = if b = true then ([], 7) else (zbM l, 0) := by
 cases b
 ·exact zgV (e := 0) hp (by unfold zuL; rw [if_neg (by simp [h1, h2]), if_neg (by simp [h3])])
 ·exact zgV (e := 7) hp (by unfold zuL; rw [if_neg (by simp [h1, h2]), if_pos h3])
def zqH (w : World) (x : List UInt8 × Int) (e : Ending) (w' : World) : Prop := e = .returned (.tuple #[.string ⟨x.1.toArray⟩, .int .i64 x.2]) ∧ Below w.heap.size w w'
theorem zbY {w w' : World} {x : List UInt8 × Int} {l : List UInt8} {n : Int} (h : x = (l, n)) (hb : Below w.heap.size w w') : zqH w x (.returned (.tuple #[.string ⟨l.toArray⟩, .int .i64 n])) w' := by
 subst h; exact ⟨rfl, hb⟩
theorem zfY (s : ByteArray) (w : World) (hs : s.size ≤ 140737488355328) :
  Calls Tryz.prog 11 #[.string s] w (zqH w (zcW s.data.toList)) := by
 cases hp : zdW s.data.toList with
 | false =>
  have HF := Lib.hid (ztC hp)
  go_enter Tryz.func11, Tryz.ntmps11
  go_wp2_with fail
  refine (zoQ s _ hs).mono ?_
  rw [show zgK s = false from hp]
  rintro e w' ⟨rfl, rfl⟩
  go_wp2
  go_ret2
  exact zbY HF.out (Below.refl _ _)
 | true =>
  have HP := Lib.hid hp
  obtain ⟨t, ht⟩ : ∃ t, zbM s.data.toList = t := ⟨_, rfl⟩
  have htl : t.length = s.size := by rw [← ht, zjJ, zaL]
  have htp : zdW t = true := by rw [← ht]; exact zqF hp
  have HT := Lib.hid ht
  clear hp
  go_enter Tryz.func11, Tryz.ntmps11
  go_wp2_with fail
  refine (zoQ s _ hs).mono ?_
  rw [show zgK s = true from HP.out]
  rintro e w' ⟨rfl, rfl⟩
  go_wp2_with fail
  refine (zxU s _ hs).mono ?_
  rw [ht]
  rintro e w1 ⟨rfl, hb1⟩
  go_wp2_with fail
  refine (zxC ⟨t.toArray⟩ _ (by rw [zaH]; omega)).mono ?_
  rw [zaJ]
  rintro e w2 ⟨rfl, hb2⟩
  have hc2 := ziA hb1 hb2
  clear hb1 hb2 ht
  cases h1 : zeE t with
  | false =>
   have HF := Lib.hid (zmG HP.out (by rw [HT.out, h1]; rfl))
   go_wp2
   go_ret2
   exact zbY HF.out hc2
  | true =>
   have H1 := Lib.hid h1
   have htl4 := zzP h1
   clear h1
   go_wp2_with fail
   refine (zzH ⟨t.toArray⟩ _ (by rw [zaJ]; exact htp)).mono ?_
   rw [zaJ]
   rintro e w3 ⟨rfl, hb3⟩
   have hc3 := ziA hc2 hb3
   clear hc2 hb3
   cases h2 : zfP t with
   | false =>
    have HF := Lib.hid (zmG HP.out (by rw [HT.out, h2, Bool.and_false]))
    go_wp2
    go_ret2
    exact zbY HF.out hc3
   | true =>
    have H2 := Lib.hid h2
    clear h2
    go_wp2_with fail
    refine (zlY ⟨t.toArray⟩ _ (by rw [zaH]; omega)).mono ?_
    rw [zaJ]
    rintro e w4 ⟨g, c, rfl, -, hse, hb4⟩
    have hc4 := ziA hc3 hb4
    clear hc3 hb4
    go_wp2_with fail
    refine (codedF g c _ _ hse (by have := ziD t; omega)).mono ?_
    rintro e w5 ⟨rfl, hb5⟩
    have hc5 := ziA hc4 hb5
    clear hc4 hb5 hse
    cases h3 : (zaQ t).any zgM with
    | false =>
     have HF := Lib.hid (zjE (b := false) HP.out (by rw [HT.out]; exact H1.out) (by rw [HT.out]; exact H2.out) (by rw [HT.out]; exact h3))
     rw [if_neg (by decide), HT.out] at HF
     go_wp2
     go_ret2
     exact zbY HF.out hc5
    | true =>
     have HF := Lib.hid (zjE (b := true) HP.out (by rw [HT.out]; exact H1.out) (by rw [HT.out]; exact H2.out) (by rw [HT.out]; exact h3))
     rw [if_pos rfl] at HF
     go_wp2
     go_ret2
     exact zbY HF.out hc5
/-- is it a name, as it stands -/
def znN (l : List UInt8) : Bool := decide ((zcW l).2 = 0) && (zcW l).1 == l
theorem zrG (s : ByteArray) (w : World) (hs : s.size ≤ 140737488355328) :
  Calls Tryz.prog 13 #[.string s] w (zeQ w (znN s.data.toList)) := by
 obtain ⟨n, er, hc⟩ : ∃ n er, zcW s.data.toList = (n, er) := ⟨_, _, rfl⟩
 have hce := z3K s.data.toList
 have HR := Lib.hid (show znN s.data.toList = (decide (er = 0) && n == s.data.toList) by unfold znN; rw [hc])
 rw [hc] at hce
 go_enter Tryz.func13, Tryz.ntmps13
 go_wp2_with fail
 refine (zfY s _ hs).mono ?_
 rw [hc]
 rintro e w1 ⟨rfl, hb1⟩
 clear hc
 by_cases h0 : er = 0
 ·subst h0
  clear hce
  cases hq : n == s.toList with
  | true =>
   have HF := Lib.hid (HR.out.trans (show (decide ((0 : Int) = 0) && n == s.data.toList) = true by rw [← Lib.toList_data, hq]; rfl))
   go_wp2_with (go_at_call 14; refine (zfB _ _).mono ?_; rintro e w' ⟨rfl, rfl⟩)
   go_ret
   exact zbB HF.out hb1
  | false =>
   have HF := Lib.hid (HR.out.trans (show (decide ((0 : Int) = 0) && n == s.data.toList) = false by rw [← Lib.toList_data, hq]; rfl))
   go_wp2_with (go_at_call 14; refine (zfB _ _).mono ?_; rintro e w' ⟨rfl, rfl⟩)
   go_ret
   exact zbB HF.out hb1
 ·have HF := Lib.hid (HR.out.trans (show (decide (er = 0) && n == s.data.toList) = false by rw [decide_eq_false h0]; rfl))
  have hd : (er == (0 : Int)) = false := beq_eq_false_iff_ne.2 h0
  clear hce
  go_wp2
  go_ret
  exact zbB HF.out hb1
end

section
open Go.RowKit
def badR : List UInt8 := [35, 47, 58, 60, 62, 63, 64, 91, 93, 94, 124, 37, 123, 125]
theorem z2S (c : UInt8) : zhS c = (decide (33 ≤ c.toNat ∧ c.toNat ≤ 126) && (!hasB badR c && decide (c.toNat ≠ 92 ∧ c.toNat ≠ 34 ∧ c.toNat ≠ 96))) := by
 simpa using zsX (fun c => zhS c == (decide (33 ≤ c.toNat ∧ c.toNat ≤ 126) && (!hasB badR c && decide (c.toNat ≠ 92 ∧ c.toNat ≠ 34 ∧ c.toNat ≠ 96)))) (by decide +kernel) c
theorem z4W (c : UInt8) : (lowC c).toNat < 65 ∨ 90 < (lowC c).toNat := by
 simpa using zsX (fun c => decide ((lowC c).toNat < 65) || decide (90 < (lowC c).toNat)) (by decide +kernel) c
theorem zoM (s : ByteArray) (w : World) (hs : s.size ≤ 1073741824) (hl : ∀ c ∈ s.data.toList, c.toNat < 65 ∨ 90 < c.toNat) :
  Calls Tryz.prog 44 #[.string s] w fun e w' => e = .returned (.bool (zfP s.data.toList)) ∧ w = w' := by
 have HL : Hid (∀ k (h : k < s.size), s[k].toNat < 65 ∨ 90 < s[k].toNat) := fun k h => hl _ (by show s.data[k] ∈ _; simp)
 clear hl
 go_enter Tryz.func44, Tryz.ntmps44
 go_wp2
 go_loop [3] (fun i => ∃ k : Nat, k ≤ s.size ∧ i = .int .i64 k ∧ Hid (∀ j (h : j < s.size), j < k → zhS s[j] = true)) (fun i => s.size - (intOf i).toNat)
 case atStart => exact ⟨0, Nat.zero_le _, rfl, fun j _ h => absurd h (Nat.not_lt_zero j)⟩
 case round =>
  obtain ⟨k, hk, rfl, H⟩ := hrel
  by_cases hlt : k < s.size
  ·have hlow := HL.out k hlt
   have HNO := Lib.hid (fun h => ztL hlt h)
   have HSC := Lib.hid (z2S s[k])
   have HHA : Hid (∀ W, Calls Tryz.prog 71 #[.string ⟨#[35, 47, 58, 60, 62, 63, 64, 91, 93, 94, 124, 37, 123, 125]⟩, .int .u8 (s[k].toNat : Int)] W fun e w' => e = .returned (.bool (hasB badR s[k])) ∧ W = w') := fun W => zsB ⟨#[35, 47, 58, 60, 62, 63, 64, 91, 93, 94, 124, 37, 123, 125]⟩ s[k] W (by decide)
   generalize hasB badR s[k] = bd at HSC HHA
   obtain ⟨c, hc⟩ : ∃ c, s[k].toNat = c := ⟨_, rfl⟩
   have hc256 : c < 256 := by rw [← hc]; exact s[k].toNat_lt
   rw [hc] at hlow HSC HHA
   by_cases h1 : c < 33
   ·have HF := Lib.hid (HNO.out (by rw [HSC.out, decide_eq_false (by omega)]; rfl))
    clear hlow
    go_wp2
    go_ret
    exact ⟨zaP HF.out.symm, rfl⟩
   by_cases h2 : 126 < c
   ·have HF := Lib.hid (HNO.out (by rw [HSC.out, decide_eq_false (by omega)]; rfl))
    clear hlow
    go_wp2
    go_ret
    exact ⟨zaP HF.out.symm, rfl⟩
   have hd1 : decide ((c : Int) < 33) = false := decide_eq_false (by omega)
   have hd2 : decide (126 < (c : Int)) = false := decide_eq_false (by omega)
   have hd3 : decide (65 ≤ (c : Int)) = false ∨ decide (65 ≤ (c : Int)) = true ∧ decide ((c : Int) ≤ 90) = false := by
    by_cases h : c < 65
    ·exact .inl (decide_eq_false (by omega))
    ·exact .inr ⟨decide_eq_true (by omega), decide_eq_false (by omega)⟩
   clear hlow
   rcases hd3 with hd3 | ⟨hd3, hd4⟩
   all_goals
    have hne : ∀ m : Nat, c ≠ m → ((c : Int) == (m : Int)) = false := fun m h => beq_eq_false_iff_ne.2 (by omega)
    have hye : ∀ m : Nat, c = m → ((c : Int) == (m : Int)) = true := fun m h => by rw [h]; simp
    have HR : Hid (decide (33 ≤ c ∧ c ≤ 126) = true) := decide_eq_true (by omega)
    clear h1 h2
    cases bd with
    | true =>
     have HF := Lib.hid (HNO.out (by rw [HSC.out, HR.out]; rfl))
     go_wp2_with (go_at_call 71; refine (HHA.out _).mono ?_; rintro e w' ⟨rfl, rfl⟩)
     go_ret
     exact ⟨zaP HF.out.symm, rfl⟩
    | false =>
     by_cases h3 : c = 92 ∨ c = 34 ∨ c = 96
     ·have HF := Lib.hid (HNO.out (by rw [HSC.out, HR.out, decide_eq_false (by omega)]; rfl))
      rcases h3 with h | h | h
      ·have e1 : ((c : Int) == 92) = true := hye 92 h
       clear hne hye h
       go_wp2_with (go_at_call 71; refine (HHA.out _).mono ?_; rintro e w' ⟨rfl, rfl⟩)
       go_ret
       exact ⟨zaP HF.out.symm, rfl⟩
      ·have e1 : ((c : Int) == 92) = false := hne 92 (by omega)
       have e2 : ((c : Int) == 34) = true := hye 34 h
       clear hne hye h
       go_wp2_with (go_at_call 71; refine (HHA.out _).mono ?_; rintro e w' ⟨rfl, rfl⟩)
       go_ret
       exact ⟨zaP HF.out.symm, rfl⟩
      ·have e1 : ((c : Int) == 92) = false := hne 92 (by omega)
       have e2 : ((c : Int) == 34) = false := hne 34 (by omega)
       have e3 : ((c : Int) == 96) = true := hye 96 h
       clear hne hye h
       go_wp2_with (go_at_call 71; refine (HHA.out _).mono ?_; rintro e w' ⟨rfl, rfl⟩)
       go_ret
       exact ⟨zaP HF.out.symm, rfl⟩
     ·have HY := Lib.hid (show zhS s[k] = true by rw [HSC.out, HR.out, decide_eq_true (by omega)]; rfl)
      have e1 : ((c : Int) == 92) = false := hne 92 (by omega)
      have e2 : ((c : Int) == 34) = false := hne 34 (by omega)
      have e3 : ((c : Int) == 96) = false := hne 96 (by omega)
      clear hne hye h3
      go_wp2_with (go_at_call 71; refine (HHA.out _).mono ?_; rintro e w' ⟨rfl, rfl⟩)
      go_round
      case rel =>
       refine ⟨k + 1, by omega, by go_num, fun j hj hjk => ?_⟩
       by_cases e : j = k
       ·subst e; exact HY.out
       ·exact H.out j hj (by omega)
      case measure => simp [intOf]; omega
  ·have HF := Lib.hid (zpL (s := s) fun j hj => H.out j hj (by omega))
   go_wp2
   go_ret
   exact ⟨zaP HF.out.symm, rfl⟩
theorem zrF (s : ByteArray) (w : World) (hs : s.size ≤ 1073741824) :
  Calls Tryz.prog 45 #[.string s] w fun e w' => e = .returned (.int .i64 (zfD s.data.toList)) ∧ w = w' := by
 by_cases h0 : s.size = 0
 ·have HF : Hid (zfD s.data.toList = 0) := Nat.le_zero.1 (Nat.le_trans (ziZ _) (by rw [zaL]; omega))
  go_enter Tryz.func45, Tryz.ntmps45
  go_wp2
  go_ret
  exact ⟨zdD (by rw [HF.out]; first | rfl | omega), rfl⟩
 ·obtain ⟨n, hn⟩ : ∃ n, s.size = n + 1 := ⟨s.size - 1, by omega⟩
  have hlt : n < s.size := by omega
  have hlast : s.data.toList.getLast? = some s[n] := by rw [List.getLast?_eq_getElem?, zaL, hn]; exact zjF s n hlt
  obtain ⟨c, hc⟩ : ∃ c, s[n].toNat = c := ⟨_, rfl⟩
  have HLO : Hid (zfD s.data.toList = if c = 46 then n else n + 1) := by
   show zfD _ = _
   unfold zfD
   rw [hlast, zaL, hn, ← hc]
   by_cases e : s[n] = 46
   ·rw [if_pos (by rw [e]), if_pos (by rw [e]; rfl)]; omega
   ·rw [if_neg (fun h => e (Option.some.inj h)), if_neg (show ¬ s[n].toNat = 46 from fun h => e (UInt8.toNat_inj.1 h))]
  clear hlast h0
  by_cases h : c = 46
  ·have HF := Lib.hid (HLO.out.trans (if_pos h))
   have e1 : ((c : Int) == 46) = true := by rw [h]; rfl
   clear h
   go_enter Tryz.func45, Tryz.ntmps45
   go_wp2
   go_ret
   exact ⟨zdD (by rw [HF.out] <;> omega), rfl⟩
  ·have HF := Lib.hid (HLO.out.trans (if_neg h))
   have e1 : ((c : Int) == 46) = false := beq_eq_false_iff_ne.2 (by omega)
   clear h
   go_enter Tryz.func45, Tryz.ntmps45
   go_wp2
   go_ret
   exact ⟨zdD (by rw [HF.out] <;> omega), rfl⟩
theorem zgY (s : ByteArray) (w : World) (hs : s.size ≤ 1073741824) :
  Calls Tryz.prog 46 #[.string s] w (zrA w (zaQ s.data.toList)) := by
 obtain ⟨L, x, hL, hx, hLl, hc⟩ := ziI s.data.toList
 rw [zaL] at hLl
 go_enter Tryz.func46, Tryz.ntmps46
 go_wp2_with fail
 refine (zpO s _ _ hs (by decide)).mono ?_
 rintro e w1 ⟨v, rfl, hp, hb1⟩
 have hp' : zbP w.heap.size w1 v (zaF s.data.toList) := hp
 obtain ⟨g, cap, rfl, hcap, hg, hcell⟩ := hp'.form2 (by omega)
 rw [hL] at hcap ⊢
 have hcx := hcell L (by omega)
 rw [hx] at hcx
 have HC := Lib.hid hcell
 have HL := Lib.hid hL
 have HX := Lib.hid hx
 clear hcell hp hp' hL hx
 rcases hc with ⟨h1, rfl, hk⟩ | ⟨rfl | hne, hk⟩
 ·have HK := Lib.hid hk
  obtain ⟨n, rfl⟩ : ∃ n, L = n + 1 := ⟨L - 1, by omega⟩
  clear hk h1
  go_wp2
  go_ret
  exact zcV (k := n + 1) (by unfold zaQ; rw [HK.out]) (by rw [HL.out]; omega) (by omega) (by omega) hg HC.out hb1
 ·have HK := Lib.hid hk
  clear hk
  go_wp2
  go_ret
  exact zcV (k := 1) (by unfold zaQ; rw [HK.out]) (by rw [HL.out]; omega) (by omega) (by omega) hg HC.out hb1
 ·have HK := Lib.hid hk
  have hxe : x.isEmpty = false := zcL hne
  clear hk hne
  by_cases h0 : L = 0
  ·subst h0
   go_wp2
   go_ret
   exact zcV (k := 1) (by unfold zaQ; rw [HK.out]) (by rw [HL.out]; omega) (by omega) (by omega) hg HC.out hb1
  ·obtain ⟨n, rfl⟩ : ∃ n, L = n + 1 := ⟨L - 1, by omega⟩
   go_wp2
   go_ret
   exact zcV (k := n + 2) (by unfold zaQ; rw [HK.out]) (by rw [HL.out]; omega) (by omega) (by omega) hg HC.out hb1
theorem z1R (t : List UInt8) : ∀ c ∈ zbM t, c.toNat < 65 ∨ 90 < c.toNat := fun c hc => by
 obtain ⟨d, _, rfl⟩ := List.mem_map.1 hc
 exact z4W d
theorem znC {l : List UInt8} (hp : zdW l = true) (h : zfP (zbM l) = false ∨ ¬ zfD (zbM l) ≤ 253 ∨ (zaQ (zbM l)).all zfR = false) : zcW l = ([], 6) := zmG hp (by
 unfold zeE
 rcases h with h | h | h
 ·rw [h, Bool.and_false]
 ·rw [decide_eq_false h]; rfl
 ·rw [h, Bool.and_false]; rfl)
theorem zwM {l : List UInt8} (h1 : zfD l ≤ 253) (h2 : (zaQ l).all zfR = true) : zeE l = true := by unfold zeE; rw [decide_eq_true h1, h2]; rfl
theorem z5L {p : List UInt8 → Bool} {ps : List (List UInt8)} {k : Nat} {q : List UInt8} (hk : k < ps.length) (hq : ps.getD k [] = q) (h : p q = true) : ps.any p = true := by
 rw [List.any_eq_true]
 refine ⟨q, ?_, h⟩
 rw [← hq, List.getD, List.getElem?_eq_getElem hk]
 exact List.getElem_mem hk
theorem any_no {p : List UInt8 → Bool} {ps : List (List UInt8)} (h : ∀ j, j < ps.length → p (ps.getD j []) = false) : ps.any p = false := by
 rw [List.any_eq_false]
 intro x hx
 obtain ⟨j, hj, rfl⟩ := List.getElem_of_mem hx
 have := h j hj
 rw [List.getD, List.getElem?_eq_getElem hj] at this
 simpa using this
theorem ztG (q : List UInt8) : (((ByteArray.mk q.toArray).extract 0 4).toList == [120, 110, 45, 45]) = (q.take 4 == [120, 110, 45, 45]) := by rw [Lib.extract_toList]; rfl
theorem zuJ (q : List UInt8) : zgM q = (decide (4 ≤ q.length) && q.take 4 == [120, 110, 45, 45]) := by
 unfold zgM Lib.hasPrefix
 rw [Bool.eq_iff_iff, List.isPrefixOf_iff_prefix, List.prefix_iff_eq_take]
 simp only [Bool.and_eq_true, decide_eq_true_eq, beq_iff_eq, List.length_cons, List.length_nil]
 constructor
 ·intro h
  refine ⟨?_, h.symm⟩
  have := congrArg List.length h
  simp at this
  omega
 ·intro h; exact h.2.symm
theorem zoZ (s : ByteArray) (w : World) (hs : s.size ≤ 1073741824) :
  Calls Tryz.prog 12 #[.string s] w (zqH w (zcW s.data.toList)) := by
 cases hp : zdW s.data.toList with
 | false =>
  have HF := Lib.hid (ztC hp)
  go_enter Tryz.func12, Tryz.ntmps12
  go_wp2_with fail
  refine (ziQ s _ hs).mono ?_
  rw [show zgK s = false from hp]
  rintro e w' ⟨rfl, rfl⟩
  go_wp2
  go_ret2
  exact zbY HF.out (Below.refl _ _)
 | true =>
  have HP := Lib.hid hp
  obtain ⟨t, ht⟩ : ∃ t, zbM s.data.toList = t := ⟨_, rfl⟩
  have htl : t.length = s.size := by rw [← ht, zjJ, zaL]
  have HLW : Hid (∀ c ∈ t, c.toNat < 65 ∨ 90 < c.toNat) := by rw [← ht]; exact z1R _
  have HT := Lib.hid ht
  clear hp
  go_enter Tryz.func12, Tryz.ntmps12
  go_wp2_with fail
  refine (ziQ s _ hs).mono ?_
  rw [show zgK s = true from HP.out]
  rintro e w' ⟨rfl, rfl⟩
  go_wp2_with fail
  refine (zpX s _ hs).mono ?_
  rw [ht]
  rintro e w1 ⟨rfl, hb1⟩
  go_wp2_with fail
  refine (zoM ⟨t.toArray⟩ _ (by rw [zaH]; omega) (by rw [zaJ]; exact HLW.out)).mono ?_
  rw [zaJ]
  rintro e w' ⟨rfl, rfl⟩
  clear ht
  cases h2 : zfP t with
  | false =>
   have HF := Lib.hid (znC HP.out (.inl (by rw [HT.out]; exact h2)))
   go_wp2
   go_ret2
   exact zbY HF.out hb1
  | true =>
   have H2 := Lib.hid h2
   clear h2
   go_wp2_with fail
   refine (zrF ⟨t.toArray⟩ _ (by rw [zaH]; omega)).mono ?_
   rw [zaJ]
   rintro e w' ⟨rfl, rfl⟩
   obtain ⟨n, hn⟩ : ∃ n, zfD t = n := ⟨_, rfl⟩
   have hnl := ziZ t
   rw [hn] at hnl ⊢
   by_cases h1 : 253 < n
   ·have HF := Lib.hid (znC HP.out (.inr (.inl (by rw [HT.out, hn]; omega))))
    have hd : decide (253 < (n : Int)) = true := decide_eq_true (by omega)
    clear hn
    go_wp2
    go_ret2
    exact zbY HF.out hb1
   have hd : decide (253 < (n : Int)) = false := decide_eq_false (by omega)
   have H1 : Hid (zfD t ≤ 253) := by show zfD t ≤ 253; omega
   clear h1 hn hnl
   obtain ⟨ps, hps⟩ : ∃ ps, zaQ t = ps := ⟨_, rfl⟩
   have hpl := ziD t
   rw [hps] at hpl
   have HPS := Lib.hid hps
   go_wp2_with fail
   refine (zgY ⟨t.toArray⟩ _ (by rw [zaH]; omega)).mono ?_
   rw [zaJ, hps]
   rintro e w2 ⟨g, c, rfl, -, hse, hb2⟩
   have hc2 := ziA hb1 hb2
   have HC := Lib.hid hse.2
   clear hb1 hb2 hse hps
   go_wp2
   go_loop [24] (fun i => ∃ k : Nat, k ≤ ps.length ∧ i = .int .i64 k ∧ Hid (∀ j, j < k → zfR (ps.getD j []) = true)) (fun i => ps.length - (intOf i).toNat)
   case atStart => exact ⟨0, Nat.zero_le _, rfl, fun j h => absurd h (Nat.not_lt_zero j)⟩
   case round =>
    obtain ⟨k, hk, rfl, H⟩ := hrel
    by_cases hlt : k < ps.length
    ·have hcl := HC.out k hlt
     obtain ⟨q, hq⟩ : ∃ q, ps.getD k [] = q := ⟨_, rfl⟩
     rw [hq] at hcl
     have HQ := Lib.hid hq
     clear hq
     cases hy : zfR q with
     | false =>
      have HF := Lib.hid (znC HP.out (.inr (.inr (by rw [HT.out, HPS.out]; exact zxM hlt HQ.out hy))))
      have hq := of_decide_eq_false hy
      clear hy
      by_cases h1 : q.length < 1
      ·go_wp2
       go_ret2
       exact zbY HF.out hc2
      ·have hd1 : decide ((q.length : Int) < 1) = false := decide_eq_false (by omega)
       have hd2 : decide (63 < (q.length : Int)) = true := decide_eq_true (by omega)
       go_wp2
       go_ret2
       exact zbY HF.out hc2
     | true =>
      have hq := of_decide_eq_true hy
      have HY := Lib.hid hy
      have hd1 : decide ((q.length : Int) < 1) = false := decide_eq_false (by omega)
      have hd2 : decide (63 < (q.length : Int)) = false := decide_eq_false (by omega)
      clear hy hq
      go_wp2
      go_round
      case rel =>
       refine ⟨k + 1, by omega, by go_num, fun j hj => ?_⟩
       by_cases e : j = k
       ·subst e; rw [HQ.out]; exact HY.out
       ·exact H.out j (by omega)
      case measure => simp [intOf]; omega
    ·have HSZ : Hid (zeE t = true) := zwM H1.out (by rw [HPS.out]; exact zzY fun j hj => H.out j (by omega))
     clear HC
     go_wp2_with fail
     refine (zgY ⟨t.toArray⟩ _ (by rw [zaH]; omega)).mono ?_
     rw [zaJ, HPS.out]
     rintro e w3 ⟨g3, c3, rfl, -, hse, hb3⟩
     have hc3 := ziA hc2 hb3
     have HC := Lib.hid hse.2
     clear hc2 hb3 hse
     go_wp2
     go_loop [40] (fun i => ∃ k : Nat, k ≤ ps.length ∧ i = .int .i64 k ∧ Hid (∀ j, j < k → zgM (ps.getD j []) = false)) (fun i => ps.length - (intOf i).toNat)
     case atStart => exact ⟨0, Nat.zero_le _, rfl, fun j h => absurd h (Nat.not_lt_zero j)⟩
     case round =>
      obtain ⟨k, hk, rfl, H⟩ := hrel
      by_cases hlt : k < ps.length
      ·have hcl := HC.out k hlt
       obtain ⟨q, hq⟩ : ∃ q, ps.getD k [] = q := ⟨_, rfl⟩
       rw [hq] at hcl
       have HQ := Lib.hid hq
       have hct := zuJ q
       clear hq
       cases hy : zgM q with
       | true =>
        have HF := Lib.hid ((zjE HP.out (by rw [HT.out]; exact HSZ.out) (by rw [HT.out]; exact H2.out) (by rw [HT.out, HPS.out]; exact z5L hlt HQ.out hy)).trans (if_pos rfl))
        rw [hy] at hct
        clear hy
        have h4 := of_decide_eq_true (Bool.and_eq_true_iff.1 hct.symm).1
        have hx := (ztG q).trans (Bool.and_eq_true_iff.1 hct.symm).2
        have hd : decide (4 ≤ (q.length : Int)) = true := decide_eq_true (by omega)
        clear hct
        go_wp2
        go_ret2
        exact zbY HF.out hc3
       | false =>
        rw [hy] at hct
        have HY := Lib.hid hy
        clear hy
        by_cases h4 : 4 ≤ q.length
        ·have hx : (((ByteArray.mk q.toArray).extract 0 4).toList == [120, 110, 45, 45]) = false := by rw [ztG]; rw [decide_eq_true h4, Bool.true_and] at hct; exact hct.symm
         have hd : decide (4 ≤ (q.length : Int)) = true := decide_eq_true (by omega)
         clear hct
         go_wp2
         go_round
         case rel =>
          refine ⟨k + 1, by omega, by go_num, fun j hj => ?_⟩
          by_cases e : j = k
          ·subst e; rw [HQ.out]; exact HY.out
          ·exact H.out j (by omega)
         case measure => simp [intOf]; omega
        ·have hd : decide (4 ≤ (q.length : Int)) = false := decide_eq_false (by omega)
         clear hct h4
         go_wp2
         go_round
         case rel =>
          refine ⟨k + 1, by omega, by go_num, fun j hj => ?_⟩
          by_cases e : j = k
          ·subst e; rw [HQ.out]; exact HY.out
          ·exact H.out j (by omega)
         case measure => simp [intOf]; omega
      ·have HF := Lib.hid ((zjE (b := false) HP.out (by rw [HT.out]; exact HSZ.out) (by rw [HT.out]; exact H2.out) (by rw [HT.out, HPS.out]; exact any_no fun j hj => H.out j (by omega))).trans (if_neg (by decide)))
       rw [HT.out] at HF
       go_wp2
       go_ret2
       exact zbY HF.out hc3
end

end Go.Proofs.YtphapecoimlngaaGreatDoor
